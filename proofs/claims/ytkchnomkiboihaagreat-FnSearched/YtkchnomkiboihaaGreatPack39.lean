import Derived.Test.YtkchnomkiboihaaGreatPack34
import Derived.Test.YtkchnomkiboihaaGreatPack38
set_option linter.unusedSimpArgs false
set_option maxHeartbeats 4000000
set_option maxRecDepth 10000
namespace Go.Proofs.YtkchnomkiboihaaGreat
open RowKit renaming Below→Za,Hid→Zb
open Value renaming slice→za,int→ze
open IntKind renaming i64→zd
open Obj renaming cells→zg
open Proofs.Tryz renaming prog→zh
open Go renaming World→zi
open Act renaming put→zv
open Go.RowKit
open Q
theorem y97{n:Int}{zs os vs:List Int}{ko kv:Nat}{fine:Int}(hc:zd0 n zs os vs ko kv fine=true)(v:Int)(ids:List Int):0<=rcV n zs os vs ko kv v ids/\rcV n zs os vs ko kv v ids<=130000:=by
 unfold rcV;split
 ·rename_i h
  exact zu8 (zb2 hc).1 _ _ (zk2 h) _
 ·omega
def cmF(n:Int)(zs os vs:List Int)(ko kv:Nat)(R R2:List RT)(v:Int):Int:=rcV n zs os vs ko kv v (zc7 R2 v).ids - rcV n zs os vs ko kv v (zc7 R v).ids
def cmK(n:Int)(zs os vs:List Int)(ko kv:Nat)(R2:List RT)(v:Int):Bool:=decide (codeV true n zs os vs ko kv v (zc7 R2 v).ids=0)
structure CB3(w W:zi)(cs ps qs:Array Value):Prop where
 b:Za w.heap.size w W
 c:W.heap[w.heap.size]? =some (.cells cs 30 (0,0))
 p:W.heap[w.heap.size+1]? =some (.cells ps 33 (0,0))
 q:W.heap[w.heap.size+2]? =some (.cells qs 33 (0,0))
theorem CB3.below{w W W':zi}{cs ps qs:Array Value}(h:CB3 w W cs ps qs)(hb:Za W.heap.size W W'):CB3 w W' cs ps qs:=
 ⟨h.b.trans (hb.mono h.b.size),za0 hb (za2 h.c) h.c,za0 hb (za2 h.p) h.p,za0 hb (za2 h.q) h.q⟩
theorem CB3.new(w:zi)(cs ps qs:Array Value):CB3 w (((w.alloc (.cells cs 30)).alloc (.cells ps 33)).alloc (.cells qs 33)) cs ps qs:=by
 refine⟨((zP _).alloc (by simp) _).alloc (by simp;omega) _,?_,?_,?_⟩
 ·exact(xg _ _ (by simp;omega)).trans (xm _ _ _)
 ·exact(xg _ _ (by simp)).trans (xh _ _ _)
 ·have:=zS ((w.alloc (.cells cs 30)).alloc (.cells ps 33)) (.cells qs 33)
  simpa using this
theorem yM3{w W:zi}{n fine:Int}{a ao av ra la rb lb:Option Addr}{zl ac ko co kv cv nr rc ln lc mr mc ml im:Nat}(h:CB3 w W #[ze zd n,za a zl ac,za ao ko co,za av kv cv,ze zd fine] #[za ra nr rc,za la ln lc] #[za rb mr mc,za lb ml im]):W.cell? ⟨w.heap.size,0,none⟩=some (ze zd n)/\W.cell? ⟨w.heap.size,1,none⟩=some (za a zl ac)/\W.cell? ⟨w.heap.size,2,none⟩=some (za ao ko co)/\W.cell? ⟨w.heap.size,3,none⟩=some (za av kv cv)/\W.cell? ⟨w.heap.size,4,none⟩=some (ze zd fine)/\W.cell? ⟨w.heap.size+1,0,none⟩=some (za ra nr rc)/\W.cell? ⟨w.heap.size+1,1,none⟩=some (za la ln lc):=by
 obtain⟨c0,c1,c2,c3,c4⟩:=za7 h.c;obtain⟨p0,p1⟩:=za1 h.p;exact⟨c0,c1,c2,c3,c4,p0,p1⟩
theorem yL4{w W:zi}{n fine:Int}{a ao av ra la rb lb:Option Addr}{zl ac ko co kv cv nr rc ln lc mr mc ml im:Nat}(h:CB3 w W #[ze zd n,za a zl ac,za ao ko co,za av kv cv,ze zd fine] #[za ra nr rc,za la ln lc] #[za rb mr mc,za lb ml im]):W.cell? ⟨w.heap.size,0,none⟩=some (ze zd n)/\W.cell? ⟨w.heap.size,1,none⟩=some (za a zl ac)/\W.cell? ⟨w.heap.size,2,none⟩=some (za ao ko co)/\W.cell? ⟨w.heap.size,3,none⟩=some (za av kv cv)/\W.cell? ⟨w.heap.size,4,none⟩=some (ze zd fine)/\W.cell? ⟨w.heap.size+2,0,none⟩=some (za rb mr mc)/\W.cell? ⟨w.heap.size+2,1,none⟩=some (za lb ml im):=by
 obtain⟨c0,c1,c2,c3,c4⟩:=za7 h.c;obtain⟨p0,p1⟩:=za1 h.q;exact⟨c0,c1,c2,c3,c4,p0,p1⟩
theorem y55(f:Int->Int){V:List Int}{i:Nat}(hi:i<V.length):((V.take (i+1)).map f).sum=((V.take i).map f).sum+f (V.getD i 0):=by
 rw[yq hi,qJ,List.sum_append];simp[List.getD,hi]
theorem zQ7(n fine v1 v2:Int)(a ao av ra la rb lb:Option Addr)(zl ac ko co kv cv nr rc ln lc mr mc ml im:Nat)(zs os vs:List Int)(R R2:List RT)(w:zi)(hA:za3 w a zs)(hO:za3 w ao os)(hV:za3 w av vs)(aN:zs.length=zl)(an:os.length=ko*6)(au:vs.length=kv*5)(aA:ko<=9223372036854775807)(aB:kv<=9223372036854775807)(bU:zd0 n zs os vs ko kv fine=true)(hR:za9 w ra R)(ny:R.length=nr)(hn:nr<=100)(hS:zf7 R)(hi:zw3 R)(vH:za9 w rb R2)(Ka:R2.length=mr)(jv:mr<=100)(JC:zf7 R2)(Kg:zw3 R2)(B:Bool)(hB:(z67 v1 v2).all (cmK n zs os vs ko kv R2)=B)(Dd:Int)(hD:(if B=true then((z67 v1 v2).map (cmF n zs os vs ko kv R R2)).sum else 0)=Dd):
 Calls zh 155 #[.agg #[ze zd n,za a zl ac,za ao ko co,za av kv cv,ze zd fine],.agg #[za ra nr rc,za la ln lc],.agg #[za rb mr mc,za lb ml im],ze zd v1,ze zd v2] w fun e w'=>e=.returned (.tuple #[ze zd Dd,.bool B])/\Za w.heap.size w w':=by
 obtain⟨V,sx⟩:=nmd (z67 v1 v2);obtain⟨f,HF⟩:=nmd (cmF n zs os vs ko kv R R2);obtain⟨ok,tB⟩:=nmd (cmK n zs os vs ko kv R2);rw[sx.X,tB.X]at hB;rw[sx.X,HF.X]at hD;have HB:=za4 hB;have HD:Zb _:=hD;have Qh:V.length<=2:=by rw[<-sx.X];unfold z67;split<;>simp
 obtain⟨m,HM⟩:=nmd V.length;have Cr:Zb (∀v W,Za w.heap.size w W->Calls zh 153 #[.agg #[za ra nr rc,za la ln lc],ze zd v] W fun e w'=>e=.returned (.agg #[ze zd v,.slice (zc7 R v).a (zc7 R v).ids.length (zc7 R v).c])/\Za W.heap.size W w'):=fun v W hW=>by
  have:=zn7 ra la rc ln lc R v W (hR.below hW) (by omega) hS;rw[ny]at this;exact this
 have lU:Zb (∀v W,Za w.heap.size w W->Calls zh 153 #[.agg #[za rb mr mc,za lb ml im],ze zd v] W fun e w'=>e=.returned (.agg #[ze zd v,.slice (zc7 R2 v).a (zc7 R2 v).ids.length (zc7 R2 v).c])/\Za W.heap.size W w'):=fun v W hW=>by
  have:=zn7 rb lb mc ml im R2 v W (vH.below hW) (by omega) JC;rw[Ka]at this;exact this
 have Dh:Zb (∀v W,Za w.heap.size w W->Calls zh 182 #[.agg #[ze zd n,za a zl ac,za ao ko co,za av kv cv,ze zd fine],.agg #[ze zd v,.slice (zc7 R v).a (zc7 R v).ids.length (zc7 R v).c]] W fun e w'=>∃b,e=.returned (.tuple #[ze zd (rcV n zs os vs ko kv v (zc7 R v).ids),.bool b])/\Za W.heap.size W w'):=fun v W hW=>by
  obtain⟨q1,q2,q3,_⟩:=z98 (hR.below hW) hi v;have:=zp6 n fine v a ao av (zc7 R v).a ac ko co kv cv (zc7 R v).c zs os vs (zc7 R v).ids W (hA.below hW) (hO.below hW) (hV.below hW) q1 an au aA aB (by omega) q3 bU _ rfl _ rfl;rw[aN]at this;exact this.mono (fun e w' h=>⟨_,h⟩)
 have Ch:Zb (∀v W,Za w.heap.size w W->Calls zh 182 #[.agg #[ze zd n,za a zl ac,za ao ko co,za av kv cv,ze zd fine],.agg #[ze zd v,.slice (zc7 R2 v).a (zc7 R2 v).ids.length (zc7 R2 v).c]] W fun e w'=>e=.returned (.tuple #[ze zd (rcV n zs os vs ko kv v (zc7 R2 v).ids),.bool (ok v)])/\Za W.heap.size W w'):=fun v W hW=>by
  obtain⟨q1,q2,q3,_⟩:=z98 (vH.below hW) Kg v;have:=zp6 n fine v a ao av (zc7 R2 v).a ac ko co kv cv (zc7 R2 v).c zs os vs (zc7 R2 v).ids W (hA.below hW) (hO.below hW) (hV.below hW) q1 an au aA aB (by omega) q3 bU (ok v) (by rw[<-tB.X];rfl) _ rfl;rw[aN]at this;exact this
 have u4:Zb (∀v,f v=rcV n zs os vs ko kv v (zc7 R2 v).ids - rcV n zs os vs ko kv v (zc7 R v).ids/\0<=rcV n zs os vs ko kv v (zc7 R2 v).ids/\rcV n zs os vs ko kv v (zc7 R2 v).ids<=130000/\0<=rcV n zs os vs ko kv v (zc7 R v).ids/\rcV n zs os vs ko kv v (zc7 R v).ids<=130000):=fun v=>by
  have b1:=y97 bU v (zc7 R2 v).ids;have b2:=y97 bU v (zc7 R v).ids;exact⟨by rw[<-HF.X];rfl,b1.1,b1.2,b2.1,b2.2⟩
 clear hA hO hV aN an au aA aB bU hR ny hn hS hi vH Ka jv JC Kg hB hD HF tB;have Q0:Zb (CB3 w (((w.alloc (zg #[ze zd n,za a zl ac,za ao ko co,za av kv cv,ze zd fine] 30)).alloc (zg #[za ra nr rc,za la ln lc] 33)).alloc (zg #[za rb mr mc,za lb ml im] 33)) #[ze zd n,za a zl ac,za ao ko co,za av kv cv,ze zd fine] #[za ra nr rc,za la ln lc] #[za rb mr mc,za lb ml im]):=CB3.new _ _ _ _;have B4:Zb (Za (((w.alloc (zg #[ze zd n,za a zl ac,za ao ko co,za av kv cv,ze zd fine] 30)).alloc (zg #[za ra nr rc,za la ln lc] 33)).alloc (zg #[za rb mr mc,za lb ml im] 33)).heap.size (((w.alloc (zg #[ze zd n,za a zl ac,za ao ko co,za av kv cv,ze zd fine] 30)).alloc (zg #[za ra nr rc,za la ln lc] 33)).alloc (zg #[za rb mr mc,za lb ml im] 33)) ((((w.alloc (zg #[ze zd n,za a zl ac,za ao ko co,za av kv cv,ze zd fine] 30)).alloc (zg #[za ra nr rc,za la ln lc] 33)).alloc (zg #[za rb mr mc,za lb ml im] 33)).alloc (zg #[ze zd v1,ze zd v2] 2))):=zP _;have O4:Zb (((((w.alloc (zg #[ze zd n,za a zl ac,za ao ko co,za av kv cv,ze zd fine] 30)).alloc (zg #[za ra nr rc,za la ln lc] 33)).alloc (zg #[za rb mr mc,za lb ml im] 33)).alloc (zg #[ze zd v1,ze zd v2] 2)).ownsRow (w.heap.size+3) 2 1 (za (some ⟨w.heap.size+3,0,none⟩) 2 2) 2 ([v1,v2].map (ze zd))):=by
  have hr:=zS (((w.alloc (zg #[ze zd n,za a zl ac,za ao ko co,za av kv cv,ze zd fine] 30)).alloc (zg #[za ra nr rc,za la ln lc] 33)).alloc (zg #[za rb mr mc,za lb ml im] 33)) (zg #[ze zd v1,ze zd v2] 2);have hk:(((w.alloc (zg #[ze zd n,za a zl ac,za ao ko co,za av kv cv,ze zd fine] 30)).alloc (zg #[za ra nr rc,za la ln lc] 33)).alloc (zg #[za rb mr mc,za lb ml im] 33)).heap.size=w.heap.size+3:=by simp
  rw[hk]at hr;exact⟨by simp,.inr ⟨w.heap.size+3,2,_,rfl,zT _,hr,zT _,by unfold maxLen;omega,by simp,by simp⟩⟩
 go_enter Tryz.func155,Tryz.ntmps155
 go_wp2_with fail
 have Q4:Zb _:=Q0.below B4.X;clear B4 Q0;generalize(((w.alloc _).alloc _).alloc _).alloc _=W4 at*;have CM:=zV8 v1 v2 (w.heap.size+3) 2 (w.heap.size+3) W4 O4.X;rw[sx.X,HM.X]at CM;refine CM.mono ?_;rintro e w1 ⟨rfl,hb,ho⟩;have Q1:Zb (CB3 w w1 #[ze zd n,za a zl ac,za ao ko co,za av kv cv,ze zd fine] #[za ra nr rc,za la ln lc] #[za rb mr mc,za lb ml im]):=by
  have hc:=Q4.X;exact⟨hc.b.trans (hb.mono (by omega)),za0 hb (by omega) hc.c,za0 hb (by omega) hc.p,za0 hb (by omega) hc.q⟩
 have I1:=za4 (ze8 ho);clear hb ho CM Q4 O4 sx;obtain⟨g,HG⟩:=nmd (w.heap.size+3);rw[HG.X]at I1
 try rw[HG.X]
 go_wp2_with fail
 go_loopw[12,24] (fun tt ti wr=>∃i:Nat,i<=m/\ti=ze zd i/\tt=ze zd ((V.take i).map f).sum/\(-130000*(i:Int)<=((V.take i).map f).sum/\((V.take i).map f).sum<=130000*(i:Int))/\(∀j,j<i->ok (V.getD j 0)=true)/\CB3 w wr #[ze zd n,za a zl ac,za ao ko co,za av kv cv,ze zd fine] #[za ra nr rc,za la ln lc] #[za rb mr mc,za lb ml im]/\za3 wr (some ⟨g,0,none⟩) V) (fun _ ti _=>m - (intOf ti).toNat)
 case atStart=>exact⟨0,xi _,rfl,rfl,by simp,fun j hj=>by omega,Q1.X,I1.X⟩
 case round=>
  clear Q1 I1;obtain⟨i,hi,rfl,rfl,⟨d8,gR⟩,aP,hQ,hI⟩:=hrel;have Q2:Zb _:=hQ;have I2:=za4 hI;have H8:Zb _:=aP;clear hQ hI aP;have jv:m<=2:=by rw[<-HM.X];exact Qh
  by_cases ah:i<m
  ·have ek:(i:Int)<(m:Int):=by omega
   obtain⟨b,off,e,hc⟩:=I2.X i (by rw[HM.X];exact ah);simp only[jf,qg,qt]at e;obtain⟨rfl,rfl⟩:=e;rw[yb]at hc;have fS:=y55 f (V:=V) (i:=i) (by rw[HM.X];exact ah);obtain⟨hf,y0,y1,x0,x1⟩:=u4.X (V.getD i 0);have Cq:Zb (∀b,ok (V.getD i 0)=b->(b=false->B=false)/\(b=true->∀j,j<i+1->ok (V.getD j 0)=true)):=fun b hb=>by
    refine⟨fun e9=> ?_,fun e9 j hj=> ?_⟩
    ·rw[<-HB.X,List.all_eq_false]
     refine⟨V.getD i 0,zx3 _ _ (by rw[HM.X];exact ah),?_⟩;rw[hb,e9];simp
    ·by_cases e8:j=i
     ·rw[e8,hb,e9]
     ·exact H8.X j (by omega)
   have Jp:=Cr.X (V.getD i 0);have Jz:=lU.X (V.getD i 0);have cJ:=Dh.X (V.getD i 0);have ai:=Ch.X (V.getD i 0);obtain⟨MU,Bz⟩:=nmd (ok (V.getD i 0));have Dn:=Cq.X _ Bz.X;rw[Bz.X]at ai;clear Cq;generalize rcV n zs os vs ko kv (V.getD i 0) (zc7 R2 (V.getD i 0)).ids=y at*;generalize rcV n zs os vs ko kv (V.getD i 0) (zc7 R (V.getD i 0)).ids=x at*;generalize(zc7 R (V.getD i 0)).ids.length=l1 at*;generalize(zc7 R (V.getD i 0)).a=a1 at*;generalize(zc7 R (V.getD i 0)).c=c1 at*;generalize(zc7 R2 (V.getD i 0)).ids.length=l2 at*;generalize(zc7 R2 (V.getD i 0)).a=a2 at*;generalize(zc7 R2 (V.getD i 0)).c=c2 at*;rw[hf]at fS;obtain⟨s,HS⟩:=nmd (((V.take i).map f).sum);rw[HS.X]at fS d8 gR⊢;have oZ:Zb _:=fS;have tX:Zb _:=Jp;have sI:Zb _:=Jz;have ub:Zb _:=cJ;have sY:Zb _:=ai;generalize V.getD i 0=v at*;clear Jp Jz cJ ai fS hf Bz H8;have KZ:Zb _:=Dn;clear Dn
   go_wp2_with fail
   clear hc;refine qG (S:=(fun W=>W.cell? ⟨w.heap.size,0,none⟩=some (ze zd n)/\W.cell? ⟨w.heap.size,1,none⟩=some (za a zl ac)/\W.cell? ⟨w.heap.size,2,none⟩=some (za ao ko co)/\W.cell? ⟨w.heap.size,3,none⟩=some (za av kv cv)/\W.cell? ⟨w.heap.size,4,none⟩=some (ze zd fine)/\W.cell? ⟨w.heap.size+1,0,none⟩=some (za ra nr rc)/\W.cell? ⟨w.heap.size+1,1,none⟩=some (za la ln lc))) (by kernel_rfl) ?_ fun aa=> ?_
   ·exact yM3 (Q2.below (y5 _ _).drew)
   have KU:Zb _:=Q2.below (y5 _ _).drew;have Qb:Zb (za3 wr.drew (some ⟨g,0,none⟩) V):=I2.below (y5 _ _).drew;generalize wr.drew=wd5 at*;refine xR (i:=0) (v:= ?_) rfl (by kernel_rfl) (by kernel_rfl) (by kernel_rfl) (fun _ _ _ h=>h) (yX ⟨by kernel_rfl,?_⟩) aa ?_;rotate_left;focus(intro w hSw;(try dsimp only at hSw);(try go_split_ands);go_simp;all_goals with_reducible rfl)
   change wpAnyH _ _ _ _ _ _ _ (zv _ (some 29) _) _;simp only[zv,xM,xN,xO];refine xR (i:=1) (v:= ?_) rfl (by kernel_rfl) (by kernel_rfl) (by kernel_rfl) (fun _ _ _ h=>h) (yX ⟨by kernel_rfl,?_⟩) aa ?_;rotate_left;focus(intro w hSw;(try dsimp only at hSw);(try go_split_ands);go_simp;all_goals with_reducible rfl)
   change wpAnyH _ _ _ _ _ _ _ (zv _ (some 30) _) _;simp only[zv,xM,xN,xO];refine xR (i:=2) (v:= ?_) rfl (by kernel_rfl) (by kernel_rfl) (by kernel_rfl) (fun _ _ _ h=>h) (yX ⟨by kernel_rfl,?_⟩) aa ?_;rotate_left;focus(intro w hSw;(try dsimp only at hSw);(try go_split_ands);go_simp;all_goals with_reducible rfl)
   change wpAnyH _ _ _ _ _ _ _ (zv _ (some 31) _) _;simp only[zv,xM,xN,xO];refine rdH 3 fun K hK=> ?_;go_simp;refine(tX.X wd5 KU.b).mono ?_;rintro e w6 ⟨rfl,hb⟩;have Qa:Zb _:=hb;have Fe:Zb _:=KU.below hb;clear hb
   (try go_wp2_with fail)
   refine hoW hK (yM3 Fe.X) fun aa=> ?_;clear hK K;refine rdH 4 fun K hK=> ?_;go_simp;refine(ub.X w6 Fe.b).mono ?_;rintro e w7 ⟨bb,rfl,hb⟩;have Iq:Zb _:=Fe.below hb;have Ol:=za4 ((Qb.below Qa.X).below hb);clear hb
   (try go_wp2_with fail)
   refine hoW hK (yM3 Iq.X) fun aa=> ?_;clear hK K;refine xR (i:=5) (v:= ?_) rfl (by kernel_rfl) (by kernel_rfl) (by kernel_rfl) (fun _ _ _ h=>h) (yX ⟨by kernel_rfl,?_⟩) aa ?_;rotate_left;focus(intro w hSw;(try dsimp only at hSw);(try go_split_ands);go_simp;all_goals with_reducible rfl)
   change wpAnyH _ _ _ _ _ _ _ (zv _ (some 28) _) _;simp only[zv,xM,xN,xO];refine xR (i:=6) (v:= ?_) rfl (by kernel_rfl) (by kernel_rfl) (by kernel_rfl) (fun _ _ _ h=>h) (yX ⟨by kernel_rfl,?_⟩) aa ?_;rotate_left;focus(intro w hSw;(try dsimp only at hSw);(try go_split_ands);go_simp;all_goals with_reducible rfl)
   change wpAnyH _ _ _ _ _ _ _ (zv _ (some 34) _) _;simp only[zv,xM,xN,xO];refine xR (i:=7) (v:= ?_) rfl (by kernel_rfl) (by kernel_rfl) (by kernel_rfl) (fun _ _ _ h=>h) (yX ⟨by kernel_rfl,?_⟩) aa ?_;rotate_left;focus(intro w hSw;(try dsimp only at hSw);(try go_split_ands);go_simp;all_goals with_reducible rfl)
   change wpAnyH _ _ _ _ _ _ _ (zv _ (some 35) _) _;simp only[zv,xM,xN,xO];refine xR (i:=8) (v:= ?_) rfl (by kernel_rfl) (by kernel_rfl) (by kernel_rfl) (fun _ _ _ h=>h) (yX ⟨by kernel_rfl,?_⟩) aa ?_;rotate_left;focus(intro w hSw;(try dsimp only at hSw);(try go_split_ands);go_simp;all_goals with_reducible rfl)
   change wpAnyH _ _ _ _ _ _ _ (zv _ (some 15) _) _;simp only[zv,xM,xN,xO];refine xR (i:=9) (v:= ?_) rfl (by kernel_rfl) (by kernel_rfl) (by kernel_rfl) (fun _ _ _ h=>h) (yX ⟨by kernel_rfl,?_⟩) aa ?_;rotate_left;focus(intro w hSw;(try dsimp only at hSw);(try go_split_ands);go_simp;all_goals with_reducible rfl)
   change wpAnyH _ _ _ _ _ _ _ (zv _ (some 16) _) _;simp only[zv,xM,xN,xO];refine qF (by kernel_rfl) ?_ _;clear aa
   go_wp2_with fail
   refine qG (S:=(fun W=>W.cell? ⟨w.heap.size,0,none⟩=some (ze zd n)/\W.cell? ⟨w.heap.size,1,none⟩=some (za a zl ac)/\W.cell? ⟨w.heap.size,2,none⟩=some (za ao ko co)/\W.cell? ⟨w.heap.size,3,none⟩=some (za av kv cv)/\W.cell? ⟨w.heap.size,4,none⟩=some (ze zd fine)/\W.cell? ⟨w.heap.size+2,0,none⟩=some (za rb mr mc)/\W.cell? ⟨w.heap.size+2,1,none⟩=some (za lb ml im))) (by kernel_rfl) ?_ fun aa=> ?_
   ·exact yL4 (Iq.below (y5 _ _).drew)
   have CV:Zb _:=Iq.below (y5 _ _).drew;have Oz:Zb (za3 w7.drew (some ⟨g,0,none⟩) V):=Ol.below (y5 _ _).drew;generalize w7.drew=wd6 at*;refine xR (i:=0) (v:= ?_) rfl (by kernel_rfl) (by kernel_rfl) (by kernel_rfl) (fun _ _ _ h=>h) (yX ⟨by kernel_rfl,?_⟩) aa ?_;rotate_left;focus(intro w hSw;(try dsimp only at hSw);(try go_split_ands);go_simp;all_goals with_reducible rfl)
   change wpAnyH _ _ _ _ _ _ _ (zv _ (some 37) _) _;simp only[zv,xM,xN,xO];refine xR (i:=1) (v:= ?_) rfl (by kernel_rfl) (by kernel_rfl) (by kernel_rfl) (fun _ _ _ h=>h) (yX ⟨by kernel_rfl,?_⟩) aa ?_;rotate_left;focus(intro w hSw;(try dsimp only at hSw);(try go_split_ands);go_simp;all_goals with_reducible rfl)
   change wpAnyH _ _ _ _ _ _ _ (zv _ (some 38) _) _;simp only[zv,xM,xN,xO];refine xR (i:=2) (v:= ?_) rfl (by kernel_rfl) (by kernel_rfl) (by kernel_rfl) (fun _ _ _ h=>h) (yX ⟨by kernel_rfl,?_⟩) aa ?_;rotate_left;focus(intro w hSw;(try dsimp only at hSw);(try go_split_ands);go_simp;all_goals with_reducible rfl)
   change wpAnyH _ _ _ _ _ _ _ (zv _ (some 39) _) _;simp only[zv,xM,xN,xO];refine rdH 3 fun K hK=> ?_;go_simp;refine(sI.X wd6 CV.b).mono ?_;rintro e w8 ⟨rfl,hb⟩;have MW:Zb _:=hb;have EX:Zb _:=CV.below hb;clear hb
   (try go_wp2_with fail)
   refine hoW hK (yL4 EX.X) fun aa=> ?_;clear hK K;refine rdH 4 fun K hK=> ?_;go_simp;refine(sY.X w8 EX.b).mono ?_;rintro e w9 ⟨rfl,hb⟩;have Hl:Zb _:=EX.below hb;have NZ:=za4 ((Oz.below MW.X).below hb);clear hb
   (try go_wp2_with fail)
   refine hoW hK (yL4 Hl.X) fun aa=> ?_;clear hK K;refine xR (i:=5) (v:= ?_) rfl (by kernel_rfl) (by kernel_rfl) (by kernel_rfl) (fun _ _ _ h=>h) (yX ⟨by kernel_rfl,?_⟩) aa ?_;rotate_left;focus(intro w hSw;(try dsimp only at hSw);(try go_split_ands);go_simp;all_goals with_reducible rfl)
   change wpAnyH _ _ _ _ _ _ _ (zv _ (some 36) _) _;simp only[zv,xM,xN,xO];refine xR (i:=6) (v:= ?_) rfl (by kernel_rfl) (by kernel_rfl) (by kernel_rfl) (fun _ _ _ h=>h) (yX ⟨by kernel_rfl,?_⟩) aa ?_;rotate_left;focus(intro w hSw;(try dsimp only at hSw);(try go_split_ands);go_simp;all_goals with_reducible rfl)
   change wpAnyH _ _ _ _ _ _ _ (zv _ (some 42) _) _;simp only[zv,xM,xN,xO];refine xR (i:=7) (v:= ?_) rfl (by kernel_rfl) (by kernel_rfl) (by kernel_rfl) (fun _ _ _ h=>h) (yX ⟨by kernel_rfl,?_⟩) aa ?_;rotate_left;focus(intro w hSw;(try dsimp only at hSw);(try go_split_ands);go_simp;all_goals with_reducible rfl)
   change wpAnyH _ _ _ _ _ _ _ (zv _ (some 43) _) _;simp only[zv,xM,xN,xO];refine xR (i:=8) (v:= ?_) rfl (by kernel_rfl) (by kernel_rfl) (by kernel_rfl) (fun _ _ _ h=>h) (yX ⟨by kernel_rfl,?_⟩) aa ?_;rotate_left;focus(intro w hSw;(try dsimp only at hSw);(try go_split_ands);go_simp;all_goals with_reducible rfl)
   change wpAnyH _ _ _ _ _ _ _ (zv _ (some 17) _) _;simp only[zv,xM,xN,xO];refine xR (i:=9) (v:= ?_) rfl (by kernel_rfl) (by kernel_rfl) (by kernel_rfl) (fun _ _ _ h=>h) (yX ⟨by kernel_rfl,?_⟩) aa ?_;rotate_left;focus(intro w hSw;(try dsimp only at hSw);(try go_split_ands);go_simp;all_goals with_reducible rfl)
   change wpAnyH _ _ _ _ _ _ _ (zv _ (some 18) _) _;simp only[zv,xM,xN,xO];refine qF (by kernel_rfl) ?_ _;clear aa;cases MU
   ·have Nv:=KZ.1 rfl
    subst Nv;have Lj:Dd=0:=by rw[<-HD.X];rfl
    subst Lj;clear HD HB u4 Cr lU Dh Ch tX sI ub sY;go_wp2;go_ret2;exact⟨rfl,Hl.b⟩
   ·clear u4 Cr lU Dh Ch tX sI ub sY
    go_wp2;go_roundw
    case rel=>exact⟨i+1,by omega,by first|rfl|go_num,by rw[oZ.X],by rw[oZ.X];constructor<;>(push_cast;omega),KZ.2 rfl,Hl.X,NZ.X⟩
    case measure=>simp[intOf];omega
  ·have ek:¬((i:Int)<(m:Int)):=by omega
   have tr:i=m:=by omega
   subst tr;have JJ:B=true:=by
    rw[<-HB.X,List.all_eq_true];intro x hx;obtain⟨j,hj,e⟩:=zt5 hx;rw[<-e];exact H8.X j (by rw[<-HM.X];exact hj)
   have OL:((V.take i).map f).sum=Dd:=by
    rw[<-HD.X,z7 JJ,<-HM.X,ym]
   rw[OL];subst JJ;clear HD HB u4 Cr lU Dh Ch;go_wp2;go_ret2;exact⟨rfl,Q2.b⟩
theorem yb7(n fine:Int)(a ao av ra la:Option Addr)(zl ac ko co kv cv nr rc ln lc:Nat)(zs os vs:List Int)(R:List RT)(w:zi)(hA:za3 w a zs)(hO:za3 w ao os)(hV:za3 w av vs)(aN:zs.length=zl)(an:os.length=ko*6)(au:vs.length=kv*5)(aA:ko<=9223372036854775807)(aB:kv<=9223372036854775807)(bU:zd0 n zs os vs ko kv fine=true)(hR:za9 w ra R)(ny:R.length=nr)(hn:nr<=100)(hS:zf7 R)(hi:zw3 R)(id ab:Int)(pl pc pp:Nat)(eF:w.heap[pc]? =some (zg #[ze zd n,za a zl ac,za ao ko co,za av kv cv,ze zd fine] 30 (0,0)))(oO:w.heap[pp]? =some (zg #[(za ra nr rc),(za la ln lc)] 33 (0,0))):
 Calls zh 158 #[.agg #[ze zd id,ze zd ab,ze zd (pl:Int)],.pointer (some ⟨pc,0,none⟩),.pointer (some ⟨pp,0,none⟩)] w fun e w'=>e=.returned (.tuple #[ze zd (gD n zs os vs ko kv R (id,ab,pl)),.bool (gOk n fine zs os vs ko kv R (id,ab,pl))])/\Za w.heap.size w w':=by
 have B0:Zb (Za w.heap.size w (w.alloc (zg #[ze zd id,ze zd ab,ze zd (pl:Int)] 129))):=zP _;obtain⟨ch,bL⟩:=nmd (gB n zs os vs ko kv R (id,ab,pl));obtain⟨dd,bk⟩:=nmd (gD n zs os vs ko kv R (id,ab,pl));obtain⟨xs,oP⟩:=nmd (chL ch (insL (zc7 R ab).ids pl id));obtain⟨vv,et⟩:=nmd (chI ch ab);obtain⟨xl,aY⟩:=nmd xs.length;have aP:(ch=true/\dd<=fine/\gOk n fine zs os vs ko kv R (id,ab,pl)=true)∨(ch=true/\¬dd<=fine/\gOk n fine zs os vs ko kv R (id,ab,pl)=false)∨(ch=false/\gOk n fine zs os vs ko kv R (id,ab,pl)=false):=by
  unfold gOk;rw[bL.X,bk.X];cases ch
  ·exact .inr (.inr ⟨rfl,rfl⟩)
  ·by_cases h:dd<=fine
   ·exact .inl ⟨rfl,h,by simp[h]⟩
   ·exact .inr (.inl ⟨rfl,h,by simp[h]⟩)
 have pF:=ym2 n fine a ao av ra ac ko co kv cv zs os vs R (w.alloc (zg #[ze zd id,ze zd ab,ze zd (pl:Int)] 129)) (hA.below B0.X) (hO.below B0.X) (hV.below B0.X) an au aA aB bU (hR.below B0.X) hi id ab pl ch bL.X dd bk.X xs oP.X;have pj:∀W,Za (w.alloc (zg #[ze zd id,ze zd ab,ze zd (pl:Int)] 129)).heap.size (w.alloc (zg #[ze zd id,ze zd ab,ze zd (pl:Int)] 129)) W->_:=fun W hW=>zn7 ra la rc ln lc R ab W ((hR.below B0.X).below hW) (by omega) hS
 rw[ny]at pj;rw[aN]at pF;rw[bk.X];have G0:Zb (GB (w.alloc (zg #[ze zd id,ze zd ab,ze zd (pl:Int)] 129)) (w.alloc (zg #[ze zd id,ze zd ab,ze zd (pl:Int)] 129)) pc pp w.heap.size #[ze zd n,za a zl ac,za ao ko co,za av kv cv,ze zd fine] (za ra nr rc) (za la ln lc) id ab pl):=GB.new ((xg _ _ (za2 eF)).trans eF) ((xg _ _ (za2 oO)).trans oO) (zS _ _);obtain⟨rl,cu⟩:=nmd ((zc7 R ab).ids.length);obtain⟨aO,pN⟩:=nmd ((zc7 R ab).a);obtain⟨bg,bw⟩:=nmd ((zc7 R ab).c);rw[cu.X,pN.X,bw.X]at pj pF;have RO:Zb _:=pj;have CH:Zb _:=pF;clear pj pF hA hO hV aN an au aA aB bU hR ny hn hS hi eF oO;go_enter Tryz.func158,Tryz.ntmps158;go_upto_region 1 with fail;obtain⟨ps,Hj⟩:=nmd w.heap.size;rw[Hj.X]at G0⊢;generalize w.alloc _=W0 at*;go_cut [6,7,8]from 9 to 23 (fun s6 s7 s8 wx=>∃kz:Nat,s6=.pointer (some ⟨kz,0,none⟩)/\s7=ze zd dd/\s8=.bool ch/\GB W0 wx pc pp ps #[ze zd n,za a zl ac,za ao ko co,za av kv cv,ze zd fine] (za ra nr rc) (za la ln lc) id ab pl)
 case first=>
  go_wp2_with fail
  refine qG (S:=(fun W=>W.cell? ⟨pc,0,none⟩=some (ze zd n)/\W.cell? ⟨pc,1,none⟩=some (za a zl ac)/\W.cell? ⟨pc,2,none⟩=some (za ao ko co)/\W.cell? ⟨pc,3,none⟩=some (za av kv cv)/\W.cell? ⟨pc,4,none⟩=some (ze zd fine)/\W.cell? ⟨pp,0,none⟩=some (za ra nr rc)/\W.cell? ⟨pp,1,none⟩=some (za la ln lc)/\W.cell? ⟨ps,0,none⟩=some (ze zd id)/\W.cell? ⟨ps,1,none⟩=some (ze zd ab)/\W.cell? ⟨ps,2,none⟩=some (ze zd (pl:Int)))) (by kernel_rfl) ?_ fun aa=> ?_
  ·exact(G0.X.below (y5 _ _).drew).cells
  have GD:=za4 (G0.X.below (y5 _ _).drew);generalize W0.drew=wd at*;refine tkH 0 aa ?_;refine tkH 1 aa ?_;refine tkH 2 aa ?_;refine tkH 3 aa ?_;refine tkH 5 aa ?_;refine tkH 6 aa ?_;refine tkH 7 aa ?_;refine tkH 8 aa ?_;refine xQ (rs:=[4,15]) (by kernel_rfl) (by simp) ?_;refine xL rfl (fun K hK=> ?_) ?_
  ·skip
   go_simp;refine(RO.X wd GD.X.b).mono ?_;rintro e w1 ⟨rfl,hb⟩;have G1:=za4 (GD.X.below hb);clear hb
   (try go_wp2_with fail)
   refine hoW hK G1.X.cells fun aa=> ?_;clear hK K;refine xQ (rs:=[9,15]) (by kernel_rfl) (by simp) ?_;refine xL rfl (fun K hK=> ?_) ?_
   ·skip
    go_simp;refine(zh6 id (pl:Int) w1).mono ?_;rintro e w2 ⟨p,q,rfl,hb,cP,gM⟩;have G2:=za4 (G1.X.below hb);have eR:Zb (w2.cell? ⟨p,0,none⟩=some (ze zd (pl:Int))/\w2.cell? ⟨q,0,none⟩=some (ze zd id)):=⟨cP,gM⟩;have PB:Zb (Za w2.heap.size w2 w2):=y5 _ _;clear hb cP gM
    (try go_wp2_with fail)
    refine hoW hK G2.X.cells fun aa=> ?_;clear hK K;refine xQ (rs:=[10,15]) (by kernel_rfl) (by simp) ?_;refine xL rfl (fun K hK=> ?_) ?_
    ·skip
     go_simp;refine(CH.X w2 w2 p q G2.X.b eR.X.1 eR.X.2 PB.X).mono ?_;rintro e w3 ⟨hb,ad,cg,rfl,ho⟩;rw[et.X,aY.X];have G3:=za4 (G2.X.below hb);clear hb ho
     (try go_wp2_with fail)
     refine hoW hK G3.X.cells fun aa=> ?_;clear hK K;refine tkH 11 aa ?_;refine tkH 12 aa ?_;refine tkH 13 aa ?_;refine tkH 14 aa ?_;refine rdH 15 fun K hK=> ?_;have GZ:Zb (GB W0 (w3.alloc (zg #[ze zd 0,za none 0 0] 80)) pc pp ps #[ze zd n,za a zl ac,za ao ko co,za av kv cv,ze zd fine] (za ra nr rc) (za la ln lc) id ab pl):=G3.X.below (zP _);have aw:=za4 (zS w3 (zg #[ze zd 0,za none 0 0] 80));have aH:Zb (W0.heap.size<=w3.heap.size):=G3.X.b.size;go_simp;refine hoW hK GZ.X.cells fun aa=> ?_;clear hK K;obtain⟨kz,cA⟩:=nmd w3.heap.size;rw[cA.X]at aw aH⊢;generalize(w3.alloc _)=wz at*;obtain⟨z0,z1⟩:=za1 aw.X;have zf:=fun i=>yZ _ _ i _ _ aw.X;refine rdH 16 fun K hK=> ?_;have G5:Zb (GB W0 ((wz.setCell ⟨kz,0,none⟩ (ze zd vv)).setCell ⟨kz,1,none⟩ (za ad xl cg)) pc pp ps #[ze zd n,za a zl ac,za ao ko co,za av kv cv,ze zd fine] (za ra nr rc) (za la ln lc) id ab pl):=(GZ.X.set aH.X).set aH.X;have V5:Zb (((wz.setCell ⟨kz,0,none⟩ (ze zd vv)).setCell ⟨kz,1,none⟩ (za ad xl cg)).heap[kz]? =some (zg #[ze zd vv,za ad xl cg] 80 (0,0))):=by
      have s1:=xb wz kz 0 _ _ (ze zd vv) aw.X;have s2:=xb _ kz 1 _ _ (za ad xl cg) s1;simp at s2;exact s2
     go_simp;refine hoW hK G5.X.cells fun aa=> ?_;clear hK K;generalize((wz.setCell ⟨kz,0,none⟩ _).setCell ⟨kz,1,none⟩ _)=w5 at*;refine tkH 17 aa ?_;refine tkH 18 aa ?_;refine qF (by kernel_rfl) ?_ _;clear aa
     (try go_wp2_with fail)
     go_meet;exact⟨kz,rfl,rfl,rfl,G5.X⟩
    refine xL rfl (fun K hK=> ?_) xP;have GZ:Zb (GB W0 (w2.alloc (zg #[ze zd 0,za none 0 0] 80)) pc pp ps #[ze zd n,za a zl ac,za ao ko co,za av kv cv,ze zd fine] (za ra nr rc) (za la ln lc) id ab pl):=G2.X.below (zP _);have aw:=za4 (zS w2 (zg #[ze zd 0,za none 0 0] 80));have aH:Zb (W0.heap.size<=w2.heap.size):=G2.X.b.size;have Gi:Zb (Za w2.heap.size w2 (w2.alloc (zg #[ze zd 0,za none 0 0] 80))):=zP _;go_simp;refine hoW hK GZ.X.cells fun aa=> ?_;clear hK K;obtain⟨kz,cA⟩:=nmd w2.heap.size;rw[cA.X]at aw aH⊢;generalize(w2.alloc _)=wz at*;obtain⟨z0,z1⟩:=za1 aw.X;have zf:=fun i=>yZ _ _ i _ _ aw.X;refine rdH 10 fun K hK=> ?_;go_simp;refine(CH.X w2 wz p q G2.X.b eR.X.1 eR.X.2 Gi.X).mono ?_;rintro e w3 ⟨hb,ad,cg,rfl,ho⟩;rw[et.X,aY.X];have G3:=za4 (GZ.X.below hb);have ez:=za4 (za0 hb (za2 aw.X) aw.X);obtain⟨z0,z1⟩:=za1 ez.X;have zf:=fun i=>yZ _ _ i _ _ ez.X;clear hb ho
    (try go_wp2_with fail)
    refine hoW hK G3.X.cells fun aa=> ?_;clear hK K;refine tkH 11 aa ?_;refine tkH 12 aa ?_;refine tkH 13 aa ?_;refine tkH 14 aa ?_;refine rdH 16 fun K hK=> ?_;have G5:Zb (GB W0 ((w3.setCell ⟨kz,0,none⟩ (ze zd vv)).setCell ⟨kz,1,none⟩ (za ad xl cg)) pc pp ps #[ze zd n,za a zl ac,za ao ko co,za av kv cv,ze zd fine] (za ra nr rc) (za la ln lc) id ab pl):=(G3.X.set aH.X).set aH.X;have V5:Zb (((w3.setCell ⟨kz,0,none⟩ (ze zd vv)).setCell ⟨kz,1,none⟩ (za ad xl cg)).heap[kz]? =some (zg #[ze zd vv,za ad xl cg] 80 (0,0))):=by
     have s1:=xb w3 kz 0 _ _ (ze zd vv) ez.X;have s2:=xb _ kz 1 _ _ (za ad xl cg) s1;simp at s2;exact s2
    go_simp;refine hoW hK G5.X.cells fun aa=> ?_;clear hK K;generalize((w3.setCell ⟨kz,0,none⟩ _).setCell ⟨kz,1,none⟩ _)=w5 at*;refine tkH 17 aa ?_;refine tkH 18 aa ?_;refine qF (by kernel_rfl) ?_ _;clear aa
    (try go_wp2_with fail)
    go_meet;exact⟨kz,rfl,rfl,rfl,G5.X⟩
   refine xL rfl (fun K hK=> ?_) xP;have GZ:Zb (GB W0 (w1.alloc (zg #[ze zd 0,za none 0 0] 80)) pc pp ps #[ze zd n,za a zl ac,za ao ko co,za av kv cv,ze zd fine] (za ra nr rc) (za la ln lc) id ab pl):=G1.X.below (zP _);have aw:=za4 (zS w1 (zg #[ze zd 0,za none 0 0] 80));have aH:Zb (W0.heap.size<=w1.heap.size):=G1.X.b.size;go_simp;refine hoW hK GZ.X.cells fun aa=> ?_;clear hK K;obtain⟨kz,cA⟩:=nmd w1.heap.size;rw[cA.X]at aw aH⊢;generalize(w1.alloc _)=wz at*;obtain⟨z0,z1⟩:=za1 aw.X;have zf:=fun i=>yZ _ _ i _ _ aw.X;refine rdH 9 fun K hK=> ?_;go_simp;refine(zh6 id (pl:Int) wz).mono ?_;rintro e w2 ⟨p,q,rfl,hb,cP,gM⟩;have G2:=za4 (GZ.X.below hb);have eR:Zb (w2.cell? ⟨p,0,none⟩=some (ze zd (pl:Int))/\w2.cell? ⟨q,0,none⟩=some (ze zd id)):=⟨cP,gM⟩;have PB:Zb (Za w2.heap.size w2 w2):=y5 _ _;have mW:=za4 (za0 hb (za2 aw.X) aw.X);clear hb cP gM
   (try go_wp2_with fail)
   refine hoW hK G2.X.cells fun aa=> ?_;clear hK K;refine rdH 10 fun K hK=> ?_;go_simp;refine(CH.X w2 w2 p q G2.X.b eR.X.1 eR.X.2 PB.X).mono ?_;rintro e w3 ⟨hb,ad,cg,rfl,ho⟩;rw[et.X,aY.X];have G3:=za4 (G2.X.below hb);have ez:=za4 (za0 hb (za2 mW.X) mW.X);obtain⟨z0,z1⟩:=za1 ez.X;have zf:=fun i=>yZ _ _ i _ _ ez.X;clear hb ho
   (try go_wp2_with fail)
   refine hoW hK G3.X.cells fun aa=> ?_;clear hK K;refine tkH 11 aa ?_;refine tkH 12 aa ?_;refine tkH 13 aa ?_;refine tkH 14 aa ?_;refine rdH 16 fun K hK=> ?_;have G5:Zb (GB W0 ((w3.setCell ⟨kz,0,none⟩ (ze zd vv)).setCell ⟨kz,1,none⟩ (za ad xl cg)) pc pp ps #[ze zd n,za a zl ac,za ao ko co,za av kv cv,ze zd fine] (za ra nr rc) (za la ln lc) id ab pl):=(G3.X.set aH.X).set aH.X;have V5:Zb (((w3.setCell ⟨kz,0,none⟩ (ze zd vv)).setCell ⟨kz,1,none⟩ (za ad xl cg)).heap[kz]? =some (zg #[ze zd vv,za ad xl cg] 80 (0,0))):=by
    have s1:=xb w3 kz 0 _ _ (ze zd vv) ez.X;have s2:=xb _ kz 1 _ _ (za ad xl cg) s1;simp at s2;exact s2
   go_simp;refine hoW hK G5.X.cells fun aa=> ?_;clear hK K;generalize((w3.setCell ⟨kz,0,none⟩ _).setCell ⟨kz,1,none⟩ _)=w5 at*;refine tkH 17 aa ?_;refine tkH 18 aa ?_;refine qF (by kernel_rfl) ?_ _;clear aa
   (try go_wp2_with fail)
   go_meet;exact⟨kz,rfl,rfl,rfl,G5.X⟩
  refine xL rfl (fun K hK=> ?_) xP;have GZ:Zb (GB W0 (wd.alloc (zg #[ze zd 0,za none 0 0] 80)) pc pp ps #[ze zd n,za a zl ac,za ao ko co,za av kv cv,ze zd fine] (za ra nr rc) (za la ln lc) id ab pl):=GD.X.below (zP _);have aw:=za4 (zS wd (zg #[ze zd 0,za none 0 0] 80));have aH:Zb (W0.heap.size<=wd.heap.size):=GD.X.b.size;go_simp;refine hoW hK GZ.X.cells fun aa=> ?_;clear hK K;obtain⟨kz,cA⟩:=nmd wd.heap.size;rw[cA.X]at aw aH⊢;generalize(wd.alloc _)=wz at*;obtain⟨z0,z1⟩:=za1 aw.X;have zf:=fun i=>yZ _ _ i _ _ aw.X;refine rdH 4 fun K hK=> ?_;go_simp;refine(RO.X wz GZ.X.b).mono ?_;rintro e w1 ⟨rfl,hb⟩;have G1:=za4 (GZ.X.below hb);have gz:=za4 (za0 hb (za2 aw.X) aw.X);clear hb
  (try go_wp2_with fail)
  refine hoW hK G1.X.cells fun aa=> ?_;clear hK K;refine rdH 9 fun K hK=> ?_;go_simp;refine(zh6 id (pl:Int) w1).mono ?_;rintro e w2 ⟨p,q,rfl,hb,cP,gM⟩;have G2:=za4 (G1.X.below hb);have eR:Zb (w2.cell? ⟨p,0,none⟩=some (ze zd (pl:Int))/\w2.cell? ⟨q,0,none⟩=some (ze zd id)):=⟨cP,gM⟩;have PB:Zb (Za w2.heap.size w2 w2):=y5 _ _;have mW:=za4 (za0 hb (za2 gz.X) gz.X);clear hb cP gM
  (try go_wp2_with fail)
  refine hoW hK G2.X.cells fun aa=> ?_;clear hK K;refine rdH 10 fun K hK=> ?_;go_simp;refine(CH.X w2 w2 p q G2.X.b eR.X.1 eR.X.2 PB.X).mono ?_;rintro e w3 ⟨hb,ad,cg,rfl,ho⟩;rw[et.X,aY.X];have G3:=za4 (G2.X.below hb);have ez:=za4 (za0 hb (za2 mW.X) mW.X);obtain⟨z0,z1⟩:=za1 ez.X;have zf:=fun i=>yZ _ _ i _ _ ez.X;clear hb ho
  (try go_wp2_with fail)
  refine hoW hK G3.X.cells fun aa=> ?_;clear hK K;refine tkH 11 aa ?_;refine tkH 12 aa ?_;refine tkH 13 aa ?_;refine tkH 14 aa ?_;refine rdH 16 fun K hK=> ?_;have G5:Zb (GB W0 ((w3.setCell ⟨kz,0,none⟩ (ze zd vv)).setCell ⟨kz,1,none⟩ (za ad xl cg)) pc pp ps #[ze zd n,za a zl ac,za ao ko co,za av kv cv,ze zd fine] (za ra nr rc) (za la ln lc) id ab pl):=(G3.X.set aH.X).set aH.X;have V5:Zb (((w3.setCell ⟨kz,0,none⟩ (ze zd vv)).setCell ⟨kz,1,none⟩ (za ad xl cg)).heap[kz]? =some (zg #[ze zd vv,za ad xl cg] 80 (0,0))):=by
   have s1:=xb w3 kz 0 _ _ (ze zd vv) ez.X;have s2:=xb _ kz 1 _ _ (za ad xl cg) s1;simp at s2;exact s2
  go_simp;refine hoW hK G5.X.cells fun aa=> ?_;clear hK K;generalize((w3.setCell ⟨kz,0,none⟩ _).setCell ⟨kz,1,none⟩ _)=w5 at*;refine tkH 17 aa ?_;refine tkH 18 aa ?_;refine qF (by kernel_rfl) ?_ _;clear aa
  (try go_wp2_with fail)
  go_meet;exact⟨kz,rfl,rfl,rfl,G5.X⟩
 case rest=>
  obtain⟨kz,rfl,rfl,rfl,wI⟩:=hcut;obtain⟨w5,pq⟩:∃v,v=wc:=⟨_,rfl⟩;subst pq;have G5:=za4 wI;clear wI G0;clear RO CH et aY;rcases aP with⟨h1,h2,h3⟩|⟨h1,h2,h3⟩|⟨h1,h3⟩
  ·subst h1
   have hg:decide (dd<=fine)=true:=zW h2;obtain⟨g0,g1,g2,g3,g4,-⟩:=G5.X.cells
   go_wp2_with fail
   go_quiet (fail)
   go_wp2;go_ret2;refine⟨by rw[h3];rfl,?_⟩;exact B0.X.trans ((G5.X.b.trans (xC (y5 _ _) _)).mono B0.X.size)
  ·subst h1
   have hg:decide (dd<=fine)=false:=zX (by omega);obtain⟨g0,g1,g2,g3,g4,-⟩:=G5.X.cells
   go_wp2_with fail
   go_quiet (fail)
   go_wp2;go_ret2;refine⟨by rw[h3];rfl,?_⟩;exact B0.X.trans ((G5.X.b.trans (xC (y5 _ _) _)).mono B0.X.size)
  ·subst h1
   obtain⟨g0,g1,g2,g3,g4,-⟩:=G5.X.cells
   go_wp2_with fail
   go_quiet (fail)
   go_wp2;go_ret2;refine⟨by rw[h3];rfl,?_⟩;exact B0.X.trans ((G5.X.b.trans (xC (y5 _ _) _)).mono B0.X.size)
