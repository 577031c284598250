import Derived.Test.YtkchnomkiboihaaGreatPack25
import Derived.Test.YtkchnomkiboihaaGreatPack32
set_option linter.unusedSimpArgs false
set_option maxHeartbeats 4000000
set_option maxRecDepth 10000
namespace Go.Proofs.YtkchnomkiboihaaGreat
open Value renaming slice→za,int→zc
open IntKind renaming i64→zb
open Obj renaming cells→zd
open Proofs.Tryz renaming prog→ze
open Go renaming World→zg
open Act renaming put→zi
open Go.RowKit
open Q
theorem y93{n:Int}{zs os vs:List Int}{ko kv:Nat}{fine:Int}(hc:zc8 n zs os vs ko kv fine=true)(v:Int)(ids:List Int):0<=rcV n zs os vs ko kv v ids/\rcV n zs os vs ko kv v ids<=130000:=by
 unfold rcV;split
 ·rename_i h
  exact zw2 (zb3 hc).1 _ _ (zk7 h) _
 ·omega
def cmF(n:Int)(zs os vs:List Int)(ko kv:Nat)(R R2:List RT)(v:Int):Int:=rcV n zs os vs ko kv v (zc6 R2 v).ids - rcV n zs os vs ko kv v (zc6 R v).ids
def cmK(n:Int)(zs os vs:List Int)(ko kv:Nat)(R2:List RT)(v:Int):Bool:=decide (codeV true n zs os vs ko kv v (zc6 R2 v).ids=0)
structure CB3(w W:zg)(cs ps qs:Array Value):Prop where
 b:Below w.heap.size w W
 c:W.heap[w.heap.size]? =some (.cells cs 30 (0,0))
 p:W.heap[w.heap.size+1]? =some (.cells ps 33 (0,0))
 q:W.heap[w.heap.size+2]? =some (.cells qs 33 (0,0))
theorem CB3.below{w W W':zg}{cs ps qs:Array Value}(h:CB3 w W cs ps qs)(hb:Below W.heap.size W W'):CB3 w W' cs ps qs:=
 ⟨h.b.trans (hb.mono h.b.size),za0 hb (za2 h.c) h.c,za0 hb (za2 h.p) h.p,za0 hb (za2 h.q) h.q⟩
theorem CB3.new(w:zg)(cs ps qs:Array Value):CB3 w (((w.alloc (.cells cs 30)).alloc (.cells ps 33)).alloc (.cells qs 33)) cs ps qs:=by
 refine⟨((zK _).alloc (by simp) _).alloc (by simp;omega) _,?_,?_,?_⟩
 ·exact(yY _ _ (by simp;omega)).trans (xb _ _ _)
 ·exact(yY _ _ (by simp)).trans (y8 _ _ _)
 ·have:=zN ((w.alloc (.cells cs 30)).alloc (.cells ps 33)) (.cells qs 33)
  simpa using this
theorem yK5{w W:zg}{n fine:Int}{a ao av ra la rb lb:Option Addr}{zl cap ko co kv cv nr rc ln lc mr mc ml mlc:Nat}(h:CB3 w W #[zc zb n,za a zl cap,za ao ko co,za av kv cv,zc zb fine] #[za ra nr rc,za la ln lc] #[za rb mr mc,za lb ml mlc]):W.cell? ⟨w.heap.size,0,none⟩=some (zc zb n)/\W.cell? ⟨w.heap.size,1,none⟩=some (za a zl cap)/\W.cell? ⟨w.heap.size,2,none⟩=some (za ao ko co)/\W.cell? ⟨w.heap.size,3,none⟩=some (za av kv cv)/\W.cell? ⟨w.heap.size,4,none⟩=some (zc zb fine)/\W.cell? ⟨w.heap.size+1,0,none⟩=some (za ra nr rc)/\W.cell? ⟨w.heap.size+1,1,none⟩=some (za la ln lc):=by
 obtain⟨c0,c1,c2,c3,c4⟩:=za7 h.c;obtain⟨p0,p1⟩:=za1 h.p;exact⟨c0,c1,c2,c3,c4,p0,p1⟩
theorem yK6{w W:zg}{n fine:Int}{a ao av ra la rb lb:Option Addr}{zl cap ko co kv cv nr rc ln lc mr mc ml mlc:Nat}(h:CB3 w W #[zc zb n,za a zl cap,za ao ko co,za av kv cv,zc zb fine] #[za ra nr rc,za la ln lc] #[za rb mr mc,za lb ml mlc]):W.cell? ⟨w.heap.size,0,none⟩=some (zc zb n)/\W.cell? ⟨w.heap.size,1,none⟩=some (za a zl cap)/\W.cell? ⟨w.heap.size,2,none⟩=some (za ao ko co)/\W.cell? ⟨w.heap.size,3,none⟩=some (za av kv cv)/\W.cell? ⟨w.heap.size,4,none⟩=some (zc zb fine)/\W.cell? ⟨w.heap.size+2,0,none⟩=some (za rb mr mc)/\W.cell? ⟨w.heap.size+2,1,none⟩=some (za lb ml mlc):=by
 obtain⟨c0,c1,c2,c3,c4⟩:=za7 h.c;obtain⟨p0,p1⟩:=za1 h.q;exact⟨c0,c1,c2,c3,c4,p0,p1⟩
theorem y47(f:Int->Int){V:List Int}{i:Nat}(hi:i<V.length):((V.take (i+1)).map f).sum=((V.take i).map f).sum+f (V.getD i 0):=by
 rw[yd hi,xX,List.sum_append];simp[List.getD,hi]
theorem zR5(n fine v1 v2:Int)(a ao av ra la rb lb:Option Addr)(zl cap ko co kv cv nr rc ln lc mr mc ml mlc:Nat)(zs os vs:List Int)(R R2:List RT)(w:zg)(hA:za3 w a zs)(hO:za3 w ao os)(hV:za3 w av vs)(hlz:zs.length=zl)(hlo:os.length=ko*6)(hlv:vs.length=kv*5)(hko:ko<=9223372036854775807)(hkv:kv<=9223372036854775807)(hcB:zc8 n zs os vs ko kv fine=true)(hR:za9 w ra R)(hnr:R.length=nr)(hn:nr<=100)(hS:zg1 R)(hi:zx3 R)(hR2:za9 w rb R2)(hmr:R2.length=mr)(hm2:mr<=100)(hS2:zg1 R2)(hi2:zx3 R2)(B:Bool)(hB:(z67 v1 v2).all (cmK n zs os vs ko kv R2)=B)(Dd:Int)(hD:(if B=true then((z67 v1 v2).map (cmF n zs os vs ko kv R R2)).sum else 0)=Dd):
 Calls ze 155 #[.agg #[zc zb n,za a zl cap,za ao ko co,za av kv cv,zc zb fine],.agg #[za ra nr rc,za la ln lc],.agg #[za rb mr mc,za lb ml mlc],zc zb v1,zc zb v2] w fun e w'=>e=.returned (.tuple #[zc zb Dd,.bool B])/\Below w.heap.size w w':=by
 obtain⟨V,HV0⟩:=nmd (z67 v1 v2);obtain⟨f,HF⟩:=nmd (cmF n zs os vs ko kv R R2);obtain⟨ok,HOK⟩:=nmd (cmK n zs os vs ko kv R2);rw[HV0.X,HOK.X]at hB;rw[HV0.X,HF.X]at hD;have HB:=za4 hB;have HD:Hid _:=hD;have hV2:V.length<=2:=by rw[<-HV0.X];unfold z67;split<;>simp
 obtain⟨m,HM⟩:=nmd V.length;have RO1:Hid (∀v W,Below w.heap.size w W->Calls ze 153 #[.agg #[za ra nr rc,za la ln lc],zc zb v] W fun e w'=>e=.returned (.agg #[zc zb v,.slice (zc6 R v).a (zc6 R v).ids.length (zc6 R v).c])/\Below W.heap.size W w'):=fun v W hW=>by
  have:=zn8 ra la rc ln lc R v W (hR.below hW) (by omega) hS;rw[hnr]at this;exact this
 have RO2:Hid (∀v W,Below w.heap.size w W->Calls ze 153 #[.agg #[za rb mr mc,za lb ml mlc],zc zb v] W fun e w'=>e=.returned (.agg #[zc zb v,.slice (zc6 R2 v).a (zc6 R2 v).ids.length (zc6 R2 v).c])/\Below W.heap.size W w'):=fun v W hW=>by
  have:=zn8 rb lb mc ml mlc R2 v W (hR2.below hW) (by omega) hS2;rw[hmr]at this;exact this
 have RC1:Hid (∀v W,Below w.heap.size w W->Calls ze 182 #[.agg #[zc zb n,za a zl cap,za ao ko co,za av kv cv,zc zb fine],.agg #[zc zb v,.slice (zc6 R v).a (zc6 R v).ids.length (zc6 R v).c]] W fun e w'=>∃b,e=.returned (.tuple #[zc zb (rcV n zs os vs ko kv v (zc6 R v).ids),.bool b])/\Below W.heap.size W w'):=fun v W hW=>by
  obtain⟨q1,q2,q3,_⟩:=z87 (hR.below hW) hi v;have:=zp5 n fine v a ao av (zc6 R v).a cap ko co kv cv (zc6 R v).c zs os vs (zc6 R v).ids W (hA.below hW) (hO.below hW) (hV.below hW) q1 hlo hlv hko hkv (by omega) q3 hcB _ rfl _ rfl;rw[hlz]at this;exact this.mono (fun e w' h=>⟨_,h⟩)
 have RC2:Hid (∀v W,Below w.heap.size w W->Calls ze 182 #[.agg #[zc zb n,za a zl cap,za ao ko co,za av kv cv,zc zb fine],.agg #[zc zb v,.slice (zc6 R2 v).a (zc6 R2 v).ids.length (zc6 R2 v).c]] W fun e w'=>e=.returned (.tuple #[zc zb (rcV n zs os vs ko kv v (zc6 R2 v).ids),.bool (ok v)])/\Below W.heap.size W w'):=fun v W hW=>by
  obtain⟨q1,q2,q3,_⟩:=z87 (hR2.below hW) hi2 v;have:=zp5 n fine v a ao av (zc6 R2 v).a cap ko co kv cv (zc6 R2 v).c zs os vs (zc6 R2 v).ids W (hA.below hW) (hO.below hW) (hV.below hW) q1 hlo hlv hko hkv (by omega) q3 hcB (ok v) (by rw[<-HOK.X];rfl) _ rfl;rw[hlz]at this;exact this
 have HFB:Hid (∀v,f v=rcV n zs os vs ko kv v (zc6 R2 v).ids - rcV n zs os vs ko kv v (zc6 R v).ids/\0<=rcV n zs os vs ko kv v (zc6 R2 v).ids/\rcV n zs os vs ko kv v (zc6 R2 v).ids<=130000/\0<=rcV n zs os vs ko kv v (zc6 R v).ids/\rcV n zs os vs ko kv v (zc6 R v).ids<=130000):=fun v=>by
  have b1:=y93 hcB v (zc6 R2 v).ids;have b2:=y93 hcB v (zc6 R v).ids;exact⟨by rw[<-HF.X];rfl,b1.1,b1.2,b2.1,b2.2⟩
 clear hA hO hV hlz hlo hlv hko hkv hcB hR hnr hn hS hi hR2 hmr hm2 hS2 hi2 hB hD HF HOK;have Q0:Hid (CB3 w (((w.alloc (zd #[zc zb n,za a zl cap,za ao ko co,za av kv cv,zc zb fine] 30)).alloc (zd #[za ra nr rc,za la ln lc] 33)).alloc (zd #[za rb mr mc,za lb ml mlc] 33)) #[zc zb n,za a zl cap,za ao ko co,za av kv cv,zc zb fine] #[za ra nr rc,za la ln lc] #[za rb mr mc,za lb ml mlc]):=CB3.new _ _ _ _;have B4:Hid (Below (((w.alloc (zd #[zc zb n,za a zl cap,za ao ko co,za av kv cv,zc zb fine] 30)).alloc (zd #[za ra nr rc,za la ln lc] 33)).alloc (zd #[za rb mr mc,za lb ml mlc] 33)).heap.size (((w.alloc (zd #[zc zb n,za a zl cap,za ao ko co,za av kv cv,zc zb fine] 30)).alloc (zd #[za ra nr rc,za la ln lc] 33)).alloc (zd #[za rb mr mc,za lb ml mlc] 33)) ((((w.alloc (zd #[zc zb n,za a zl cap,za ao ko co,za av kv cv,zc zb fine] 30)).alloc (zd #[za ra nr rc,za la ln lc] 33)).alloc (zd #[za rb mr mc,za lb ml mlc] 33)).alloc (zd #[zc zb v1,zc zb v2] 2))):=zK _;have O4:Hid (((((w.alloc (zd #[zc zb n,za a zl cap,za ao ko co,za av kv cv,zc zb fine] 30)).alloc (zd #[za ra nr rc,za la ln lc] 33)).alloc (zd #[za rb mr mc,za lb ml mlc] 33)).alloc (zd #[zc zb v1,zc zb v2] 2)).ownsRow (w.heap.size+3) 2 1 (za (some ⟨w.heap.size+3,0,none⟩) 2 2) 2 ([v1,v2].map (zc zb))):=by
  have hr:=zN (((w.alloc (zd #[zc zb n,za a zl cap,za ao ko co,za av kv cv,zc zb fine] 30)).alloc (zd #[za ra nr rc,za la ln lc] 33)).alloc (zd #[za rb mr mc,za lb ml mlc] 33)) (zd #[zc zb v1,zc zb v2] 2);have hk:(((w.alloc (zd #[zc zb n,za a zl cap,za ao ko co,za av kv cv,zc zb fine] 30)).alloc (zd #[za ra nr rc,za la ln lc] 33)).alloc (zd #[za rb mr mc,za lb ml mlc] 33)).heap.size=w.heap.size+3:=by simp
  rw[hk]at hr;exact⟨by simp,.inr ⟨w.heap.size+3,2,_,rfl,zQ _,hr,zQ _,by unfold maxLen;omega,by simp,by simp⟩⟩
 go_enter Tryz.func155,Tryz.ntmps155
 go_wp2_with fail
 have Q4:Hid _:=Q0.below B4.X;clear B4 Q0;generalize(((w.alloc (zd #[zc zb n,za a zl cap,za ao ko co,za av kv cv,zc zb fine] 30)).alloc (zd #[za ra nr rc,za la ln lc] 33)).alloc (zd #[za rb mr mc,za lb ml mlc] 33)).alloc (zd #[zc zb v1,zc zb v2] 2)=W4 at*;have CM:=zY8 v1 v2 (w.heap.size+3) 2 (w.heap.size+3) W4 O4.X;rw[HV0.X,HM.X]at CM;refine CM.mono ?_;rintro e w1 ⟨rfl,hb,ho⟩;have Q1:Hid (CB3 w w1 #[zc zb n,za a zl cap,za ao ko co,za av kv cv,zc zb fine] #[za ra nr rc,za la ln lc] #[za rb mr mc,za lb ml mlc]):=by
  have hc:=Q4.X;exact⟨hc.b.trans (hb.mono (by omega)),za0 hb (by omega) hc.c,za0 hb (by omega) hc.p,za0 hb (by omega) hc.q⟩
 have I1:Hid (za3 w1 (some ⟨w.heap.size+3,0,none⟩) V):=zg7 ho;clear hb ho CM Q4 O4 HV0;obtain⟨g,HG⟩:=nmd (w.heap.size+3);rw[HG.X]at I1
 try rw[HG.X]
 go_wp2_with fail
 go_loopw[12,24] (fun tt ti wr=>∃i:Nat,i<=m/\ti=zc zb i/\tt=zc zb ((V.take i).map f).sum/\(-130000*(i:Int)<=((V.take i).map f).sum/\((V.take i).map f).sum<=130000*(i:Int))/\(∀j,j<i->ok (V.getD j 0)=true)/\CB3 w wr #[zc zb n,za a zl cap,za ao ko co,za av kv cv,zc zb fine] #[za ra nr rc,za la ln lc] #[za rb mr mc,za lb ml mlc]/\za3 wr (some ⟨g,0,none⟩) V) (fun _ ti _=>m - (intOf ti).toNat)
 case atStart=>exact⟨0,yZ _,rfl,rfl,by simp,fun j hj=>by omega,Q1.X,I1.X⟩
 case round=>
  clear Q1 I1;obtain⟨i,hi,rfl,rfl,⟨hs1,hs2⟩,hok,hQ,hI⟩:=hrel;have Q2:Hid _:=hQ;have I2:=za4 hI;have HOJ:Hid _:=hok;clear hQ hI hok;have hm2:m<=2:=by rw[<-HM.X];exact hV2
  by_cases hlt:i<m
  ·have hltI:(i:Int)<(m:Int):=by omega
   obtain⟨b,off,e,hc⟩:=I2.X i (by rw[HM.X];exact hlt);simp only[xV,xZ,qb]at e;obtain⟨rfl,rfl⟩:=e;rw[z6]at hc;have HSM:=y47 f (V:=V) (i:=i) (by rw[HM.X];exact hlt);obtain⟨hf,y0,y1,x0,x1⟩:=HFB.X (V.getD i 0);have HOI:Hid (∀b,ok (V.getD i 0)=b->(b=false->B=false)/\(b=true->∀j,j<i+1->ok (V.getD j 0)=true)):=fun b hb=>by
    refine⟨fun e9=> ?_,fun e9 j hj=> ?_⟩
    ·rw[<-HB.X,List.all_eq_false]
     refine⟨V.getD i 0,zy0 _ _ (by rw[HM.X];exact hlt),?_⟩;rw[hb,e9];simp
    ·by_cases e8:j=i
     ·rw[e8,hb,e9]
     ·exact HOJ.X j (by omega)
   have ro1:=RO1.X (V.getD i 0);have ro2:=RO2.X (V.getD i 0);have rc1:=RC1.X (V.getD i 0);have rc2:=RC2.X (V.getD i 0);obtain⟨okv,HKV⟩:=nmd (ok (V.getD i 0));have HO9:=HOI.X _ HKV.X;rw[HKV.X]at rc2;clear HOI;generalize rcV n zs os vs ko kv (V.getD i 0) (zc6 R2 (V.getD i 0)).ids=y at*;generalize rcV n zs os vs ko kv (V.getD i 0) (zc6 R (V.getD i 0)).ids=x at*;generalize(zc6 R (V.getD i 0)).ids.length=l1 at*;generalize(zc6 R (V.getD i 0)).a=a1 at*;generalize(zc6 R (V.getD i 0)).c=c1 at*;generalize(zc6 R2 (V.getD i 0)).ids.length=l2 at*;generalize(zc6 R2 (V.getD i 0)).a=a2 at*;generalize(zc6 R2 (V.getD i 0)).c=c2 at*;rw[hf]at HSM;obtain⟨s,HS⟩:=nmd (((V.take i).map f).sum);rw[HS.X]at HSM hs1 hs2⊢;have HSM2:Hid _:=HSM;have KRO1:Hid _:=ro1;have KRO2:Hid _:=ro2;have KRC1:Hid _:=rc1;have KRC2:Hid _:=rc2;generalize V.getD i 0=v at*;clear ro1 ro2 rc1 rc2 HSM hf HKV HOJ;have HO8:Hid _:=HO9;clear HO9
   go_wp2_with fail
   clear hc;refine qV (S:=(fun W=>W.cell? ⟨w.heap.size,0,none⟩=some (zc zb n)/\W.cell? ⟨w.heap.size,1,none⟩=some (za a zl cap)/\W.cell? ⟨w.heap.size,2,none⟩=some (za ao ko co)/\W.cell? ⟨w.heap.size,3,none⟩=some (za av kv cv)/\W.cell? ⟨w.heap.size,4,none⟩=some (zc zb fine)/\W.cell? ⟨w.heap.size+1,0,none⟩=some (za ra nr rc)/\W.cell? ⟨w.heap.size+1,1,none⟩=some (za la ln lc))) (by kernel_rfl) ?_ (fun hHeld=> ?_)
   ·exact yK5 (Q2.below (yV _ _).drew)
   have QD5:Hid _:=Q2.below (yV _ _).drew;have ID5:Hid (za3 wr.drew (some ⟨g,0,none⟩) V):=I2.below (yV _ _).drew;generalize wr.drew=wd5 at*;refine xD (i:=0) (v:= ?_) rfl (by kernel_rfl) (by kernel_rfl) (by kernel_rfl) (fun _ _ _ h=>h) (yS ⟨by kernel_rfl,?_⟩) hHeld ?_;rotate_left;focus(intro w hSw;(try dsimp only at hSw);(try go_split_ands);go_simp;all_goals with_reducible rfl)
   change wpAnyH _ _ _ _ _ _ _ (zi _ (some 29) _) _;simp only[zi,xB,zL,xC];refine xD (i:=1) (v:= ?_) rfl (by kernel_rfl) (by kernel_rfl) (by kernel_rfl) (fun _ _ _ h=>h) (yS ⟨by kernel_rfl,?_⟩) hHeld ?_;rotate_left;focus(intro w hSw;(try dsimp only at hSw);(try go_split_ands);go_simp;all_goals with_reducible rfl)
   change wpAnyH _ _ _ _ _ _ _ (zi _ (some 30) _) _;simp only[zi,xB,zL,xC];refine xD (i:=2) (v:= ?_) rfl (by kernel_rfl) (by kernel_rfl) (by kernel_rfl) (fun _ _ _ h=>h) (yS ⟨by kernel_rfl,?_⟩) hHeld ?_;rotate_left;focus(intro w hSw;(try dsimp only at hSw);(try go_split_ands);go_simp;all_goals with_reducible rfl)
   change wpAnyH _ _ _ _ _ _ _ (zi _ (some 31) _) _;simp only[zi,xB,zL,xC];refine qT (rs:=[3]) (by kernel_rfl) (by simp) ?_;refine qR rfl (fun K hK=> ?_) qS;go_simp;refine(KRO1.X wd5 QD5.b).mono ?_;rintro e w6 ⟨rfl,hb⟩;have Bw6:Hid _:=hb;have Qw6:Hid _:=QD5.below hb;clear hb
   (try go_wp2_with fail)
   refine hK.out _ _ ?_ (fun hHeld=> ?_)
   ·exact yK5 Qw6.X
   clear hK K
   (try simp only[zi,xB,zL,xC])
   refine qT (rs:=[4]) (by kernel_rfl) (by simp) ?_;refine qR rfl (fun K hK=> ?_) qS;go_simp;refine(KRC1.X w6 Qw6.b).mono ?_;rintro e w7 ⟨bb,rfl,hb⟩;have Qw7:Hid _:=Qw6.below hb;have Iw7:Hid (za3 w7 (some ⟨g,0,none⟩) V):=(ID5.below Bw6.X).below hb;clear hb
   (try go_wp2_with fail)
   refine hK.out _ _ ?_ (fun hHeld=> ?_)
   ·exact yK5 Qw7.X
   clear hK K
   (try simp only[zi,xB,zL,xC])
   refine xD (i:=5) (v:= ?_) rfl (by kernel_rfl) (by kernel_rfl) (by kernel_rfl) (fun _ _ _ h=>h) (yS ⟨by kernel_rfl,?_⟩) hHeld ?_;rotate_left;focus(intro w hSw;(try dsimp only at hSw);(try go_split_ands);go_simp;all_goals with_reducible rfl)
   change wpAnyH _ _ _ _ _ _ _ (zi _ (some 28) _) _;simp only[zi,xB,zL,xC];refine xD (i:=6) (v:= ?_) rfl (by kernel_rfl) (by kernel_rfl) (by kernel_rfl) (fun _ _ _ h=>h) (yS ⟨by kernel_rfl,?_⟩) hHeld ?_;rotate_left;focus(intro w hSw;(try dsimp only at hSw);(try go_split_ands);go_simp;all_goals with_reducible rfl)
   change wpAnyH _ _ _ _ _ _ _ (zi _ (some 34) _) _;simp only[zi,xB,zL,xC];refine xD (i:=7) (v:= ?_) rfl (by kernel_rfl) (by kernel_rfl) (by kernel_rfl) (fun _ _ _ h=>h) (yS ⟨by kernel_rfl,?_⟩) hHeld ?_;rotate_left;focus(intro w hSw;(try dsimp only at hSw);(try go_split_ands);go_simp;all_goals with_reducible rfl)
   change wpAnyH _ _ _ _ _ _ _ (zi _ (some 35) _) _;simp only[zi,xB,zL,xC];refine xD (i:=8) (v:= ?_) rfl (by kernel_rfl) (by kernel_rfl) (by kernel_rfl) (fun _ _ _ h=>h) (yS ⟨by kernel_rfl,?_⟩) hHeld ?_;rotate_left;focus(intro w hSw;(try dsimp only at hSw);(try go_split_ands);go_simp;all_goals with_reducible rfl)
   change wpAnyH _ _ _ _ _ _ _ (zi _ (some 15) _) _;simp only[zi,xB,zL,xC];refine xD (i:=9) (v:= ?_) rfl (by kernel_rfl) (by kernel_rfl) (by kernel_rfl) (fun _ _ _ h=>h) (yS ⟨by kernel_rfl,?_⟩) hHeld ?_;rotate_left;focus(intro w hSw;(try dsimp only at hSw);(try go_split_ands);go_simp;all_goals with_reducible rfl)
   change wpAnyH _ _ _ _ _ _ _ (zi _ (some 16) _) _;simp only[zi,xB,zL,xC];refine qU (by kernel_rfl) ?_ _;clear hHeld
   go_wp2_with fail
   refine qV (S:=(fun W=>W.cell? ⟨w.heap.size,0,none⟩=some (zc zb n)/\W.cell? ⟨w.heap.size,1,none⟩=some (za a zl cap)/\W.cell? ⟨w.heap.size,2,none⟩=some (za ao ko co)/\W.cell? ⟨w.heap.size,3,none⟩=some (za av kv cv)/\W.cell? ⟨w.heap.size,4,none⟩=some (zc zb fine)/\W.cell? ⟨w.heap.size+2,0,none⟩=some (za rb mr mc)/\W.cell? ⟨w.heap.size+2,1,none⟩=some (za lb ml mlc))) (by kernel_rfl) ?_ (fun hHeld=> ?_)
   ·exact yK6 (Qw7.below (yV _ _).drew)
   have QD6:Hid _:=Qw7.below (yV _ _).drew;have ID6:Hid (za3 w7.drew (some ⟨g,0,none⟩) V):=Iw7.below (yV _ _).drew;generalize w7.drew=wd6 at*;refine xD (i:=0) (v:= ?_) rfl (by kernel_rfl) (by kernel_rfl) (by kernel_rfl) (fun _ _ _ h=>h) (yS ⟨by kernel_rfl,?_⟩) hHeld ?_;rotate_left;focus(intro w hSw;(try dsimp only at hSw);(try go_split_ands);go_simp;all_goals with_reducible rfl)
   change wpAnyH _ _ _ _ _ _ _ (zi _ (some 37) _) _;simp only[zi,xB,zL,xC];refine xD (i:=1) (v:= ?_) rfl (by kernel_rfl) (by kernel_rfl) (by kernel_rfl) (fun _ _ _ h=>h) (yS ⟨by kernel_rfl,?_⟩) hHeld ?_;rotate_left;focus(intro w hSw;(try dsimp only at hSw);(try go_split_ands);go_simp;all_goals with_reducible rfl)
   change wpAnyH _ _ _ _ _ _ _ (zi _ (some 38) _) _;simp only[zi,xB,zL,xC];refine xD (i:=2) (v:= ?_) rfl (by kernel_rfl) (by kernel_rfl) (by kernel_rfl) (fun _ _ _ h=>h) (yS ⟨by kernel_rfl,?_⟩) hHeld ?_;rotate_left;focus(intro w hSw;(try dsimp only at hSw);(try go_split_ands);go_simp;all_goals with_reducible rfl)
   change wpAnyH _ _ _ _ _ _ _ (zi _ (some 39) _) _;simp only[zi,xB,zL,xC];refine qT (rs:=[3]) (by kernel_rfl) (by simp) ?_;refine qR rfl (fun K hK=> ?_) qS;go_simp;refine(KRO2.X wd6 QD6.b).mono ?_;rintro e w8 ⟨rfl,hb⟩;have Bw8:Hid _:=hb;have Qw8:Hid _:=QD6.below hb;clear hb
   (try go_wp2_with fail)
   refine hK.out _ _ ?_ (fun hHeld=> ?_)
   ·exact yK6 Qw8.X
   clear hK K
   (try simp only[zi,xB,zL,xC])
   refine qT (rs:=[4]) (by kernel_rfl) (by simp) ?_;refine qR rfl (fun K hK=> ?_) qS;go_simp;refine(KRC2.X w8 Qw8.b).mono ?_;rintro e w9 ⟨rfl,hb⟩;have Qw9:Hid _:=Qw8.below hb;have Iw9:Hid (za3 w9 (some ⟨g,0,none⟩) V):=(ID6.below Bw8.X).below hb;clear hb
   (try go_wp2_with fail)
   refine hK.out _ _ ?_ (fun hHeld=> ?_)
   ·exact yK6 Qw9.X
   clear hK K
   (try simp only[zi,xB,zL,xC])
   refine xD (i:=5) (v:= ?_) rfl (by kernel_rfl) (by kernel_rfl) (by kernel_rfl) (fun _ _ _ h=>h) (yS ⟨by kernel_rfl,?_⟩) hHeld ?_;rotate_left;focus(intro w hSw;(try dsimp only at hSw);(try go_split_ands);go_simp;all_goals with_reducible rfl)
   change wpAnyH _ _ _ _ _ _ _ (zi _ (some 36) _) _;simp only[zi,xB,zL,xC];refine xD (i:=6) (v:= ?_) rfl (by kernel_rfl) (by kernel_rfl) (by kernel_rfl) (fun _ _ _ h=>h) (yS ⟨by kernel_rfl,?_⟩) hHeld ?_;rotate_left;focus(intro w hSw;(try dsimp only at hSw);(try go_split_ands);go_simp;all_goals with_reducible rfl)
   change wpAnyH _ _ _ _ _ _ _ (zi _ (some 42) _) _;simp only[zi,xB,zL,xC];refine xD (i:=7) (v:= ?_) rfl (by kernel_rfl) (by kernel_rfl) (by kernel_rfl) (fun _ _ _ h=>h) (yS ⟨by kernel_rfl,?_⟩) hHeld ?_;rotate_left;focus(intro w hSw;(try dsimp only at hSw);(try go_split_ands);go_simp;all_goals with_reducible rfl)
   change wpAnyH _ _ _ _ _ _ _ (zi _ (some 43) _) _;simp only[zi,xB,zL,xC];refine xD (i:=8) (v:= ?_) rfl (by kernel_rfl) (by kernel_rfl) (by kernel_rfl) (fun _ _ _ h=>h) (yS ⟨by kernel_rfl,?_⟩) hHeld ?_;rotate_left;focus(intro w hSw;(try dsimp only at hSw);(try go_split_ands);go_simp;all_goals with_reducible rfl)
   change wpAnyH _ _ _ _ _ _ _ (zi _ (some 17) _) _;simp only[zi,xB,zL,xC];refine xD (i:=9) (v:= ?_) rfl (by kernel_rfl) (by kernel_rfl) (by kernel_rfl) (fun _ _ _ h=>h) (yS ⟨by kernel_rfl,?_⟩) hHeld ?_;rotate_left;focus(intro w hSw;(try dsimp only at hSw);(try go_split_ands);go_simp;all_goals with_reducible rfl)
   change wpAnyH _ _ _ _ _ _ _ (zi _ (some 18) _) _;simp only[zi,xB,zL,xC];refine qU (by kernel_rfl) ?_ _;clear hHeld;cases okv
   ·have hBf:=HO8.1 rfl
    subst hBf;have hD0:Dd=0:=by rw[<-HD.X];rfl
    subst hD0;clear HD HB HFB RO1 RO2 RC1 RC2 KRO1 KRO2 KRC1 KRC2;go_wp2;go_ret2;exact⟨rfl,Qw9.b⟩
   ·clear HFB RO1 RO2 RC1 RC2 KRO1 KRO2 KRC1 KRC2
    go_wp2;go_roundw
    case rel=>exact⟨i+1,by omega,by first|rfl|go_num,by rw[HSM2.X],by rw[HSM2.X];constructor<;>(push_cast;omega),HO8.2 rfl,Qw9.X,Iw9.X⟩
    case measure=>simp[intOf];omega
  ·have hltI:¬((i:Int)<(m:Int)):=by omega
   have him:i=m:=by omega
   subst him;have hBt:B=true:=by
    rw[<-HB.X,List.all_eq_true];intro x hx;obtain⟨j,hj,e⟩:=zt5 hx;rw[<-e];exact HOJ.X j (by rw[<-HM.X];exact hj)
   have hDt:((V.take i).map f).sum=Dd:=by
    rw[<-HD.X,zV hBt,<-HM.X,yc]
   rw[hDt];subst hBt;clear HD HB HFB RO1 RO2 RC1 RC2;go_wp2;go_ret2;exact⟨rfl,Q2.b⟩
theorem yh0(n fine:Int)(a ao av ra la:Option Addr)(zl cap ko co kv cv nr rc ln lc:Nat)(zs os vs:List Int)(R:List RT)(w:zg)(hA:za3 w a zs)(hO:za3 w ao os)(hV:za3 w av vs)(hlz:zs.length=zl)(hlo:os.length=ko*6)(hlv:vs.length=kv*5)(hko:ko<=9223372036854775807)(hkv:kv<=9223372036854775807)(hcB:zc8 n zs os vs ko kv fine=true)(hR:za9 w ra R)(hnr:R.length=nr)(hn:nr<=100)(hS:zg1 R)(hi:zx3 R)(id veh:Int)(pl pc pp:Nat)(hpc:w.heap[pc]? =some (zd #[zc zb n,za a zl cap,za ao ko co,za av kv cv,zc zb fine] 30 (0,0)))(hpp:w.heap[pp]? =some (zd #[(za ra nr rc),(za la ln lc)] 33 (0,0))):
 Calls ze 158 #[.agg #[zc zb id,zc zb veh,zc zb (pl:Int)],.pointer (some ⟨pc,0,none⟩),.pointer (some ⟨pp,0,none⟩)] w fun e w'=>e=.returned (.tuple #[zc zb (gD n zs os vs ko kv R (id,veh,pl)),.bool (gOk n fine zs os vs ko kv R (id,veh,pl))])/\Below w.heap.size w w':=by
 have B0:Hid (Below w.heap.size w (w.alloc (zd #[zc zb id,zc zb veh,zc zb (pl:Int)] 129))):=zK _;obtain⟨ch,HCH⟩:=nmd (gB n zs os vs ko kv R (id,veh,pl));obtain⟨dd,HDD⟩:=nmd (gD n zs os vs ko kv R (id,veh,pl));obtain⟨xs,HXS⟩:=nmd (chL ch (insL (zc6 R veh).ids pl id));obtain⟨vv,HVV⟩:=nmd (chI ch veh);obtain⟨xl,HXL⟩:=nmd xs.length;have hok:(ch=true/\dd<=fine/\gOk n fine zs os vs ko kv R (id,veh,pl)=true)∨(ch=true/\¬dd<=fine/\gOk n fine zs os vs ko kv R (id,veh,pl)=false)∨(ch=false/\gOk n fine zs os vs ko kv R (id,veh,pl)=false):=by
  unfold gOk;rw[HCH.X,HDD.X];cases ch
  ·exact .inr (.inr ⟨rfl,rfl⟩)
  ·by_cases h:dd<=fine
   ·exact .inl ⟨rfl,h,by simp[h]⟩
   ·exact .inr (.inl ⟨rfl,h,by simp[h]⟩)
 have CH0:=yi6 n fine a ao av ra cap ko co kv cv zs os vs R (w.alloc (zd #[zc zb id,zc zb veh,zc zb (pl:Int)] 129)) (hA.below B0.X) (hO.below B0.X) (hV.below B0.X) hlo hlv hko hkv hcB (hR.below B0.X) hi id veh pl ch HCH.X dd HDD.X xs HXS.X;have RO0:∀W,Below (w.alloc (zd #[zc zb id,zc zb veh,zc zb (pl:Int)] 129)).heap.size (w.alloc (zd #[zc zb id,zc zb veh,zc zb (pl:Int)] 129)) W->_:=fun W hW=>zn8 ra la rc ln lc R veh W ((hR.below B0.X).below hW) (by omega) hS
 rw[hnr]at RO0;rw[hlz]at CH0;rw[HDD.X];have G0:Hid (GB (w.alloc (zd #[zc zb id,zc zb veh,zc zb (pl:Int)] 129)) (w.alloc (zd #[zc zb id,zc zb veh,zc zb (pl:Int)] 129)) pc pp w.heap.size #[zc zb n,za a zl cap,za ao ko co,za av kv cv,zc zb fine] (za ra nr rc) (za la ln lc) id veh pl):=GB.new ((yY _ _ (za2 hpc)).trans hpc) ((yY _ _ (za2 hpp)).trans hpp) (zN _ _);obtain⟨rl,HRL⟩:=nmd ((zc6 R veh).ids.length);obtain⟨ra9,HRA⟩:=nmd ((zc6 R veh).a);obtain⟨rc9,HRC⟩:=nmd ((zc6 R veh).c);rw[HRL.X,HRA.X,HRC.X]at RO0 CH0;have RO:Hid _:=RO0;have CH:Hid _:=CH0;clear RO0 CH0 hA hO hV hlz hlo hlv hko hkv hcB hR hnr hn hS hi hpc hpp;go_enter Tryz.func158,Tryz.ntmps158;go_upto_region 1 with fail;obtain⟨ps,HPS⟩:=nmd w.heap.size;rw[HPS.X]at G0⊢;generalize w.alloc (zd #[zc zb id,zc zb veh,zc zb (pl:Int)] 129)=W0 at*;go_cut [6,7,8]from 9 to 23 (fun s6 s7 s8 wx=>∃kz:Nat,s6=.pointer (some ⟨kz,0,none⟩)/\s7=zc zb dd/\s8=.bool ch/\GB W0 wx pc pp ps #[zc zb n,za a zl cap,za ao ko co,za av kv cv,zc zb fine] (za ra nr rc) (za la ln lc) id veh pl)
 case first=>
  go_wp2_with fail
  refine qV (S:=(fun W=>W.cell? ⟨pc,0,none⟩=some (zc zb n)/\W.cell? ⟨pc,1,none⟩=some (za a zl cap)/\W.cell? ⟨pc,2,none⟩=some (za ao ko co)/\W.cell? ⟨pc,3,none⟩=some (za av kv cv)/\W.cell? ⟨pc,4,none⟩=some (zc zb fine)/\W.cell? ⟨pp,0,none⟩=some (za ra nr rc)/\W.cell? ⟨pp,1,none⟩=some (za la ln lc)/\W.cell? ⟨ps,0,none⟩=some (zc zb id)/\W.cell? ⟨ps,1,none⟩=some (zc zb veh)/\W.cell? ⟨ps,2,none⟩=some (zc zb (pl:Int)))) (by kernel_rfl) ?_ (fun hHeld=> ?_)
  ·exact(G0.X.below (yV _ _).drew).cells
  have GD:Hid (GB W0 W0.drew pc pp ps #[zc zb n,za a zl cap,za ao ko co,za av kv cv,zc zb fine] (za ra nr rc) (za la ln lc) id veh pl):=G0.X.below (yV _ _).drew;generalize W0.drew=wd at*;refine tkH 0 hHeld ?_;refine tkH 1 hHeld ?_;refine tkH 2 hHeld ?_;refine tkH 3 hHeld ?_;refine tkH 5 hHeld ?_;refine tkH 6 hHeld ?_;refine tkH 7 hHeld ?_;refine tkH 8 hHeld ?_;refine qT (rs:=[4,15]) (by kernel_rfl) (by simp) ?_;refine qR rfl (fun K hK=> ?_) ?_
  ·skip
   go_simp;refine(RO.X wd GD.X.b).mono ?_;rintro e w1 ⟨rfl,hb⟩;have G1:=za4 (GD.X.below hb);clear hb
   (try go_wp2_with fail)
   refine hK.out _ _ ?_ (fun hHeld=> ?_)
   ·exact G1.X.cells
   clear hK K
   (try simp only[zi,xB,zL,xC])
   refine qT (rs:=[9,15]) (by kernel_rfl) (by simp) ?_;refine qR rfl (fun K hK=> ?_) ?_
   ·skip
    go_simp;refine(zh4 id (pl:Int) w1).mono ?_;rintro e w2 ⟨p,q,rfl,hb,hcp,hcq⟩;have G2:=za4 (G1.X.below hb);have HP2:Hid (w2.cell? ⟨p,0,none⟩=some (zc zb (pl:Int))/\w2.cell? ⟨q,0,none⟩=some (zc zb id)):=⟨hcp,hcq⟩;have PB:Hid (Below w2.heap.size w2 w2):=yV _ _;clear hb hcp hcq
    (try go_wp2_with fail)
    refine hK.out _ _ ?_ (fun hHeld=> ?_)
    ·exact G2.X.cells
    clear hK K
    (try simp only[zi,xB,zL,xC])
    refine qT (rs:=[10,15]) (by kernel_rfl) (by simp) ?_;refine qR rfl (fun K hK=> ?_) ?_
    ·skip
     go_simp;refine(CH.X w2 w2 p q G2.X.b HP2.X.1 HP2.X.2 PB.X).mono ?_;rintro e w3 ⟨hb,ad,cg,rfl,ho⟩;rw[HVV.X,HXL.X];have G3:=za4 (G2.X.below hb);clear hb ho
     (try go_wp2_with fail)
     refine hK.out _ _ ?_ (fun hHeld=> ?_)
     ·exact G3.X.cells
     clear hK K
     (try simp only[zi,xB,zL,xC])
     refine tkH 11 hHeld ?_;refine tkH 12 hHeld ?_;refine tkH 13 hHeld ?_;refine tkH 14 hHeld ?_;refine qT (rs:=[15]) (by kernel_rfl) (by simp) ?_;refine qR rfl (fun K hK=> ?_) qS;have GZ:Hid (GB W0 (w3.alloc (zd #[zc zb 0,za none 0 0] 80)) pc pp ps #[zc zb n,za a zl cap,za ao ko co,za av kv cv,zc zb fine] (za ra nr rc) (za la ln lc) id veh pl):=G3.X.below (zK _);have VZ0:Hid ((w3.alloc (zd #[zc zb 0,za none 0 0] 80)).heap[w3.heap.size]? =some (zd #[zc zb 0,za none 0 0] 80 (0,0))):=zN _ _;have HZL:Hid (W0.heap.size<=w3.heap.size):=G3.X.b.size;go_simp;refine hK.out _ _ ?_ (fun hHeld=> ?_)
     ·exact GZ.X.cells
     clear hK K
     (try simp only[zi,xB,zL,xC])
     obtain⟨kz,HKZ⟩:=nmd w3.heap.size;rw[HKZ.X]at VZ0 HZL⊢;generalize(w3.alloc (zd #[zc zb 0,za none 0 0] 80))=wz at*;obtain⟨z0,z1⟩:=za1 VZ0.X;have zf:=fun i=>yU _ _ i _ _ VZ0.X;refine qT (rs:=[16]) (by kernel_rfl) (by simp) ?_;refine qR rfl (fun K hK=> ?_) qS;have G5:Hid (GB W0 ((wz.setCell ⟨kz,0,none⟩ (zc zb vv)).setCell ⟨kz,1,none⟩ (za ad xl cg)) pc pp ps #[zc zb n,za a zl cap,za ao ko co,za av kv cv,zc zb fine] (za ra nr rc) (za la ln lc) id veh pl):=(GZ.X.set HZL.X).set HZL.X;have V5:Hid (((wz.setCell ⟨kz,0,none⟩ (zc zb vv)).setCell ⟨kz,1,none⟩ (za ad xl cg)).heap[kz]? =some (zd #[zc zb vv,za ad xl cg] 80 (0,0))):=by
      have s1:=zP wz kz 0 _ _ (zc zb vv) VZ0.X;have s2:=zP _ kz 1 _ _ (za ad xl cg) s1;simp at s2;exact s2
     go_simp;refine hK.out _ _ ?_ (fun hHeld=> ?_)
     ·exact G5.X.cells
     clear hK K;generalize((wz.setCell ⟨kz,0,none⟩ (zc zb vv)).setCell ⟨kz,1,none⟩ (za ad xl cg))=w5 at*;refine tkH 17 hHeld ?_;refine tkH 18 hHeld ?_;refine qU (by kernel_rfl) ?_ _;clear hHeld
     (try go_wp2_with fail)
     go_meet;exact⟨kz,rfl,rfl,rfl,G5.X⟩
    refine qR rfl (fun K hK=> ?_) qS;have GZ:Hid (GB W0 (w2.alloc (zd #[zc zb 0,za none 0 0] 80)) pc pp ps #[zc zb n,za a zl cap,za ao ko co,za av kv cv,zc zb fine] (za ra nr rc) (za la ln lc) id veh pl):=G2.X.below (zK _);have VZ0:Hid ((w2.alloc (zd #[zc zb 0,za none 0 0] 80)).heap[w2.heap.size]? =some (zd #[zc zb 0,za none 0 0] 80 (0,0))):=zN _ _;have HZL:Hid (W0.heap.size<=w2.heap.size):=G2.X.b.size;have PBZ:Hid (Below w2.heap.size w2 (w2.alloc (zd #[zc zb 0,za none 0 0] 80))):=zK _;go_simp;refine hK.out _ _ ?_ (fun hHeld=> ?_)
    ·exact GZ.X.cells
    clear hK K
    (try simp only[zi,xB,zL,xC])
    obtain⟨kz,HKZ⟩:=nmd w2.heap.size;rw[HKZ.X]at VZ0 HZL⊢;generalize(w2.alloc (zd #[zc zb 0,za none 0 0] 80))=wz at*;obtain⟨z0,z1⟩:=za1 VZ0.X;have zf:=fun i=>yU _ _ i _ _ VZ0.X;refine qT (rs:=[10]) (by kernel_rfl) (by simp) ?_;refine qR rfl (fun K hK=> ?_) qS;go_simp;refine(CH.X w2 wz p q G2.X.b HP2.X.1 HP2.X.2 PBZ.X).mono ?_;rintro e w3 ⟨hb,ad,cg,rfl,ho⟩;rw[HVV.X,HXL.X];have G3:=za4 (GZ.X.below hb);have VZ3:=za4 (za0 hb (za2 VZ0.X) VZ0.X);obtain⟨z0,z1⟩:=za1 VZ3.X;have zf:=fun i=>yU _ _ i _ _ VZ3.X;clear hb ho
    (try go_wp2_with fail)
    refine hK.out _ _ ?_ (fun hHeld=> ?_)
    ·exact G3.X.cells
    clear hK K
    (try simp only[zi,xB,zL,xC])
    refine tkH 11 hHeld ?_;refine tkH 12 hHeld ?_;refine tkH 13 hHeld ?_;refine tkH 14 hHeld ?_;refine qT (rs:=[16]) (by kernel_rfl) (by simp) ?_;refine qR rfl (fun K hK=> ?_) qS;have G5:Hid (GB W0 ((w3.setCell ⟨kz,0,none⟩ (zc zb vv)).setCell ⟨kz,1,none⟩ (za ad xl cg)) pc pp ps #[zc zb n,za a zl cap,za ao ko co,za av kv cv,zc zb fine] (za ra nr rc) (za la ln lc) id veh pl):=(G3.X.set HZL.X).set HZL.X;have V5:Hid (((w3.setCell ⟨kz,0,none⟩ (zc zb vv)).setCell ⟨kz,1,none⟩ (za ad xl cg)).heap[kz]? =some (zd #[zc zb vv,za ad xl cg] 80 (0,0))):=by
     have s1:=zP w3 kz 0 _ _ (zc zb vv) VZ3.X;have s2:=zP _ kz 1 _ _ (za ad xl cg) s1;simp at s2;exact s2
    go_simp;refine hK.out _ _ ?_ (fun hHeld=> ?_)
    ·exact G5.X.cells
    clear hK K;generalize((w3.setCell ⟨kz,0,none⟩ (zc zb vv)).setCell ⟨kz,1,none⟩ (za ad xl cg))=w5 at*;refine tkH 17 hHeld ?_;refine tkH 18 hHeld ?_;refine qU (by kernel_rfl) ?_ _;clear hHeld
    (try go_wp2_with fail)
    go_meet;exact⟨kz,rfl,rfl,rfl,G5.X⟩
   refine qR rfl (fun K hK=> ?_) qS;have GZ:Hid (GB W0 (w1.alloc (zd #[zc zb 0,za none 0 0] 80)) pc pp ps #[zc zb n,za a zl cap,za ao ko co,za av kv cv,zc zb fine] (za ra nr rc) (za la ln lc) id veh pl):=G1.X.below (zK _);have VZ0:Hid ((w1.alloc (zd #[zc zb 0,za none 0 0] 80)).heap[w1.heap.size]? =some (zd #[zc zb 0,za none 0 0] 80 (0,0))):=zN _ _;have HZL:Hid (W0.heap.size<=w1.heap.size):=G1.X.b.size;go_simp;refine hK.out _ _ ?_ (fun hHeld=> ?_)
   ·exact GZ.X.cells
   clear hK K
   (try simp only[zi,xB,zL,xC])
   obtain⟨kz,HKZ⟩:=nmd w1.heap.size;rw[HKZ.X]at VZ0 HZL⊢;generalize(w1.alloc (zd #[zc zb 0,za none 0 0] 80))=wz at*;obtain⟨z0,z1⟩:=za1 VZ0.X;have zf:=fun i=>yU _ _ i _ _ VZ0.X;refine qT (rs:=[9]) (by kernel_rfl) (by simp) ?_;refine qR rfl (fun K hK=> ?_) qS;go_simp;refine(zh4 id (pl:Int) wz).mono ?_;rintro e w2 ⟨p,q,rfl,hb,hcp,hcq⟩;have G2:=za4 (GZ.X.below hb);have HP2:Hid (w2.cell? ⟨p,0,none⟩=some (zc zb (pl:Int))/\w2.cell? ⟨q,0,none⟩=some (zc zb id)):=⟨hcp,hcq⟩;have PB:Hid (Below w2.heap.size w2 w2):=yV _ _;have VZ2:=za4 (za0 hb (za2 VZ0.X) VZ0.X);clear hb hcp hcq
   (try go_wp2_with fail)
   refine hK.out _ _ ?_ (fun hHeld=> ?_)
   ·exact G2.X.cells
   clear hK K
   (try simp only[zi,xB,zL,xC])
   refine qT (rs:=[10]) (by kernel_rfl) (by simp) ?_;refine qR rfl (fun K hK=> ?_) qS;go_simp;refine(CH.X w2 w2 p q G2.X.b HP2.X.1 HP2.X.2 PB.X).mono ?_;rintro e w3 ⟨hb,ad,cg,rfl,ho⟩;rw[HVV.X,HXL.X];have G3:=za4 (G2.X.below hb);have VZ3:=za4 (za0 hb (za2 VZ2.X) VZ2.X);obtain⟨z0,z1⟩:=za1 VZ3.X;have zf:=fun i=>yU _ _ i _ _ VZ3.X;clear hb ho
   (try go_wp2_with fail)
   refine hK.out _ _ ?_ (fun hHeld=> ?_)
   ·exact G3.X.cells
   clear hK K
   (try simp only[zi,xB,zL,xC])
   refine tkH 11 hHeld ?_;refine tkH 12 hHeld ?_;refine tkH 13 hHeld ?_;refine tkH 14 hHeld ?_;refine qT (rs:=[16]) (by kernel_rfl) (by simp) ?_;refine qR rfl (fun K hK=> ?_) qS;have G5:Hid (GB W0 ((w3.setCell ⟨kz,0,none⟩ (zc zb vv)).setCell ⟨kz,1,none⟩ (za ad xl cg)) pc pp ps #[zc zb n,za a zl cap,za ao ko co,za av kv cv,zc zb fine] (za ra nr rc) (za la ln lc) id veh pl):=(G3.X.set HZL.X).set HZL.X;have V5:Hid (((w3.setCell ⟨kz,0,none⟩ (zc zb vv)).setCell ⟨kz,1,none⟩ (za ad xl cg)).heap[kz]? =some (zd #[zc zb vv,za ad xl cg] 80 (0,0))):=by
    have s1:=zP w3 kz 0 _ _ (zc zb vv) VZ3.X;have s2:=zP _ kz 1 _ _ (za ad xl cg) s1;simp at s2;exact s2
   go_simp;refine hK.out _ _ ?_ (fun hHeld=> ?_)
   ·exact G5.X.cells
   clear hK K;generalize((w3.setCell ⟨kz,0,none⟩ (zc zb vv)).setCell ⟨kz,1,none⟩ (za ad xl cg))=w5 at*;refine tkH 17 hHeld ?_;refine tkH 18 hHeld ?_;refine qU (by kernel_rfl) ?_ _;clear hHeld
   (try go_wp2_with fail)
   go_meet;exact⟨kz,rfl,rfl,rfl,G5.X⟩
  refine qR rfl (fun K hK=> ?_) qS;have GZ:Hid (GB W0 (wd.alloc (zd #[zc zb 0,za none 0 0] 80)) pc pp ps #[zc zb n,za a zl cap,za ao ko co,za av kv cv,zc zb fine] (za ra nr rc) (za la ln lc) id veh pl):=GD.X.below (zK _);have VZ0:Hid ((wd.alloc (zd #[zc zb 0,za none 0 0] 80)).heap[wd.heap.size]? =some (zd #[zc zb 0,za none 0 0] 80 (0,0))):=zN _ _;have HZL:Hid (W0.heap.size<=wd.heap.size):=GD.X.b.size;go_simp;refine hK.out _ _ ?_ (fun hHeld=> ?_)
  ·exact GZ.X.cells
  clear hK K
  (try simp only[zi,xB,zL,xC])
  obtain⟨kz,HKZ⟩:=nmd wd.heap.size;rw[HKZ.X]at VZ0 HZL⊢;generalize(wd.alloc (zd #[zc zb 0,za none 0 0] 80))=wz at*;obtain⟨z0,z1⟩:=za1 VZ0.X;have zf:=fun i=>yU _ _ i _ _ VZ0.X;refine qT (rs:=[4]) (by kernel_rfl) (by simp) ?_;refine qR rfl (fun K hK=> ?_) qS;go_simp;refine(RO.X wz GZ.X.b).mono ?_;rintro e w1 ⟨rfl,hb⟩;have G1:=za4 (GZ.X.below hb);have VZ1:=za4 (za0 hb (za2 VZ0.X) VZ0.X);clear hb
  (try go_wp2_with fail)
  refine hK.out _ _ ?_ (fun hHeld=> ?_)
  ·exact G1.X.cells
  clear hK K
  (try simp only[zi,xB,zL,xC])
  refine qT (rs:=[9]) (by kernel_rfl) (by simp) ?_;refine qR rfl (fun K hK=> ?_) qS;go_simp;refine(zh4 id (pl:Int) w1).mono ?_;rintro e w2 ⟨p,q,rfl,hb,hcp,hcq⟩;have G2:=za4 (G1.X.below hb);have HP2:Hid (w2.cell? ⟨p,0,none⟩=some (zc zb (pl:Int))/\w2.cell? ⟨q,0,none⟩=some (zc zb id)):=⟨hcp,hcq⟩;have PB:Hid (Below w2.heap.size w2 w2):=yV _ _;have VZ2:=za4 (za0 hb (za2 VZ1.X) VZ1.X);clear hb hcp hcq
  (try go_wp2_with fail)
  refine hK.out _ _ ?_ (fun hHeld=> ?_)
  ·exact G2.X.cells
  clear hK K
  (try simp only[zi,xB,zL,xC])
  refine qT (rs:=[10]) (by kernel_rfl) (by simp) ?_;refine qR rfl (fun K hK=> ?_) qS;go_simp;refine(CH.X w2 w2 p q G2.X.b HP2.X.1 HP2.X.2 PB.X).mono ?_;rintro e w3 ⟨hb,ad,cg,rfl,ho⟩;rw[HVV.X,HXL.X];have G3:=za4 (G2.X.below hb);have VZ3:=za4 (za0 hb (za2 VZ2.X) VZ2.X);obtain⟨z0,z1⟩:=za1 VZ3.X;have zf:=fun i=>yU _ _ i _ _ VZ3.X;clear hb ho
  (try go_wp2_with fail)
  refine hK.out _ _ ?_ (fun hHeld=> ?_)
  ·exact G3.X.cells
  clear hK K
  (try simp only[zi,xB,zL,xC])
  refine tkH 11 hHeld ?_;refine tkH 12 hHeld ?_;refine tkH 13 hHeld ?_;refine tkH 14 hHeld ?_;refine qT (rs:=[16]) (by kernel_rfl) (by simp) ?_;refine qR rfl (fun K hK=> ?_) qS;have G5:Hid (GB W0 ((w3.setCell ⟨kz,0,none⟩ (zc zb vv)).setCell ⟨kz,1,none⟩ (za ad xl cg)) pc pp ps #[zc zb n,za a zl cap,za ao ko co,za av kv cv,zc zb fine] (za ra nr rc) (za la ln lc) id veh pl):=(G3.X.set HZL.X).set HZL.X;have V5:Hid (((w3.setCell ⟨kz,0,none⟩ (zc zb vv)).setCell ⟨kz,1,none⟩ (za ad xl cg)).heap[kz]? =some (zd #[zc zb vv,za ad xl cg] 80 (0,0))):=by
   have s1:=zP w3 kz 0 _ _ (zc zb vv) VZ3.X;have s2:=zP _ kz 1 _ _ (za ad xl cg) s1;simp at s2;exact s2
  go_simp;refine hK.out _ _ ?_ (fun hHeld=> ?_)
  ·exact G5.X.cells
  clear hK K;generalize((w3.setCell ⟨kz,0,none⟩ (zc zb vv)).setCell ⟨kz,1,none⟩ (za ad xl cg))=w5 at*;refine tkH 17 hHeld ?_;refine tkH 18 hHeld ?_;refine qU (by kernel_rfl) ?_ _;clear hHeld
  (try go_wp2_with fail)
  go_meet;exact⟨kz,rfl,rfl,rfl,G5.X⟩
 case rest=>
  obtain⟨kz,rfl,rfl,rfl,hG5⟩:=hcut;obtain⟨w5,hw5⟩:∃v,v=wc:=⟨_,rfl⟩;subst hw5;have G5:=za4 hG5;clear hG5 G0;clear RO CH HVV HXL;rcases hok with⟨h1,h2,h3⟩|⟨h1,h2,h3⟩|⟨h1,h3⟩
  ·subst h1
   have hg:decide (dd<=fine)=true:=zS h2;obtain⟨g0,g1,g2,g3,g4,-⟩:=G5.X.cells
   go_wp2_with fail
   go_quiet (fail)
   go_wp2;go_ret2;refine⟨by rw[h3];rfl,?_⟩;exact B0.X.trans ((G5.X.b.trans (xp (yV _ _) _)).mono B0.X.size)
  ·subst h1
   have hg:decide (dd<=fine)=false:=zU (by omega);obtain⟨g0,g1,g2,g3,g4,-⟩:=G5.X.cells
   go_wp2_with fail
   go_quiet (fail)
   go_wp2;go_ret2;refine⟨by rw[h3];rfl,?_⟩;exact B0.X.trans ((G5.X.b.trans (xp (yV _ _) _)).mono B0.X.size)
  ·subst h1
   obtain⟨g0,g1,g2,g3,g4,-⟩:=G5.X.cells
   go_wp2_with fail
   go_quiet (fail)
   go_wp2;go_ret2;refine⟨by rw[h3];rfl,?_⟩;exact B0.X.trans ((G5.X.b.trans (xp (yV _ _) _)).mono B0.X.size)
