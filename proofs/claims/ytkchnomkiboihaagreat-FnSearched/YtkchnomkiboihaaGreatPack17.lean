import Derived.Test.YtkchnomkiboihaaGreatPack4
import Derived.Deep.LoopGhost
set_option linter.unusedSimpArgs false
set_option maxHeartbeats 4000000
set_option maxRecDepth 100000
namespace Go.Proofs.YtkchnomkiboihaaGreat
theorem qP:type_of% @Go.Value.slice.injEq:=@Go.Value.slice.injEq
theorem qQ:type_of% @List.length_eq_zero_iff:=@List.length_eq_zero_iff
theorem qR:type_of% @Go.results_none:=@Go.results_none
open Value renaming slice→za,int→ze
open IntKind renaming i64→zd
open Proofs.Tryz renaming prog→zh
open Go renaming World→zi
open World renaming ownsRow→zk
open Go.RowKit
open Q
theorem y81{w:zi}{base k:Nat}{v:Value}{e:TypeId}{size:Nat}{xs:List Value}(h:w.ownsRow base e size v k xs):∃ao co,v=za ao k co:=by
 obtain⟨_,⟨h1,h2⟩|⟨g',ac,az,h2,_⟩⟩:=h
 ·exact⟨none,0,by rw[h1,h2]⟩
 ·exact⟨_,_,h2⟩
theorem yj2(x y:Int)(w:zi):Calls zh 174 #[ze zd x,ze zd y] w fun e w'=>e=.returned (.bool (decide (x<y)))/\w'=w:=by
 go_enter Tryz.func174,Tryz.ntmps174
 go_wp2_with(go_at_call 198;refine(z42 _ _).mono ?_;rintro e w' ⟨rfl,hw⟩;subst hw)
 go_ret;exact⟨by first|rfl|simp,rfl⟩
theorem yi5(x y:Int)(v:Bool)(hv:decide (x<y)=v)(w:zi):Calls zh 174 #[ze zd x,ze zd y] w fun e w'=>e=.returned (.bool v)/\Below w.heap.size w w':=
 (yj2 x y w).mono fun _ _ ⟨h1,h2⟩=>⟨by rw[h1,hv],h2▸y5 _ _⟩
theorem yb9(g c n base:Nat)(xs:List Int)(w:zi)(ho:w.ownsRow base 2 1 (za (some ⟨g,0,none⟩) n c) n (xs.map (ze zd)))(hn:xs.length=n)(h1:1<=n)(bF:n<=12)(dU:base<=g)(cI:xs.Nodup):
 Calls zh 183 #[za (some ⟨g,0,none⟩) n c,ze zd 0,ze zd n] w fun e w'=>e=.returned (.tuple #[])/\Below base w w'/\w'.ownsRow base 2 1 (za (some ⟨g,0,none⟩) n c) n ((zr5 xs).map (ze zd)):=by
 have HO:=za4 ho;have HN:Hid _:=hn;have jO:=za4 cI;clear ho hn cI;go_enter Tryz.func183,Tryz.ntmps183
 go_wp2_with fail
 go_loopw[6] (fun t wr=>∃i:Nat,1<=i/\i<=n/\t=ze zd i/\Below base w wr/\wr.ownsRow base 2 1 (za (some ⟨g,0,none⟩) n c) n ((zr5 (xs.take i)++xs.drop i).map (ze zd))) (fun t _=>n - (intOf t).toNat)
 case atStart=>exact⟨1,zT _,h1,by first|rfl|go_num,y5 _ _,by rw[yG4];exact HO.X⟩
 case round=>
  obtain⟨i,Lo,hi,rfl,hb,ho⟩:=hrel;have B1:Hid _:=hb;have O1:=za4 ho;clear hb ho HO;by_cases ah:i<n
  ·have ek:(i:Int)<(n:Int):=by omega
   have tL:i<xs.length:=by rw[HN.X];exact ah
   obtain⟨P,HP⟩:=nmd (zr5 (xs.take i));obtain⟨x,HX⟩:=nmd (xs.getD i 0);obtain⟨D,HD⟩:=nmd (xs.drop (i+1));have bj:Hid (P.length=i):=by show _=_;rw[<-HP.X,zn9,yh];omega
   have mj:Hid (P.Pairwise (· <·)):=by rw[<-HP.X];exact zX0 (jO.sublist (List.take_sublist _ _))
   have Co:Hid (x∉P):=by
    show¬_;rw[<-HP.X,<-HX.X,zD4];exact yp4 jO.X tL
   have aY:Hid (zr5 (xs.take (i+1))++xs.drop (i+1)=zz1 P x++D):=by show _=_;rw[y56 tL,HP.X,HX.X,HD.X]
   have O2:Hid (wr.ownsRow base 2 1 (za (some ⟨g,0,none⟩) n c) n ((insL P i x++D).map (ze zd))):=by
    have:=O1.X;rw[HP.X,yy4 tL,HX.X,HD.X]at this;have e:insL P i x++D=P++x::D:=by rw[<-bj.X,y57];simp
    show zk _ _ _ _ _ _ _;rw[e];exact this
   clear O1 HX HD HP tL
   go_wp2_with fail
   go_loopw[7] (fun t wr=>∃j:Nat,j<=i/\t=ze zd j/\Below base w wr/\wr.ownsRow base 2 1 (za (some ⟨g,0,none⟩) n c) n ((insL P j x++D).map (ze zd))/\∀q,j<=q->q<i->x<P.getD q 0) (fun t _=>(intOf t).toNat)
   case atStart=>exact⟨i,zT _,rfl,B1.X,O2.X,fun q h1 h2=>by omega⟩
   case round=>
    clear B1 O2;obtain⟨j,hj,rfl,hb,ho,hq⟩:=hrel;have B3:Hid _:=hb;have O3:=za4 ho;have HQ:Hid _:=hq;clear hb ho hq;have aL:(insL P j x++D).length=n:=by
     obtain⟨_,_,_,h,_⟩:=zr9 O3.X;exact h
    have dW:Hid _:=aL;clear aL;have i8:Hid _:=xj dU (Nat.le_of_lt (O3.lt g rfl).2);have aV:=Kin.there wr;rcases Nat.eq_zero_or_pos j with mu|mu
    ·subst mu
     have GG:Hid _:=ym4 mj.X Co.X (xi _) (fun q h1 h2=>HQ.X q h1 (by rw[<-bj.X];exact h2)) (fun h=>by omega);have Ew:decide ((0:Int)<((0:Nat):Int))=false:=by decide
     go_wp2_with fail
     refine zb1 (by kernel_rfl) (by kernel_rfl) ?_
     repeat(go_big_quiet_step (fail))
     refine xA ?_;rintro _ ⟨s,rfl⟩;have B4:Hid _:=B3.trans (s.below.mono i8.X);have O4:Hid (s.w.ownsRow base 2 1 (za (some ⟨g,0,none⟩) n c) n ((zz1 P x++D).map (ze zd))):=by rw[<-GG.X];exact zb9 O3.X s.below
     clear aV;generalize s.w=W4 at*;go_wp2
     first
      |exact⟨⟨i+1,by omega,by omega,by first|rfl|go_num,B4.X,by rw[aY.X];exact O4.X⟩,by simp[intOf];omega⟩
      |(go_roundw
        case rel=>exact⟨i+1,by omega,by omega,by first|rfl|go_num,B4.X,by rw[aY.X];exact O4.X⟩
        case measure=>simp[intOf];omega)
    ·obtain⟨k,l9⟩:∃k,Hid (j=k+1):=⟨j - 1,by show j=_;omega⟩
     have Dw:k<P.length:=by rw[bj.X];have:=l9.X;omega
     have cM:k<n:=by have:=l9.X;omega
     obtain⟨y,HY⟩:=nmd (P.getD k 0);obtain⟨c1,k1⟩:=zC7 O3.X (k:=j) (by rw[dW.X];omega);obtain⟨c2,k2⟩:=zC7 O3.X (k:=k) (by rw[dW.X];exact cM);rw[yH8 (by rw[bj.X];exact hj)]at c1;have e2:(insL P j x++D).getD k 0=y:=by rw[l9.X,yx1 Dw];exact HY.X
     rw[e2]at c2;clear e2;have Ew:decide ((0:Int)<(j:Int))=true:=zW (by omega);have uT:(j:Int)<(n:Int):=by omega
     have iU:wrap64 ((j:Int) - 1)=(k:Int):=by rw[xB _ (by omega)];have:=l9.X;omega
     have dY:IntKind.i64.wrap ((j:Int) - 1)=(k:Int):=by rw[xu];have:=l9.X;omega
     have oI:(j:Int) - 1=(k:Int):=by have:=l9.X;omega
     have Oa:(k:Int)<(n:Int):=by omega
     have z1:=fun s:Kin wr=>s.cell c1;have z2:=fun s:Kin wr=>s.cell c2;by_cases gh:x<y
     ·have kH:=zW gh
      go_wp2_with fail
      refine zb1 (by kernel_rfl) (by kernel_rfl) ?_
      repeat(go_big_quiet_step ((go_at_call 174;with_reducible exact Kin.call (yi5 x y true kH _))))
      refine xA ?_;rintro _ ⟨s,rfl⟩;have B4:Hid _:=B3.trans (s.below.mono i8.X);have O4:=za4 (zb9 O3.X s.below);have kQ:Hid (∀q,k<=q->q<i->x<P.getD q 0):=fun q h1 h2=>by
       by_cases e:q=k
       ·rw[e,HY.X];exact gh
       ·exact HQ.X q (by have:=l9.X;omega) h2
      have C1:=s.cell c1;have C2:=s.cell c2;have F1:=(zC7 O4.X (k:=j) (by rw[dW.X];omega)).2;have F2:=(zC7 O4.X (k:=k) (by rw[dW.X];exact cM)).2;have B5:Hid (Below base w ((s.w.setCell ⟨g,j,none⟩ (ze zd y)).setCell ⟨g,k,none⟩ (ze zd x))):=(B4.setCell dU _).setCell dU _;have O5:Hid (((s.w.setCell ⟨g,j,none⟩ (ze zd y)).setCell ⟨g,k,none⟩ (ze zd x)).ownsRow base 2 1 (za (some ⟨g,0,none⟩) n c) n ((insL P k x++D).map (ze zd))):=by
       have:=yu3 x (yu3 y O4.X (k:=j) (by omega)) (k:=k) cM;rw[l9.X,<-HY.X,y61 Dw]at this;show zk _ _ _ _ _ _ _;rw[l9.X,<-HY.X];exact this
      have aq:j≠k:=by have:=l9.X;omega
      have pn:k≠j:=by have:=l9.X;omega
      clear aV z1 z2 c1 c2 k1 k2 Ew kH gh;generalize s.w=W4 at*
      go_wp2_with fail
      go_region;go_wp2
      first
       |exact⟨⟨k,by omega,by first|rfl|go_num,B5.drew,zb9 O5.X (y5 _ _).drew,kQ.X⟩,by simp[intOf];omega⟩
       |(go_roundw
         case rel=>exact⟨k,by omega,by first|rfl|go_num,B5.drew,zb9 O5.X (y5 _ _).drew,kQ.X⟩
         case measure=>simp[intOf];have:=l9.X;omega)
     ·have kH:=zX gh
      have GG:Hid _:=ym4 mj.X Co.X (by rw[bj.X];exact hj) (fun q h1 h2=>HQ.X q h1 (by rw[<-bj.X];exact h2)) (fun h=>by rw[show j - 1=k by have:=l9.X;omega,HY.X];exact gh)
      go_wp2_with fail
      refine zb1 (by kernel_rfl) (by kernel_rfl) ?_
      repeat(go_big_quiet_step ((go_at_call 174;with_reducible exact Kin.call (yi5 x y false kH _))))
      refine xA ?_;rintro _ ⟨s,rfl⟩;have B4:Hid _:=B3.trans (s.below.mono i8.X);have O4:Hid (s.w.ownsRow base 2 1 (za (some ⟨g,0,none⟩) n c) n ((zz1 P x++D).map (ze zd))):=by rw[<-GG.X];exact zb9 O3.X s.below
      clear aV z1 z2 c1 c2 k1 k2 Ew kH gh;generalize s.w=W4 at*;go_wp2
      first
       |exact⟨⟨i+1,by omega,by omega,by first|rfl|go_num,B4.X,by rw[aY.X];exact O4.X⟩,by simp[intOf];omega⟩
       |(go_roundw
         case rel=>exact⟨i+1,by omega,by omega,by first|rfl|go_num,B4.X,by rw[aY.X];exact O4.X⟩
         case measure=>simp[intOf];omega)
  ·have ek:¬((i:Int)<(n:Int)):=by omega
   have bd:i=n:=by omega
   have O2:Hid (wr.ownsRow base 2 1 (za (some ⟨g,0,none⟩) n c) n ((zr5 xs).map (ze zd))):=by
    have:=O1.X;rw[bd,<-HN.X,ym,List.drop_length,qe,HN.X]at this;exact this
   have B2:Hid _:=B1.X;clear bd O1;go_wp2
   first
    |refine bodyPost_end (qR rfl _ _ _) rfl ?_
    |refine xe (qR rfl _ _ _) rfl ?_
   exact⟨rfl,B2.X,O2.X⟩
theorem zZ0(v:Value)(w:zi):
 Calls zh 183 #[v,ze zd 0,ze zd 0] w fun e w'=>e=.returned (.tuple #[])/\w'=w:=by
 go_enter Tryz.func183,Tryz.ntmps183
 go_wp2_with fail
 go_loop [6] (fun t=>t=ze zd 1) (fun _=>0)
 case atStart=>first|rfl|simp
 case round=>
  subst hrel;go_wp2
  first
   |refine bodyPost_end (qR rfl _ _ _) rfl ?_
   |refine xe (qR rfl _ _ _) rfl ?_
  exact⟨rfl,rfl⟩
theorem zG7(v:Value)(n:Nat)(h:n=0)(w:zi):
 Calls zh 183 #[v,ze zd 0,ze zd n] w fun e w'=>e=.returned (.tuple #[])/\w'=w:=by
 subst h;exact zZ0 v w
theorem yd1(n:Nat)(h:n<=12)(w:zi):Calls zh 167 #[.int .u64 n] w fun e w'=>∃v:Int,e=.returned (ze zd v)/\w'=w:=by
 have Na:∀w,Calls zh 192 #[.int .u64 n] w fun e w'=>∃v:Int,e=.returned (ze zd v)/\w'=w:=by
  intro w;have hc:n=0∨n=1∨n=2∨n=3∨n=4∨n=5∨n=6∨n=7∨n=8∨n=9∨n=10∨n=11∨n=12:=by omega
  rcases hc with rfl|rfl|rfl|rfl|rfl|rfl|rfl|rfl|rfl|rfl|rfl|rfl|rfl
  all_goals
   go_enter Tryz.func192,Tryz.ntmps192;go_wp2;go_ret;exact⟨_,rfl,rfl⟩
 go_enter Tryz.func167,Tryz.ntmps167
 go_wp2_with(go_at_call 192;refine(Na _).mono ?_;rintro e w' ⟨v,rfl,hw⟩;subst hw)
 go_ret;exact⟨v,rfl,rfl⟩
theorem yx0(v:Value)(n base:Nat)(xs:List Int)(w:zi)(ho:w.ownsRow base 2 1 v n (xs.map (ze zd)))(hn:xs.length=n)(bF:n<=12)(cI:xs.Nodup):
 Calls zh 140 #[v] w fun e w'=>e=.returned (.tuple #[])/\Below base w w'/\w'.ownsRow base 2 1 v n ((zr5 xs).map (ze zd)):=by
 have tZ:∀c ad,v=za ad n c->Calls zh 183 #[za ad n c,ze zd 0,ze zd n] w fun e w'=>e=.returned (.tuple #[])/\Below base w w'/\w'.ownsRow base 2 1 v n ((zr5 xs).map (ze zd)):=by
  intro c ad e;rcases Nat.eq_zero_or_pos n with h0|h0
  ·refine(zG7 (za ad n c) n h0 w).mono ?_
   rintro e w' ⟨rfl,hw⟩;subst hw;have hx:xs=[]:=qQ.1 (hn.trans h0);subst hx;exact⟨rfl,y5 _ _,ho⟩
  ·rcases zm0 ho with h|⟨g,c',h⟩
   ·rw[h]at e
    simp only[qP]at e;omega
   ·rw[h]at e
    simp only[qP]at e;obtain⟨rfl,_,rfl⟩:=e;rw[h]at ho⊢;have dU:=(ho.lt g rfl).1;exact yb9 g c' n base xs w ho hn h0 bF dU cI
 have AC:∀c ad (l:Int),v=za ad n c->Calls zh 166 #[za ad n c,ze zd 0,ze zd n,ze zd l] w fun e w'=>e=.returned (.tuple #[])/\Below base w w'/\w'.ownsRow base 2 1 v n ((zr5 xs).map (ze zd)):=by
  intro c ad l e;have H:=tZ c ad e;have HI:=za4 H;have Fa:(n:Int)<=12:=by omega
  clear H tZ hn ho;go_enter Tryz.func166,Tryz.ntmps166
  go_wp2_with fail
  go_loopg [3,8,9,1,2] 1 (fun gk t3 t8 t9 t1 t2 wr=>wr=w/\t1=ze zd 0/\t2=ze zd n)
  case atStart=>exact⟨rfl,rfl,rfl⟩
  case round=>
   obtain⟨rfl,rfl,rfl⟩:=hrel
   go_wp2_with fail
   refine HI.mono ?_;rintro e w' ⟨rfl,h1,h2⟩;have H1:Hid _:=h1;have H2:=za4 h2;clear h1 h2;go_wp2
   first
    |refine bodyPost_end (qR rfl _ _ _) rfl ?_
    |refine xe (qR rfl _ _ _) rfl ?_
   exact⟨rfl,H1.X,H2.X⟩
 obtain⟨ad,c,e⟩:=y81 ho;have HP:=fun l=>AC c ad l e;have eX:Hid _:=HP;clear HP AC tZ;subst e;have PT:Hid (∀w:zi,Calls zh 167 #[.int .u64 n] w fun e w'=>∃v:Int,e=.returned (ze zd v)/\w'=w):=fun w=>yd1 n bF w;have Fa:(n:Int)<=12:=by omega
 go_enter Tryz.func140,Tryz.ntmps140
 go_wp2_with fail
 refine(PT.X _).mono ?_;rintro e w' ⟨l,rfl,hw⟩;subst hw
 go_wp2_with fail
 refine(eX.X _).mono ?_;rintro e w2 ⟨rfl,h1,h2⟩;have H1:Hid _:=h1;have H2:=za4 h2;clear h1 h2;go_wp2
 first
  |refine bodyPost_end (qR rfl _ _ _) rfl ?_
  |refine xe (qR rfl _ _ _) rfl ?_
 exact⟨rfl,H1.X,H2.X⟩
structure AtI(L:List Int)(x:Int)(k:Nat):Prop where
 le:k<=L.length
 lo:∀j,j<k->L.getD j 0<x
 hi:∀j,k<=j->j<L.length->x<=L.getD j 0
def UpI(L:List Int):Prop:=∀i j,i<=j->j<L.length->L.getD i 0<=L.getD j 0
def yJ4(L:List Int)(x:Int)(w:zi)(e:Ending)(w':zi):Prop:=∃(k:Nat) (b:Bool),e=.returned (.tuple #[ze zd k,.bool b])/\AtI L x k/\w'=w
theorem zL4(x:Int)(w:zi):Calls zh 175 #[ze zd x] w fun e w'=>e=.returned (.bool false)/\w'=w:=by
 have hx:(x !=x)=false:=by simp
 go_enter Tryz.func175,Tryz.ntmps175;go_wp2;go_ret;exact⟨by first|rfl|simp,rfl⟩
theorem yb3(la:Option Addr)(n lc:Nat)(L:List Int)(x:Int)(w:zi)(hL:za3 w la L)(hn:L.length=n)(hl:n<=1048576)(hU:UpI L):
 Calls zh 146 #[za la n lc,ze zd x] w (yJ4 L x w):=by
 have HL:=za4 hL;have HN:=za4 hn;have HU:=za4 hU;clear hL hn hU;go_enter Tryz.func146,Tryz.ntmps146
 go_wp2_with fail
 go_loopw[7,8] (fun ti tj wr=>∃i j:Nat,i<=j/\j<=n/\ti=ze zd i/\tj=ze zd j/\wr=w/\(∀t,t<i->L.getD t 0<x)/\(∀t,j<=t->t<n->x<=L.getD t 0)) (fun ti tj _=>(intOf tj).toNat - (intOf ti).toNat)
 case atStart=>exact⟨0,n,xi _,zT _,rfl,rfl,rfl,fun t ht=>by omega,fun t h1 h2=>by omega⟩
 case round=>
  obtain⟨i,j,lH,hj,rfl,rfl,rfl,an,lT⟩:=hrel;have aF:=za4 an;have vB:=za4 lT;clear an lT;by_cases ah:i<j
  ·have oU:(i:Int)<(j:Int):=by omega
   obtain⟨h,HH⟩:∃h:Nat,Hid ((i+j) / 2=h):=⟨_,rfl⟩;have lT:i<=h:=by have:=HH.X;omega
   have Ma:h<j:=by have:=HH.X;omega
   have hm:((i:Int)+(j:Int)) / 2=(h:Int):=by have:=HH.X;omega
   obtain⟨b,off,e,c1⟩:=HL.X h (by rw[HN.X];omega);subst e;have PY:(h:Int)<(n:Int):=by omega
   have eN:Hid (L.getD h 0<x->∀t,t<h+1->L.getD t 0<x):=fun hv t ht=>Int.lt_of_le_of_lt (HU.X t h (by omega) (by rw[HN.X];omega)) hv
   have rS:Hid (¬L.getD h 0<x->∀t,h<=t->t<n->x<=L.getD t 0):=fun hv t h1 h2=>by
    have:=HU.X h t h1 (by rw[HN.X];exact h2);omega
   generalize L.getD h 0=y at*;have FO:=yj2 y x wr;by_cases hv:y<x
   ·have ns:Hid (∀t,t<h+1->L.getD t 0<x):=eN.X hv
    rw[zW hv]at FO;clear hv
    go_wp2_with fail
    refine FO.mono ?_;rintro e w2 ⟨rfl,dY⟩;subst dY;go_wp2;go_roundw
    case rel=>exact⟨h+1,j,by omega,hj,by first|rfl|go_num,rfl,by first|rfl|trivial,ns.X,vB.X⟩
    case measure=>simp[intOf];omega
   ·have ns:Hid (∀t,h<=t->t<n->x<=L.getD t 0):=rS.X hv
    rw[zX hv]at FO;clear hv
    go_wp2_with fail
    refine FO.mono ?_;rintro e w2 ⟨rfl,dY⟩;subst dY;go_wp2;go_roundw
    case rel=>exact⟨i,h,lT,by omega,rfl,rfl,by first|rfl|trivial,aF.X,ns.X⟩
    case measure=>simp[intOf];omega
  ·have oU:¬((i:Int)<(j:Int)):=by omega
   have th:i=j:=by omega
   subst th;have uh:Hid (AtI L x i):=⟨by rw[HN.X];exact hj,aF.X,fun t h1 h2=>vB.X t h1 (by rw[<-HN.X];exact h2)⟩;clear oU ah lH;by_cases bd:i<n
   ·have j7:(i:Int)<(n:Int):=by omega
    have sA:decide ((i:Int)<(n:Int))=true:=zW j7;obtain⟨b,off,e,c1⟩:=HL.X i (by rw[HN.X];omega);subst e;generalize L.getD i 0=y at*;by_cases hv:y=x
    ·have eY:(y==x)=true:=by simp[hv]
     clear hv
     go_wp2_with(go_at_call 175;refine(zL4 _ _).mono ?_;rintro e w' ⟨rfl,hw⟩;subst hw)
     go_ret2;exact⟨i,_,rfl,uh.X,rfl⟩
    ·have eY:(y==x)=false:=by simp[hv]
     clear hv
     go_wp2_with(go_at_call 175;refine(zL4 _ _).mono ?_;rintro e w' ⟨rfl,hw⟩;subst hw)
     go_ret2;exact⟨i,_,rfl,uh.X,rfl⟩
   ·have j7:¬(i:Int)<(n:Int):=by omega
    have sA:decide ((i:Int)<(n:Int))=false:=zX j7;go_wp2;go_ret2;exact⟨i,_,rfl,uh.X,rfl⟩
