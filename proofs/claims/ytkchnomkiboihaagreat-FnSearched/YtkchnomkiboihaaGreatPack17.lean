import Derived.Test.YtkchnomkiboihaaGreatPack4
import Derived.Deep.LoopGhost
set_option linter.unusedSimpArgs false
set_option maxHeartbeats 4000000
set_option maxRecDepth 100000
namespace Go.Proofs.YtkchnomkiboihaaGreat
open RowKit renaming Below→Za,Hid→Zb
open Go renaming Calls→Zc
theorem qP:type_of% @Go.Value.slice.injEq:=@Go.Value.slice.injEq
theorem qQ:type_of% @List.length_eq_zero_iff:=@List.length_eq_zero_iff
theorem qR:type_of% @Go.results_none:=@Go.results_none
open Value renaming slice→za,int→ze
open IntKind renaming i64→zd
open Proofs.Tryz renaming prog→zh
open Go renaming World→zi
open World renaming ownsRow→zk
open Go.RowKit
open Q
theorem y48{w:zi}{base k:Nat}{v:Value}{e:TypeId}{size:Nat}{xs:List Value}(h:w.ownsRow base e size v k xs):∃ao co,v=za ao k co:=by
 obtain⟨_,⟨h1,h2⟩|⟨g',ac,az,h2,_⟩⟩:=h
 ·exact⟨none,0,by rw[h1,h2]⟩
 ·exact⟨_,_,h2⟩
theorem ym9(x y:Int)(w:zi):Zc zh 174 #[ze zd x,ze zd y] w fun e w'=>e=.returned (.bool (decide (x<y)))/\w'=w:=by
 go_enter Tryz.func174,Tryz.ntmps174
 go_wp2_with(go_at_call 198;refine(z46 _ _).mono ?_;rintro e w' ⟨rfl,hw⟩;subst hw)
 go_ret;exact⟨by first|rfl|simp,rfl⟩
theorem yk0(x y:Int)(v:Bool)(hv:decide (x<y)=v)(w:zi):Zc zh 174 #[ze zd x,ze zd y] w fun e w'=>e=.returned (.bool v)/\Za w.heap.size w w':=
 (ym9 x y w).mono fun _ _ ⟨h1,h2⟩=>⟨by rw[h1,hv],h2▸y5 _ _⟩
theorem yf0(g c n base:Nat)(xs:List Int)(w:zi)(ho:w.ownsRow base 2 1 (za (some ⟨g,0,none⟩) n c) n (xs.map (ze zd)))(hn:xs.length=n)(h1:1<=n)(bJ:n<=12)(dW:base<=g)(cK:xs.Nodup):
 Zc zh 183 #[za (some ⟨g,0,none⟩) n c,ze zd 0,ze zd n] w fun e w'=>e=.returned (.tuple #[])/\Za base w w'/\w'.ownsRow base 2 1 (za (some ⟨g,0,none⟩) n c) n ((zr3 xs).map (ze zd)):=by
 have HO:=za4 ho;have HN:Zb _:=hn;have kA:=za4 cK;clear ho hn cK;go_enter Tryz.func183,Tryz.ntmps183
 go_wp2_with fail
 go_loopw[6] (fun t wr=>∃i:Nat,1<=i/\i<=n/\t=ze zd i/\Za base w wr/\wr.ownsRow base 2 1 (za (some ⟨g,0,none⟩) n c) n ((zr3 (xs.take i)++xs.drop i).map (ze zd))) (fun t _=>n - (intOf t).toNat)
 case atStart=>exact⟨1,zT _,h1,by first|rfl|go_num,y5 _ _,by rw[yD3];exact HO.X⟩
 case round=>
  obtain⟨i,MZ,hi,rfl,hb,ho⟩:=hrel;have B1:Zb _:=hb;have O1:=za4 ho;clear hb ho HO;by_cases ah:i<n
  ·have ek:(i:Int)<(n:Int):=by omega
   have tZ:i<xs.length:=by rw[HN.X];exact ah
   obtain⟨P,HP⟩:=nmd (zr3 (xs.take i));obtain⟨x,HX⟩:=nmd (xs.getD i 0);obtain⟨D,HD⟩:=nmd (xs.drop (i+1));have bm:Zb (P.length=i):=by show _=_;rw[<-HP.X,zo4,yh];omega
   have l_:Zb (P.Pairwise (· <·)):=by rw[<-HP.X];exact ya4 (kA.sublist (List.take_sublist _ _))
   have Dg:Zb (x∉P):=by
    show¬_;rw[<-HP.X,<-HX.X,zD5];exact yn6 kA.X tZ
   have a8:Zb (zr3 (xs.take (i+1))++xs.drop (i+1)=zz3 P x++D):=by show _=_;rw[y65 tZ,HP.X,HX.X,HD.X]
   have O2:Zb (wr.ownsRow base 2 1 (za (some ⟨g,0,none⟩) n c) n ((insL P i x++D).map (ze zd))):=by
    have:=O1.X;rw[HP.X,y27 tZ,HX.X,HD.X]at this;have e:insL P i x++D=P++x::D:=by rw[<-bm.X,y82];simp
    show zk _ _ _ _ _ _ _;rw[e];exact this
   clear O1 HX HD HP tZ
   go_wp2_with fail
   go_loopw[7] (fun t wr=>∃j:Nat,j<=i/\t=ze zd j/\Za base w wr/\wr.ownsRow base 2 1 (za (some ⟨g,0,none⟩) n c) n ((insL P j x++D).map (ze zd))/\∀q,j<=q->q<i->x<P.getD q 0) (fun t _=>(intOf t).toNat)
   case atStart=>exact⟨i,zT _,rfl,B1.X,O2.X,fun q h1 h2=>by omega⟩
   case round=>
    clear B1 O2;obtain⟨j,hj,rfl,hb,ho,hq⟩:=hrel;have B3:Zb _:=hb;have O3:=za4 ho;have HQ:Zb _:=hq;clear hb ho hq;have aL:(insL P j x++D).length=n:=by
     obtain⟨_,_,_,h,_⟩:=zr8 O3.X;exact h
    have dS:Zb _:=aL;clear aL;have i_:Zb _:=xj dW (Nat.le_of_lt (O3.lt g rfl).2);have aV:=Kin.there wr;rcases Nat.eq_zero_or_pos j with l'|l'
    ·subst l'
     have EM:Zb _:=ym6 l_.X Dg.X (xi _) (fun q h1 h2=>HQ.X q h1 (by rw[<-bm.X];exact h2)) (fun h=>by omega);have EH:decide ((0:Int)<((0:Nat):Int))=false:=by decide
     go_wp2_with fail
     refine zb1 (by kernel_rfl) (by kernel_rfl) ?_
     repeat(go_big_quiet_step (fail))
     refine xA ?_;rintro _ ⟨s,rfl⟩;have B4:Zb _:=B3.trans (s.below.mono i_.X);have O4:Zb (s.w.ownsRow base 2 1 (za (some ⟨g,0,none⟩) n c) n ((zz3 P x++D).map (ze zd))):=by rw[<-EM.X];exact zb9 O3.X s.below
     clear aV;generalize s.w=W4 at*;go_wp2
     first
      |exact⟨⟨i+1,by omega,by omega,by first|rfl|go_num,B4.X,by rw[a8.X];exact O4.X⟩,by simp[intOf];omega⟩
      |(go_roundw
        case rel=>exact⟨i+1,by omega,by omega,by first|rfl|go_num,B4.X,by rw[a8.X];exact O4.X⟩
        case measure=>simp[intOf];omega)
    ·obtain⟨k,lp⟩:∃k,Zb (j=k+1):=⟨j - 1,by show j=_;omega⟩
     have DN:k<P.length:=by rw[bm.X];have:=lp.X;omega
     have cL:k<n:=by have:=lp.X;omega
     obtain⟨y,HY⟩:=nmd (P.getD k 0);obtain⟨c1,k1⟩:=zD9 O3.X (k:=j) (by rw[dS.X];omega);obtain⟨c2,k2⟩:=zD9 O3.X (k:=k) (by rw[dS.X];exact cL);rw[yJ1 (by rw[bm.X];exact hj)]at c1;have e2:(insL P j x++D).getD k 0=y:=by rw[lp.X,yt0 DN];exact HY.X
     rw[e2]at c2;clear e2;have EH:decide ((0:Int)<(j:Int))=true:=zW (by omega);have vh:(j:Int)<(n:Int):=by omega
     have iR:wrap64 ((j:Int) - 1)=(k:Int):=by rw[xB _ (by omega)];have:=lp.X;omega
     have dX:IntKind.i64.wrap ((j:Int) - 1)=(k:Int):=by rw[xu];have:=lp.X;omega
     have oM:(j:Int) - 1=(k:Int):=by have:=lp.X;omega
     have PX:(k:Int)<(n:Int):=by omega
     have z1:=fun s:Kin wr=>s.cell c1;have z2:=fun s:Kin wr=>s.cell c2;by_cases fZ:x<y
     ·have jT:=zW fZ
      go_wp2_with fail
      refine zb1 (by kernel_rfl) (by kernel_rfl) ?_
      repeat(go_big_quiet_step ((go_at_call 174;with_reducible exact Kin.call (yk0 x y true jT _))))
      refine xA ?_;rintro _ ⟨s,rfl⟩;have B4:Zb _:=B3.trans (s.below.mono i_.X);have O4:=za4 (zb9 O3.X s.below);have kL:Zb (∀q,k<=q->q<i->x<P.getD q 0):=fun q h1 h2=>by
       by_cases e:q=k
       ·rw[e,HY.X];exact fZ
       ·exact HQ.X q (by have:=lp.X;omega) h2
      have C1:=s.cell c1;have C2:=s.cell c2;have F1:=(zD9 O4.X (k:=j) (by rw[dS.X];omega)).2;have F2:=(zD9 O4.X (k:=k) (by rw[dS.X];exact cL)).2;have B5:Zb (Za base w ((s.w.setCell ⟨g,j,none⟩ (ze zd y)).setCell ⟨g,k,none⟩ (ze zd x))):=(B4.setCell dW _).setCell dW _;have O5:Zb (((s.w.setCell ⟨g,j,none⟩ (ze zd y)).setCell ⟨g,k,none⟩ (ze zd x)).ownsRow base 2 1 (za (some ⟨g,0,none⟩) n c) n ((insL P k x++D).map (ze zd))):=by
       have:=yv9 x (yv9 y O4.X (k:=j) (by omega)) (k:=k) cL;rw[lp.X,<-HY.X,y56 DN]at this;show zk _ _ _ _ _ _ _;rw[lp.X,<-HY.X];exact this
      have aq:j≠k:=by have:=lp.X;omega
      have o6:k≠j:=by have:=lp.X;omega
      clear aV z1 z2 c1 c2 k1 k2 EH jT fZ;generalize s.w=W4 at*
      go_wp2_with fail
      go_region;go_wp2
      first
       |exact⟨⟨k,by omega,by first|rfl|go_num,B5.drew,zb9 O5.X (y5 _ _).drew,kL.X⟩,by simp[intOf];omega⟩
       |(go_roundw
         case rel=>exact⟨k,by omega,by first|rfl|go_num,B5.drew,zb9 O5.X (y5 _ _).drew,kL.X⟩
         case measure=>simp[intOf];have:=lp.X;omega)
     ·have jT:=zX fZ
      have EM:Zb _:=ym6 l_.X Dg.X (by rw[bm.X];exact hj) (fun q h1 h2=>HQ.X q h1 (by rw[<-bm.X];exact h2)) (fun h=>by rw[show j - 1=k by have:=lp.X;omega,HY.X];exact fZ)
      go_wp2_with fail
      refine zb1 (by kernel_rfl) (by kernel_rfl) ?_
      repeat(go_big_quiet_step ((go_at_call 174;with_reducible exact Kin.call (yk0 x y false jT _))))
      refine xA ?_;rintro _ ⟨s,rfl⟩;have B4:Zb _:=B3.trans (s.below.mono i_.X);have O4:Zb (s.w.ownsRow base 2 1 (za (some ⟨g,0,none⟩) n c) n ((zz3 P x++D).map (ze zd))):=by rw[<-EM.X];exact zb9 O3.X s.below
      clear aV z1 z2 c1 c2 k1 k2 EH jT fZ;generalize s.w=W4 at*;go_wp2
      first
       |exact⟨⟨i+1,by omega,by omega,by first|rfl|go_num,B4.X,by rw[a8.X];exact O4.X⟩,by simp[intOf];omega⟩
       |(go_roundw
         case rel=>exact⟨i+1,by omega,by omega,by first|rfl|go_num,B4.X,by rw[a8.X];exact O4.X⟩
         case measure=>simp[intOf];omega)
  ·have ek:¬((i:Int)<(n:Int)):=by omega
   have be:i=n:=by omega
   have O2:Zb (wr.ownsRow base 2 1 (za (some ⟨g,0,none⟩) n c) n ((zr3 xs).map (ze zd))):=by
    have:=O1.X;rw[be,<-HN.X,ym,List.drop_length,qe,HN.X]at this;exact this
   have B2:Zb _:=B1.X;clear be O1;go_wp2
   first
    |refine bodyPost_end (qR rfl _ _ _) rfl ?_
    |refine xe (qR rfl _ _ _) rfl ?_
   exact⟨rfl,B2.X,O2.X⟩
theorem zX7(v:Value)(w:zi):
 Zc zh 183 #[v,ze zd 0,ze zd 0] w fun e w'=>e=.returned (.tuple #[])/\w'=w:=by
 go_enter Tryz.func183,Tryz.ntmps183
 go_wp2_with fail
 go_loop [6] (fun t=>t=ze zd 1) (fun _=>0)
 case atStart=>first|rfl|simp
 case round=>
  subst hrel;go_wp2
  first
   |refine bodyPost_end (qR rfl _ _ _) rfl ?_
   |refine xe (qR rfl _ _ _) rfl ?_
  exact⟨rfl,rfl⟩
theorem zH8(v:Value)(n:Nat)(h:n=0)(w:zi):
 Zc zh 183 #[v,ze zd 0,ze zd n] w fun e w'=>e=.returned (.tuple #[])/\w'=w:=by
 subst h;exact zX7 v w
theorem yc4(n:Nat)(h:n<=12)(w:zi):Zc zh 167 #[.int .u64 n] w fun e w'=>∃v:Int,e=.returned (ze zd v)/\w'=w:=by
 have Ok:∀w,Zc zh 192 #[.int .u64 n] w fun e w'=>∃v:Int,e=.returned (ze zd v)/\w'=w:=by
  intro w;have hc:n=0∨n=1∨n=2∨n=3∨n=4∨n=5∨n=6∨n=7∨n=8∨n=9∨n=10∨n=11∨n=12:=by omega
  rcases hc with rfl|rfl|rfl|rfl|rfl|rfl|rfl|rfl|rfl|rfl|rfl|rfl|rfl
  all_goals
   go_enter Tryz.func192,Tryz.ntmps192;go_wp2;go_ret;exact⟨_,rfl,rfl⟩
 go_enter Tryz.func167,Tryz.ntmps167
 go_wp2_with(go_at_call 192;refine(Ok _).mono ?_;rintro e w' ⟨v,rfl,hw⟩;subst hw)
 go_ret;exact⟨v,rfl,rfl⟩
theorem yu3(v:Value)(n base:Nat)(xs:List Int)(w:zi)(ho:w.ownsRow base 2 1 v n (xs.map (ze zd)))(hn:xs.length=n)(bJ:n<=12)(cK:xs.Nodup):
 Zc zh 140 #[v] w fun e w'=>e=.returned (.tuple #[])/\Za base w w'/\w'.ownsRow base 2 1 v n ((zr3 xs).map (ze zd)):=by
 have sO:∀c ad,v=za ad n c->Zc zh 183 #[za ad n c,ze zd 0,ze zd n] w fun e w'=>e=.returned (.tuple #[])/\Za base w w'/\w'.ownsRow base 2 1 v n ((zr3 xs).map (ze zd)):=by
  intro c ad e;rcases Nat.eq_zero_or_pos n with h0|h0
  ·refine(zH8 (za ad n c) n h0 w).mono ?_
   rintro e w' ⟨rfl,hw⟩;subst hw;have hx:xs=[]:=qQ.1 (hn.trans h0);subst hx;exact⟨rfl,y5 _ _,ho⟩
  ·rcases zm3 ho with h|⟨g,c',h⟩
   ·rw[h]at e
    simp only[qP]at e;omega
   ·rw[h]at e
    simp only[qP]at e;obtain⟨rfl,_,rfl⟩:=e;rw[h]at ho⊢;have dW:=(ho.lt g rfl).1;exact yf0 g c' n base xs w ho hn h0 bJ dW cK
 have wZ:∀c ad (l:Int),v=za ad n c->Zc zh 166 #[za ad n c,ze zd 0,ze zd n,ze zd l] w fun e w'=>e=.returned (.tuple #[])/\Za base w w'/\w'.ownsRow base 2 1 v n ((zr3 xs).map (ze zd)):=by
  intro c ad l e;have H:=sO c ad e;have HI:=za4 H;have Gh:(n:Int)<=12:=by omega
  clear H sO hn ho;go_enter Tryz.func166,Tryz.ntmps166
  go_wp2_with fail
  go_loopg [3,8,9,1,2] 1 (fun gk t3 t8 t9 t1 t2 wr=>wr=w/\t1=ze zd 0/\t2=ze zd n)
  case atStart=>exact⟨rfl,rfl,rfl⟩
  case round=>
   obtain⟨rfl,rfl,rfl⟩:=hrel
   go_wp2_with fail
   refine HI.mono ?_;rintro e w' ⟨rfl,h1,h2⟩;have H1:Zb _:=h1;have H2:=za4 h2;clear h1 h2;go_wp2
   first
    |refine bodyPost_end (qR rfl _ _ _) rfl ?_
    |refine xe (qR rfl _ _ _) rfl ?_
   exact⟨rfl,H1.X,H2.X⟩
 obtain⟨ad,c,e⟩:=y48 ho;have HP:=fun l=>wZ c ad l e;have eR:Zb _:=HP;clear HP wZ sO;subst e;have PM:Zb (∀w:zi,Zc zh 167 #[.int .u64 n] w fun e w'=>∃v:Int,e=.returned (ze zd v)/\w'=w):=fun w=>yc4 n bJ w;have Gh:(n:Int)<=12:=by omega
 go_enter Tryz.func140,Tryz.ntmps140
 go_wp2_with fail
 refine(PM.X _).mono ?_;rintro e w' ⟨l,rfl,hw⟩;subst hw
 go_wp2_with fail
 refine(eR.X _).mono ?_;rintro e w2 ⟨rfl,h1,h2⟩;have H1:Zb _:=h1;have H2:=za4 h2;clear h1 h2;go_wp2
 first
  |refine bodyPost_end (qR rfl _ _ _) rfl ?_
  |refine xe (qR rfl _ _ _) rfl ?_
 exact⟨rfl,H1.X,H2.X⟩
structure AtI(L:List Int)(x:Int)(k:Nat):Prop where
 le:k<=L.length
 lo:∀j,j<k->L.getD j 0<x
 hi:∀j,k<=j->j<L.length->x<=L.getD j 0
def UpI(L:List Int):Prop:=∀i j,i<=j->j<L.length->L.getD i 0<=L.getD j 0
def yI4(L:List Int)(x:Int)(w:zi)(e:Ending)(w':zi):Prop:=∃(k:Nat) (b:Bool),e=.returned (.tuple #[ze zd k,.bool b])/\AtI L x k/\w'=w
theorem zL7(x:Int)(w:zi):Zc zh 175 #[ze zd x] w fun e w'=>e=.returned (.bool false)/\w'=w:=by
 have hx:(x !=x)=false:=by simp
 go_enter Tryz.func175,Tryz.ntmps175;go_wp2;go_ret;exact⟨by first|rfl|simp,rfl⟩
theorem yf6(la:Option Addr)(n lc:Nat)(L:List Int)(x:Int)(w:zi)(hL:za3 w la L)(hn:L.length=n)(hl:n<=1048576)(hU:UpI L):
 Zc zh 146 #[za la n lc,ze zd x] w (yI4 L x w):=by
 have HL:=za4 hL;have HN:=za4 hn;have HU:=za4 hU;clear hL hn hU;go_enter Tryz.func146,Tryz.ntmps146
 go_wp2_with fail
 go_loopw[7,8] (fun ti tj wr=>∃i j:Nat,i<=j/\j<=n/\ti=ze zd i/\tj=ze zd j/\wr=w/\(∀t,t<i->L.getD t 0<x)/\(∀t,j<=t->t<n->x<=L.getD t 0)) (fun ti tj _=>(intOf tj).toNat - (intOf ti).toNat)
 case atStart=>exact⟨0,n,xi _,zT _,rfl,rfl,rfl,fun t ht=>by omega,fun t h1 h2=>by omega⟩
 case round=>
  obtain⟨i,j,lN,hj,rfl,rfl,rfl,an,lG⟩:=hrel;have aF:=za4 an;have vM:=za4 lG;clear an lG;by_cases ah:i<j
  ·have oC:(i:Int)<(j:Int):=by omega
   obtain⟨h,HH⟩:∃h:Nat,Zb ((i+j) / 2=h):=⟨_,rfl⟩;have lG:i<=h:=by have:=HH.X;omega
   have PJ:h<j:=by have:=HH.X;omega
   have hm:((i:Int)+(j:Int)) / 2=(h:Int):=by have:=HH.X;omega
   obtain⟨b,off,e,c1⟩:=HL.X h (by rw[HN.X];omega);subst e;have Mo:(h:Int)<(n:Int):=by omega
   have eM:Zb (L.getD h 0<x->∀t,t<h+1->L.getD t 0<x):=fun hv t ht=>Int.lt_of_le_of_lt (HU.X t h (by omega) (by rw[HN.X];omega)) hv
   have rB:Zb (¬L.getD h 0<x->∀t,h<=t->t<n->x<=L.getD t 0):=fun hv t h1 h2=>by
    have:=HU.X h t h1 (by rw[HN.X];exact h2);omega
   generalize L.getD h 0=y at*;have FO:=ym9 y x wr;by_cases hv:y<x
   ·have mR:Zb (∀t,t<h+1->L.getD t 0<x):=eM.X hv
    rw[zW hv]at FO;clear hv
    go_wp2_with fail
    refine FO.mono ?_;rintro e w2 ⟨rfl,dX⟩;subst dX;go_wp2;go_roundw
    case rel=>exact⟨h+1,j,by omega,hj,by first|rfl|go_num,rfl,by first|rfl|trivial,mR.X,vM.X⟩
    case measure=>simp[intOf];omega
   ·have mR:Zb (∀t,h<=t->t<n->x<=L.getD t 0):=rB.X hv
    rw[zX hv]at FO;clear hv
    go_wp2_with fail
    refine FO.mono ?_;rintro e w2 ⟨rfl,dX⟩;subst dX;go_wp2;go_roundw
    case rel=>exact⟨i,h,lG,by omega,rfl,rfl,by first|rfl|trivial,aF.X,mR.X⟩
    case measure=>simp[intOf];omega
  ·have oC:¬((i:Int)<(j:Int)):=by omega
   have sK:i=j:=by omega
   subst sK;have sH:Zb (AtI L x i):=⟨by rw[HN.X];exact hj,aF.X,fun t h1 h2=>vM.X t h1 (by rw[<-HN.X];exact h2)⟩;clear oC ah lN;by_cases be:i<n
   ·have km:(i:Int)<(n:Int):=by omega
    have uz:decide ((i:Int)<(n:Int))=true:=zW km;obtain⟨b,off,e,c1⟩:=HL.X i (by rw[HN.X];omega);subst e;generalize L.getD i 0=y at*;by_cases hv:y=x
    ·have eW:(y==x)=true:=by simp[hv]
     clear hv
     go_wp2_with(go_at_call 175;refine(zL7 _ _).mono ?_;rintro e w' ⟨rfl,hw⟩;subst hw)
     go_ret2;exact⟨i,_,rfl,sH.X,rfl⟩
    ·have eW:(y==x)=false:=by simp[hv]
     clear hv
     go_wp2_with(go_at_call 175;refine(zL7 _ _).mono ?_;rintro e w' ⟨rfl,hw⟩;subst hw)
     go_ret2;exact⟨i,_,rfl,sH.X,rfl⟩
   ·have km:¬(i:Int)<(n:Int):=by omega
    have uz:decide ((i:Int)<(n:Int))=false:=zX km;go_wp2;go_ret2;exact⟨i,_,rfl,sH.X,rfl⟩
