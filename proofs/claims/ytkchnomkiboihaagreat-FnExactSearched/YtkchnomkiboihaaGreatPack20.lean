import Derived.Test.YtkchnomkiboihaaGreatPack5
import Derived.Deep.LoopGhost
set_option linter.unusedSimpArgs false
set_option maxHeartbeats 4000000
set_option maxRecDepth 100000
namespace Go.Proofs.YtkchnomkiboihaaGreat
theorem qK:type_of% @List.length_eq_zero_iff:=@List.length_eq_zero_iff
theorem qL:type_of% @Go.results_none:=@Go.results_none
open Value renaming slice→za,int→zc
open IntKind renaming i64→zb
open Proofs.Tryz renaming prog→ze
open Go renaming World→zg
open World renaming ownsRow→zk
open Go.RowKit
open Q
theorem y39{w:zg}{base k:Nat}{v:Value}{e:TypeId}{size:Nat}{xs:List Value}(h:w.ownsRow base e size v k xs):∃ao co,v=za ao k co:=by
 obtain⟨_,⟨h1,h2⟩|⟨g',cap,cur,h2,_⟩⟩:=h
 ·exact⟨none,0,by rw[h1,h2]⟩
 ·exact⟨_,_,h2⟩
theorem yj6(x y:Int)(w:zg):Calls ze 174 #[zc zb x,zc zb y] w fun e w'=>e=.returned (.bool (decide (x<y)))/\w'=w:=by
 go_enter Tryz.func174,Tryz.ntmps174
 go_wp2_with(go_at_call 198;refine(z42 _ _).mono ?_;rintro e w' ⟨rfl,hw⟩;subst hw)
 go_ret;exact⟨by first|rfl|simp,rfl⟩
theorem yl0(x y:Int)(v:Bool)(hv:decide (x<y)=v)(w:zg):Calls ze 174 #[zc zb x,zc zb y] w fun e w'=>e=.returned (.bool v)/\Below w.heap.size w w':=
 (yj6 x y w).mono fun _ _ ⟨h1,h2⟩=>⟨by rw[h1,hv],h2▸yV _ _⟩
theorem yh8(g c n base:Nat)(xs:List Int)(w:zg)(ho:w.ownsRow base 2 1 (za (some ⟨g,0,none⟩) n c) n (xs.map (zc zb)))(hn:xs.length=n)(h1:1<=n)(h12:n<=12)(hbg:base<=g)(hnd:xs.Nodup):
 Calls ze 183 #[za (some ⟨g,0,none⟩) n c,zc zb 0,zc zb n] w fun e w'=>e=.returned (.tuple #[])/\Below base w w'/\w'.ownsRow base 2 1 (za (some ⟨g,0,none⟩) n c) n ((zr3 xs).map (zc zb)):=by
 have HO:=za4 ho;have HN:Hid _:=hn;have HND:=za4 hnd;clear ho hn hnd;go_enter Tryz.func183,Tryz.ntmps183
 go_wp2_with fail
 go_loopw[6] (fun t wr=>∃i:Nat,1<=i/\i<=n/\t=zc zb i/\Below base w wr/\wr.ownsRow base 2 1 (za (some ⟨g,0,none⟩) n c) n ((zr3 (xs.take i)++xs.drop i).map (zc zb))) (fun t _=>n - (intOf t).toNat)
 case atStart=>exact⟨1,zQ _,h1,by first|rfl|go_num,yV _ _,by rw[yD3];exact HO.X⟩
 case round=>
  obtain⟨i,hi1,hi,rfl,hb,ho⟩:=hrel;have B1:Hid _:=hb;have O1:=za4 ho;clear hb ho HO;by_cases hlt:i<n
  ·have hltI:(i:Int)<(n:Int):=by omega
   have hxi:i<xs.length:=by rw[HN.X];exact hlt
   obtain⟨P,HP⟩:=nmd (zr3 (xs.take i));obtain⟨x,HX⟩:=nmd (xs.getD i 0);obtain⟨D,HD⟩:=nmd (xs.drop (i+1));have HPL:Hid (P.length=i):=by show _=_;rw[<-HP.X,zo3,zZ];omega
   have HPP:Hid (P.Pairwise (· <·)):=by rw[<-HP.X];exact zS9 (HND.sublist (List.take_sublist _ _))
   have HXP:Hid (x∉P):=by
    show¬_;rw[<-HP.X,<-HX.X,zC0];exact yo7 HND.X hxi
   have HNX:Hid (zr3 (xs.take (i+1))++xs.drop (i+1)=zz7 P x++D):=by show _=_;rw[y60 hxi,HP.X,HX.X,HD.X]
   have O2:Hid (wr.ownsRow base 2 1 (za (some ⟨g,0,none⟩) n c) n ((insL P i x++D).map (zc zb))):=by
    have:=O1.X;rw[HP.X,y14 hxi,HX.X,HD.X]at this;have e:insL P i x++D=P++x::D:=by rw[<-HPL.X,y30];simp
    show zk _ _ _ _ _ _ _;rw[e];exact this
   clear O1 HX HD HP hxi
   go_wp2_with fail
   go_loopw[7] (fun t wr=>∃j:Nat,j<=i/\t=zc zb j/\Below base w wr/\wr.ownsRow base 2 1 (za (some ⟨g,0,none⟩) n c) n ((insL P j x++D).map (zc zb))/\∀q,j<=q->q<i->x<P.getD q 0) (fun t _=>(intOf t).toNat)
   case atStart=>exact⟨i,zQ _,rfl,B1.X,O2.X,fun q h1 h2=>by omega⟩
   case round=>
    clear B1 O2;obtain⟨j,hj,rfl,hb,ho,hq⟩:=hrel;have B3:Hid _:=hb;have O3:=za4 ho;have HQ:Hid _:=hq;clear hb ho hq;have hlen:(insL P j x++D).length=n:=by
     obtain⟨_,_,_,h,_⟩:=zv4 O3.X;exact h
    have HLN:Hid _:=hlen;clear hlen;have HSZ:Hid _:=y7 hbg (Nat.le_of_lt (O3.lt g rfl).2);have hkin:=Kin.there wr;rcases Nat.eq_zero_or_pos j with hj0|hj0
    ·subst hj0
     have HDN:Hid _:=yk6 HPP.X HXP.X (yZ _) (fun q h1 h2=>HQ.X q h1 (by rw[<-HPL.X];exact h2)) (fun h=>by omega);have hd0:decide ((0:Int)<((0:Nat):Int))=false:=by decide
     go_wp2_with fail
     refine zb0 (by kernel_rfl) (by kernel_rfl) ?_
     repeat(go_big_quiet_step (fail))
     refine xj ?_;rintro _ ⟨s,rfl⟩;have B4:Hid _:=B3.trans (s.below.mono HSZ.X);have O4:Hid (s.w.ownsRow base 2 1 (za (some ⟨g,0,none⟩) n c) n ((zz7 P x++D).map (zc zb))):=by rw[<-HDN.X];exact zc5 O3.X s.below
     clear hkin;generalize s.w=W4 at*;go_wp2
     first
      |exact⟨⟨i+1,by omega,by omega,by first|rfl|go_num,B4.X,by rw[HNX.X];exact O4.X⟩,by simp[intOf];omega⟩
      |(go_roundw
        case rel=>exact⟨i+1,by omega,by omega,by first|rfl|go_num,B4.X,by rw[HNX.X];exact O4.X⟩
        case measure=>simp[intOf];omega)
    ·obtain⟨k,HJK⟩:∃k,Hid (j=k+1):=⟨j - 1,by show j=_;omega⟩
     have hkp:k<P.length:=by rw[HPL.X];have:=HJK.X;omega
     have hkn:k<n:=by have:=HJK.X;omega
     obtain⟨y,HY⟩:=nmd (P.getD k 0);obtain⟨c1,k1⟩:=zD5 O3.X (k:=j) (by rw[HLN.X];omega);obtain⟨c2,k2⟩:=zD5 O3.X (k:=k) (by rw[HLN.X];exact hkn);rw[yI2 (by rw[HPL.X];exact hj)]at c1;have e2:(insL P j x++D).getD k 0=y:=by rw[HJK.X,yu7 hkp];exact HY.X
     rw[e2]at c2;clear e2;have hd0:decide ((0:Int)<(j:Int))=true:=zS (by omega);have hjn:(j:Int)<(n:Int):=by omega
     have hw1:wrap64 ((j:Int) - 1)=(k:Int):=by rw[xr _ (by omega)];have:=HJK.X;omega
     have hw2:IntKind.i64.wrap ((j:Int) - 1)=(k:Int):=by rw[xk];have:=HJK.X;omega
     have hw3:(j:Int) - 1=(k:Int):=by have:=HJK.X;omega
     have hkn':(k:Int)<(n:Int):=by omega
     have z1:=fun s:Kin wr=>s.cell c1;have z2:=fun s:Kin wr=>s.cell c2;by_cases hxy:x<y
     ·have hd1:=zS hxy
      go_wp2_with fail
      refine zb0 (by kernel_rfl) (by kernel_rfl) ?_
      repeat(go_big_quiet_step ((go_at_call 174;with_reducible exact Kin.call (yl0 x y true hd1 _))))
      refine xj ?_;rintro _ ⟨s,rfl⟩;have B4:Hid _:=B3.trans (s.below.mono HSZ.X);have O4:=za4 (zc5 O3.X s.below);have HQ2:Hid (∀q,k<=q->q<i->x<P.getD q 0):=fun q h1 h2=>by
       by_cases e:q=k
       ·rw[e,HY.X];exact hxy
       ·exact HQ.X q (by have:=HJK.X;omega) h2
      have C1:=s.cell c1;have C2:=s.cell c2;have F1:=(zD5 O4.X (k:=j) (by rw[HLN.X];omega)).2;have F2:=(zD5 O4.X (k:=k) (by rw[HLN.X];exact hkn)).2;have B5:Hid (Below base w ((s.w.setCell ⟨g,j,none⟩ (zc zb y)).setCell ⟨g,k,none⟩ (zc zb x))):=(B4.setCell hbg _).setCell hbg _;have O5:Hid (((s.w.setCell ⟨g,j,none⟩ (zc zb y)).setCell ⟨g,k,none⟩ (zc zb x)).ownsRow base 2 1 (za (some ⟨g,0,none⟩) n c) n ((insL P k x++D).map (zc zb))):=by
       have:=yz3 x (yz3 y O4.X (k:=j) (by omega)) (k:=k) hkn;rw[HJK.X,<-HY.X,y57 hkp]at this;show zk _ _ _ _ _ _ _;rw[HJK.X,<-HY.X];exact this
      have hne:j≠k:=by have:=HJK.X;omega
      have hne2:k≠j:=by have:=HJK.X;omega
      clear hkin z1 z2 c1 c2 k1 k2 hd0 hd1 hxy;generalize s.w=W4 at*
      go_wp2_with fail
      go_region;go_wp2
      first
       |exact⟨⟨k,by omega,by first|rfl|go_num,B5.drew,zc5 O5.X (yV _ _).drew,HQ2.X⟩,by simp[intOf];omega⟩
       |(go_roundw
         case rel=>exact⟨k,by omega,by first|rfl|go_num,B5.drew,zc5 O5.X (yV _ _).drew,HQ2.X⟩
         case measure=>simp[intOf];have:=HJK.X;omega)
     ·have hd1:=zU hxy
      have HDN:Hid _:=yk6 HPP.X HXP.X (by rw[HPL.X];exact hj) (fun q h1 h2=>HQ.X q h1 (by rw[<-HPL.X];exact h2)) (fun h=>by rw[show j - 1=k by have:=HJK.X;omega,HY.X];exact hxy)
      go_wp2_with fail
      refine zb0 (by kernel_rfl) (by kernel_rfl) ?_
      repeat(go_big_quiet_step ((go_at_call 174;with_reducible exact Kin.call (yl0 x y false hd1 _))))
      refine xj ?_;rintro _ ⟨s,rfl⟩;have B4:Hid _:=B3.trans (s.below.mono HSZ.X);have O4:Hid (s.w.ownsRow base 2 1 (za (some ⟨g,0,none⟩) n c) n ((zz7 P x++D).map (zc zb))):=by rw[<-HDN.X];exact zc5 O3.X s.below
      clear hkin z1 z2 c1 c2 k1 k2 hd0 hd1 hxy;generalize s.w=W4 at*;go_wp2
      first
       |exact⟨⟨i+1,by omega,by omega,by first|rfl|go_num,B4.X,by rw[HNX.X];exact O4.X⟩,by simp[intOf];omega⟩
       |(go_roundw
         case rel=>exact⟨i+1,by omega,by omega,by first|rfl|go_num,B4.X,by rw[HNX.X];exact O4.X⟩
         case measure=>simp[intOf];omega)
  ·have hltI:¬((i:Int)<(n:Int)):=by omega
   have hin:i=n:=by omega
   have O2:Hid (wr.ownsRow base 2 1 (za (some ⟨g,0,none⟩) n c) n ((zr3 xs).map (zc zb))):=by
    have:=O1.X;rw[hin,<-HN.X,yc,List.drop_length,xY,HN.X]at this;exact this
   have B2:Hid _:=B1.X;clear hin O1;go_wp2
   first
    |refine bodyPost_end (qL rfl _ _ _) rfl ?_
    |refine yX (qL rfl _ _ _) rfl ?_
   exact⟨rfl,B2.X,O2.X⟩
theorem zY9(v:Value)(w:zg):
 Calls ze 183 #[v,zc zb 0,zc zb 0] w fun e w'=>e=.returned (.tuple #[])/\w'=w:=by
 go_enter Tryz.func183,Tryz.ntmps183
 go_wp2_with fail
 go_loop [6] (fun t=>t=zc zb 1) (fun _=>0)
 case atStart=>first|rfl|simp
 case round=>
  subst hrel;go_wp2
  first
   |refine bodyPost_end (qL rfl _ _ _) rfl ?_
   |refine yX (qL rfl _ _ _) rfl ?_
  exact⟨rfl,rfl⟩
theorem zE0(v:Value)(n:Nat)(h:n=0)(w:zg):
 Calls ze 183 #[v,zc zb 0,zc zb n] w fun e w'=>e=.returned (.tuple #[])/\w'=w:=by
 subst h;exact zY9 v w
theorem yf6(n:Nat)(h:n<=12)(w:zg):Calls ze 167 #[.int .u64 n] w fun e w'=>∃v:Int,e=.returned (zc zb v)/\w'=w:=by
 have h64:∀w,Calls ze 192 #[.int .u64 n] w fun e w'=>∃v:Int,e=.returned (zc zb v)/\w'=w:=by
  intro w;have hc:n=0∨n=1∨n=2∨n=3∨n=4∨n=5∨n=6∨n=7∨n=8∨n=9∨n=10∨n=11∨n=12:=by omega
  rcases hc with rfl|rfl|rfl|rfl|rfl|rfl|rfl|rfl|rfl|rfl|rfl|rfl|rfl
  all_goals
   go_enter Tryz.func192,Tryz.ntmps192;go_wp2;go_ret;exact⟨_,rfl,rfl⟩
 go_enter Tryz.func167,Tryz.ntmps167
 go_wp2_with(go_at_call 192;refine(h64 _).mono ?_;rintro e w' ⟨v,rfl,hw⟩;subst hw)
 go_ret;exact⟨v,rfl,rfl⟩
theorem y22(v:Value)(n base:Nat)(xs:List Int)(w:zg)(ho:w.ownsRow base 2 1 v n (xs.map (zc zb)))(hn:xs.length=n)(h12:n<=12)(hnd:xs.Nodup):
 Calls ze 140 #[v] w fun e w'=>e=.returned (.tuple #[])/\Below base w w'/\w'.ownsRow base 2 1 v n ((zr3 xs).map (zc zb)):=by
 have hins:∀c ad,v=za ad n c->Calls ze 183 #[za ad n c,zc zb 0,zc zb n] w fun e w'=>e=.returned (.tuple #[])/\Below base w w'/\w'.ownsRow base 2 1 v n ((zr3 xs).map (zc zb)):=by
  intro c ad e;rcases Nat.eq_zero_or_pos n with h0|h0
  ·refine(zE0 (za ad n c) n h0 w).mono ?_
   rintro e w' ⟨rfl,hw⟩;subst hw;have hx:xs=[]:=qK.1 (hn.trans h0);subst hx;exact⟨rfl,yV _ _,ho⟩
  ·rcases zu0 ho with h|⟨g,c',h⟩
   ·rw[h]at e
    simp only[xW]at e;omega
   ·rw[h]at e
    simp only[xW]at e;obtain⟨rfl,_,rfl⟩:=e;rw[h]at ho⊢;have hbg:=(ho.lt g rfl).1;exact yh8 g c' n base xs w ho hn h0 h12 hbg hnd
 have hpdq:∀c ad (l:Int),v=za ad n c->Calls ze 166 #[za ad n c,zc zb 0,zc zb n,zc zb l] w fun e w'=>e=.returned (.tuple #[])/\Below base w w'/\w'.ownsRow base 2 1 v n ((zr3 xs).map (zc zb)):=by
  intro c ad l e;have H:=hins c ad e;have HI:=za4 H;have hn12:(n:Int)<=12:=by omega
  clear H hins hn ho;go_enter Tryz.func166,Tryz.ntmps166
  go_wp2_with fail
  go_loopg [3,8,9,1,2] 1 (fun gk t3 t8 t9 t1 t2 wr=>wr=w/\t1=zc zb 0/\t2=zc zb n)
  case atStart=>exact⟨rfl,rfl,rfl⟩
  case round=>
   obtain⟨rfl,rfl,rfl⟩:=hrel
   go_wp2_with fail
   refine HI.mono ?_;rintro e w' ⟨rfl,h1,h2⟩;have H1:Hid _:=h1;have H2:=za4 h2;clear h1 h2;go_wp2
   first
    |refine bodyPost_end (qL rfl _ _ _) rfl ?_
    |refine yX (qL rfl _ _ _) rfl ?_
   exact⟨rfl,H1.X,H2.X⟩
 obtain⟨ad,c,e⟩:=y39 ho;have HP:=fun l=>hpdq c ad l e;have HP2:Hid _:=HP;clear HP hpdq hins;subst e;have HBL:Hid (∀w:zg,Calls ze 167 #[.int .u64 n] w fun e w'=>∃v:Int,e=.returned (zc zb v)/\w'=w):=fun w=>yf6 n h12 w;have hn12:(n:Int)<=12:=by omega
 go_enter Tryz.func140,Tryz.ntmps140
 go_wp2_with fail
 refine(HBL.X _).mono ?_;rintro e w' ⟨l,rfl,hw⟩;subst hw
 go_wp2_with fail
 refine(HP2.X _).mono ?_;rintro e w2 ⟨rfl,h1,h2⟩;have H1:Hid _:=h1;have H2:=za4 h2;clear h1 h2;go_wp2
 first
  |refine bodyPost_end (qL rfl _ _ _) rfl ?_
  |refine yX (qL rfl _ _ _) rfl ?_
 exact⟨rfl,H1.X,H2.X⟩
structure AtI(L:List Int)(x:Int)(k:Nat):Prop where
 le:k<=L.length
 lo:∀j,j<k->L.getD j 0<x
 hi:∀j,k<=j->j<L.length->x<=L.getD j 0
def UpI(L:List Int):Prop:=∀i j,i<=j->j<L.length->L.getD i 0<=L.getD j 0
def yI3(L:List Int)(x:Int)(w:zg)(e:Ending)(w':zg):Prop:=∃(k:Nat) (b:Bool),e=.returned (.tuple #[zc zb k,.bool b])/\AtI L x k/\w'=w
theorem zL3(x:Int)(w:zg):Calls ze 175 #[zc zb x] w fun e w'=>e=.returned (.bool false)/\w'=w:=by
 have hx:(x !=x)=false:=by simp
 go_enter Tryz.func175,Tryz.ntmps175;go_wp2;go_ret;exact⟨by first|rfl|simp,rfl⟩
theorem yf8(la:Option Addr)(n lc:Nat)(L:List Int)(x:Int)(w:zg)(hL:za3 w la L)(hn:L.length=n)(hl:n<=1048576)(hU:UpI L):
 Calls ze 146 #[za la n lc,zc zb x] w (yI3 L x w):=by
 have HL:=za4 hL;have HN:=za4 hn;have HU:=za4 hU;clear hL hn hU;go_enter Tryz.func146,Tryz.ntmps146
 go_wp2_with fail
 go_loopw[7,8] (fun ti tj wr=>∃i j:Nat,i<=j/\j<=n/\ti=zc zb i/\tj=zc zb j/\wr=w/\(∀t,t<i->L.getD t 0<x)/\(∀t,j<=t->t<n->x<=L.getD t 0)) (fun ti tj _=>(intOf tj).toNat - (intOf ti).toNat)
 case atStart=>exact⟨0,n,yZ _,zQ _,rfl,rfl,rfl,fun t ht=>by omega,fun t h1 h2=>by omega⟩
 case round=>
  obtain⟨i,j,hij,hj,rfl,rfl,rfl,hlo,hhi⟩:=hrel;have HLO:=za4 hlo;have HHI:=za4 hhi;clear hlo hhi;by_cases hlt:i<j
  ·have hiI:(i:Int)<(j:Int):=by omega
   obtain⟨h,HH⟩:∃h:Nat,Hid ((i+j) / 2=h):=⟨_,rfl⟩;have hhi:i<=h:=by have:=HH.X;omega
   have hhj:h<j:=by have:=HH.X;omega
   have hm:((i:Int)+(j:Int)) / 2=(h:Int):=by have:=HH.X;omega
   obtain⟨b,off,e,c1⟩:=HL.X h (by rw[HN.X];omega);subst e;have hhn:(h:Int)<(n:Int):=by omega
   have HLT:Hid (L.getD h 0<x->∀t,t<h+1->L.getD t 0<x):=fun hv t ht=>Int.lt_of_le_of_lt (HU.X t h (by omega) (by rw[HN.X];omega)) hv
   have HGE:Hid (¬L.getD h 0<x->∀t,h<=t->t<n->x<=L.getD t 0):=fun hv t h1 h2=>by
    have:=HU.X h t h1 (by rw[HN.X];exact h2);omega
   generalize L.getD h 0=y at*;have FO:=yj6 y x wr;by_cases hv:y<x
   ·have HL3:Hid (∀t,t<h+1->L.getD t 0<x):=HLT.X hv
    rw[zS hv]at FO;clear hv
    go_wp2_with fail
    refine FO.mono ?_;rintro e w2 ⟨rfl,hw2⟩;subst hw2;go_wp2;go_roundw
    case rel=>exact⟨h+1,j,by omega,hj,by first|rfl|go_num,rfl,by first|rfl|trivial,HL3.X,HHI.X⟩
    case measure=>simp[intOf];omega
   ·have HL3:Hid (∀t,h<=t->t<n->x<=L.getD t 0):=HGE.X hv
    rw[zU hv]at FO;clear hv
    go_wp2_with fail
    refine FO.mono ?_;rintro e w2 ⟨rfl,hw2⟩;subst hw2;go_wp2;go_roundw
    case rel=>exact⟨i,h,hhi,by omega,rfl,rfl,by first|rfl|trivial,HLO.X,HL3.X⟩
    case measure=>simp[intOf];omega
  ·have hiI:¬((i:Int)<(j:Int)):=by omega
   have hije:i=j:=by omega
   subst hije;have HAO:Hid (AtI L x i):=⟨by rw[HN.X];exact hj,HLO.X,fun t h1 h2=>HHI.X t h1 (by rw[<-HN.X];exact h2)⟩;clear hiI hlt hij;by_cases hin:i<n
   ·have hinI:(i:Int)<(n:Int):=by omega
    have hgd:decide ((i:Int)<(n:Int))=true:=zS hinI;obtain⟨b,off,e,c1⟩:=HL.X i (by rw[HN.X];omega);subst e;generalize L.getD i 0=y at*;by_cases hv:y=x
    ·have hvb:(y==x)=true:=by simp[hv]
     clear hv
     go_wp2_with(go_at_call 175;refine(zL3 _ _).mono ?_;rintro e w' ⟨rfl,hw⟩;subst hw)
     go_ret2;exact⟨i,_,rfl,HAO.X,rfl⟩
    ·have hvb:(y==x)=false:=by simp[hv]
     clear hv
     go_wp2_with(go_at_call 175;refine(zL3 _ _).mono ?_;rintro e w' ⟨rfl,hw⟩;subst hw)
     go_ret2;exact⟨i,_,rfl,HAO.X,rfl⟩
   ·have hinI:¬(i:Int)<(n:Int):=by omega
    have hgd:decide ((i:Int)<(n:Int))=false:=zU hinI;go_wp2;go_ret2;exact⟨i,_,rfl,HAO.X,rfl⟩
