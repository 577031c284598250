import Derived.Test.YtjobhigmdaiinaaGreatPack0
import Derived.Test.YtjobhigmdaiinaaGreatPack1
import Derived.Test.YtjobhigmdaiinaaGreatPack4
import Derived.Deep.LoopGhost
import Derived.BigQuiet
namespace Go.Proofs.YtjobhigmdaiinaaGreat
open Go.RowKit
theorem ys5{w:World}{base k:Nat}{v:Value}{e:TypeId}{size:Nat}{xs:List Value}(h:w.ownsRow base e size v k xs):∃ao co,v=.slice ao k co:=by
 obtain⟨_,⟨h1,h2⟩|⟨g',cap,cur,h2,_⟩⟩:=h
 ·exact⟨none,0,by rw[h1,h2]⟩
 ·exact⟨_,_,h2⟩
theorem yr4(x y:Int)(w:World):Calls Tryz.prog 156 #[.int .i64 x,.int .i64 y] w fun e w'=>e=.returned (.bool (decide (x<y)))/\w'=w:=by
 go_enter Tryz.func156,Tryz.ntmps156
 go_wp2_with(go_at_call 145;refine(zy8 _ _).mono ?_;rintro e w' ⟨rfl,hw⟩;subst hw)
 go_ret;exact⟨by first|rfl|simp,rfl⟩
theorem zY3(x y:Int)(v:Bool)(hv:decide (x<y)=v)(w:World):Calls Tryz.prog 156 #[.int .i64 x,.int .i64 y] w fun e w'=>e=.returned (.bool v)/\Below w.heap.size w w':=
 (yr4 x y w).mono fun _ _ ⟨h1,h2⟩=>⟨by rw[h1,hv],h2▸Below.refl _ _⟩
set_option maxHeartbeats 2000000 in
theorem zU8(g c n base:Nat)(xs:List Int)(w:World)(ho:w.ownsRow base 2 1 (.slice (some ⟨g,0,none⟩) n c) n (xs.map (Value.int .i64)))(hn:xs.length=n)(h1:1<=n)(h12:n<=12)(hbg:base<=g)(hnd:xs.Nodup):
 Calls Tryz.prog 150 #[.slice (some ⟨g,0,none⟩) n c,.int .i64 0,.int .i64 n] w fun e w'=>e=.returned (.tuple #[])/\Below base w w'/\w'.ownsRow base 2 1 (.slice (some ⟨g,0,none⟩) n c) n ((zm2 xs).map (Value.int .i64)):=by
 have HO:Hid (w.ownsRow base 2 1 (.slice (some ⟨g,0,none⟩) n c) n (xs.map (Value.int .i64))):=ho;have HN:Hid _:=hn;have HND:Hid (xs.Nodup):=hnd;clear ho hn hnd;go_enter Tryz.func150,Tryz.ntmps150
 go_wp2_with fail
 go_loopw[6] (fun t wr=>∃i:Nat,1<=i/\i<=n/\t=.int .i64 i/\Below base w wr/\wr.ownsRow base 2 1 (.slice (some ⟨g,0,none⟩) n c) n ((zm2 (xs.take i)++xs.drop i).map (Value.int .i64))) (fun t _=>n - (intOf t).toNat)
 case atStart=>exact⟨1,Nat.le_refl _,h1,by first|rfl|go_num,Below.refl _ _,by rw[yw2];exact HO.out⟩
 case round=>
  obtain⟨i,hi1,hi,rfl,hb,ho⟩:=hrel;have B1:Hid _:=hb;have O1:Hid (wr.ownsRow base 2 1 (.slice (some ⟨g,0,none⟩) n c) n ((zm2 (xs.take i)++xs.drop i).map (Value.int .i64))):=ho;clear hb ho HO;by_cases hlt:i<n
  ·have hltI:(i:Int)<(n:Int):=by omega
   have hxi:i<xs.length:=by rw[HN.out];exact hlt
   obtain⟨P,HP⟩:=nmd (zm2 (xs.take i));obtain⟨x,HX⟩:=nmd (xs.getD i 0);obtain⟨D,HD⟩:=nmd (xs.drop (i+1));have HPL:Hid (P.length=i):=by show _=_;rw[<-HP.out,zp4,List.length_take];omega
   have HPP:Hid (P.Pairwise (· <·)):=by rw[<-HP.out];exact zA6 (HND.sublist (List.take_sublist _ _))
   have HXP:Hid (x∉P):=by
    show¬_;rw[<-HP.out,<-HX.out,zv3];exact yc3 HND.out hxi
   have HNX:Hid (zm2 (xs.take (i+1))++xs.drop (i+1)=z52 P x++D):=by show _=_;rw[yq4 hxi,HP.out,HX.out,HD.out]
   have O2:Hid (wr.ownsRow base 2 1 (.slice (some ⟨g,0,none⟩) n c) n ((insL P i x++D).map (Value.int .i64))):=by
    have:=O1.out;rw[HP.out,yg0 hxi,HX.out,HD.out]at this;have e:insL P i x++D=P++x::D:=by rw[<-HPL.out,yt9];simp
    show World.ownsRow _ _ _ _ _ _ _;rw[e];exact this
   clear O1 HX HD HP hxi
   go_wp2_with fail
   go_loopw[7] (fun t wr=>∃j:Nat,j<=i/\t=.int .i64 j/\Below base w wr/\wr.ownsRow base 2 1 (.slice (some ⟨g,0,none⟩) n c) n ((insL P j x++D).map (Value.int .i64))/\∀q,j<=q->q<i->x<P.getD q 0) (fun t _=>(intOf t).toNat)
   case atStart=>exact⟨i,Nat.le_refl _,rfl,B1.out,O2.out,fun q h1 h2=>by omega⟩
   case round=>
    clear B1 O2;obtain⟨j,hj,rfl,hb,ho,hq⟩:=hrel;have B3:Hid _:=hb;have O3:Hid (wr.ownsRow base 2 1 (.slice (some ⟨g,0,none⟩) n c) n ((insL P j x++D).map (Value.int .i64))):=ho;have HQ:Hid _:=hq;clear hb ho hq;have hlen:(insL P j x++D).length=n:=by
     obtain⟨_,_,_,h,_⟩:=zp7 O3.out;exact h
    have HLN:Hid _:=hlen;clear hlen;have HSZ:Hid _:=Nat.le_trans hbg (Nat.le_of_lt (O3.lt g rfl).2);have hkin:=Kin.there wr;rcases Nat.eq_zero_or_pos j with hj0|hj0
    ·subst hj0
     have HDN:Hid _:=zW7 HPP.out HXP.out (Nat.zero_le _) (fun q h1 h2=>HQ.out q h1 (by rw[<-HPL.out];exact h2)) (fun h=>by omega);have hd0:decide ((0:Int)<((0:Nat):Int))=false:=by decide
     go_wp2_with fail
     refine za9 (by kernel_rfl) (by kernel_rfl) ?_
     repeat(go_big_quiet_step (fail))
     refine wpQuiet_nil ?_;rintro _ ⟨s,rfl⟩;have B4:Hid _:=B3.trans (s.below.mono HSZ.out);have O4:Hid (s.w.ownsRow base 2 1 (.slice (some ⟨g,0,none⟩) n c) n ((z52 P x++D).map (Value.int .i64))):=by rw[<-HDN.out];exact zc0 O3.out s.below
     clear hkin;generalize s.w=W4 at*;go_wp2
     first
      |exact⟨⟨i+1,by omega,by omega,by first|rfl|go_num,B4.out,by rw[HNX.out];exact O4.out⟩,by simp[intOf];omega⟩
      |(go_roundw
        case rel=>exact⟨i+1,by omega,by omega,by first|rfl|go_num,B4.out,by rw[HNX.out];exact O4.out⟩
        case measure=>simp[intOf];omega)
    ·obtain⟨k,HJK⟩:∃k,Hid (j=k+1):=⟨j - 1,by show j=_;omega⟩
     have hkp:k<P.length:=by rw[HPL.out];have:=HJK.out;omega
     have hkn:k<n:=by have:=HJK.out;omega
     obtain⟨y,HY⟩:=nmd (P.getD k 0);obtain⟨c1,k1⟩:=z57 O3.out (k:=j) (by rw[HLN.out];omega);obtain⟨c2,k2⟩:=z57 O3.out (k:=k) (by rw[HLN.out];exact hkn);rw[y05 (by rw[HPL.out];exact hj)]at c1;have e2:(insL P j x++D).getD k 0=y:=by rw[HJK.out,yj7 hkp];exact HY.out
     rw[e2]at c2;clear e2;have hd0:decide ((0:Int)<(j:Int))=true:=decide_eq_true (by omega);have hjn:(j:Int)<(n:Int):=by omega
     have hw1:wrap64 ((j:Int) - 1)=(k:Int):=by rw[IntWalk.wrap64_in _ (by omega)];have:=HJK.out;omega
     have hw2:IntKind.i64.wrap ((j:Int) - 1)=(k:Int):=by rw[IntKind.wrap_i64];have:=HJK.out;omega
     have hw3:(j:Int) - 1=(k:Int):=by have:=HJK.out;omega
     have hkn':(k:Int)<(n:Int):=by omega
     have z1:=fun s:Kin wr=>s.cell c1;have z2:=fun s:Kin wr=>s.cell c2;by_cases hxy:x<y
     ·have hd1:=decide_eq_true hxy
      go_wp2_with fail
      refine za9 (by kernel_rfl) (by kernel_rfl) ?_
      repeat(go_big_quiet_step ((go_at_call 156;with_reducible exact Kin.call (zY3 x y true hd1 _))))
      refine wpQuiet_nil ?_;rintro _ ⟨s,rfl⟩;have B4:Hid _:=B3.trans (s.below.mono HSZ.out);have O4:Hid (s.w.ownsRow base 2 1 (.slice (some ⟨g,0,none⟩) n c) n ((insL P j x++D).map (Value.int .i64))):=zc0 O3.out s.below;have HQ2:Hid (∀q,k<=q->q<i->x<P.getD q 0):=fun q h1 h2=>by
       by_cases e:q=k
       ·rw[e,HY.out];exact hxy
       ·exact HQ.out q (by have:=HJK.out;omega) h2
      have C1:=s.cell c1;have C2:=s.cell c2;have F1:=(z57 O4.out (k:=j) (by rw[HLN.out];omega)).2;have F2:=(z57 O4.out (k:=k) (by rw[HLN.out];exact hkn)).2;have B5:Hid (Below base w ((s.w.setCell ⟨g,j,none⟩ (.int .i64 y)).setCell ⟨g,k,none⟩ (.int .i64 x))):=(B4.setCell hbg _).setCell hbg _;have O5:Hid (((s.w.setCell ⟨g,j,none⟩ (.int .i64 y)).setCell ⟨g,k,none⟩ (.int .i64 x)).ownsRow base 2 1 (.slice (some ⟨g,0,none⟩) n c) n ((insL P k x++D).map (Value.int .i64))):=by
       have:=yl0 x (yl0 y O4.out (k:=j) (by omega)) (k:=k) hkn;rw[HJK.out,<-HY.out,ys2 hkp]at this;show World.ownsRow _ _ _ _ _ _ _;rw[HJK.out,<-HY.out];exact this
      have hne:j≠k:=by have:=HJK.out;omega
      have hne2:k≠j:=by have:=HJK.out;omega
      clear hkin z1 z2 c1 c2 k1 k2 hd0 hd1 hxy;generalize s.w=W4 at*
      go_wp2_with fail
      go_region;go_wp2
      first
       |exact⟨⟨k,by omega,by first|rfl|go_num,B5.drew,zc0 O5.out (Below.refl _ _).drew,HQ2.out⟩,by simp[intOf];omega⟩
       |(go_roundw
         case rel=>exact⟨k,by omega,by first|rfl|go_num,B5.drew,zc0 O5.out (Below.refl _ _).drew,HQ2.out⟩
         case measure=>simp[intOf];have:=HJK.out;omega)
     ·have hd1:=decide_eq_false hxy
      have HDN:Hid _:=zW7 HPP.out HXP.out (by rw[HPL.out];exact hj) (fun q h1 h2=>HQ.out q h1 (by rw[<-HPL.out];exact h2)) (fun h=>by rw[show j - 1=k by have:=HJK.out;omega,HY.out];exact hxy)
      go_wp2_with fail
      refine za9 (by kernel_rfl) (by kernel_rfl) ?_
      repeat(go_big_quiet_step ((go_at_call 156;with_reducible exact Kin.call (zY3 x y false hd1 _))))
      refine wpQuiet_nil ?_;rintro _ ⟨s,rfl⟩;have B4:Hid _:=B3.trans (s.below.mono HSZ.out);have O4:Hid (s.w.ownsRow base 2 1 (.slice (some ⟨g,0,none⟩) n c) n ((z52 P x++D).map (Value.int .i64))):=by rw[<-HDN.out];exact zc0 O3.out s.below
      clear hkin z1 z2 c1 c2 k1 k2 hd0 hd1 hxy;generalize s.w=W4 at*;go_wp2
      first
       |exact⟨⟨i+1,by omega,by omega,by first|rfl|go_num,B4.out,by rw[HNX.out];exact O4.out⟩,by simp[intOf];omega⟩
       |(go_roundw
         case rel=>exact⟨i+1,by omega,by omega,by first|rfl|go_num,B4.out,by rw[HNX.out];exact O4.out⟩
         case measure=>simp[intOf];omega)
  ·have hltI:¬((i:Int)<(n:Int)):=by omega
   have hin:i=n:=by omega
   have O2:Hid (wr.ownsRow base 2 1 (.slice (some ⟨g,0,none⟩) n c) n ((zm2 xs).map (Value.int .i64))):=by
    have:=O1.out;rw[hin,<-HN.out,List.take_length,List.drop_length,List.append_nil,HN.out]at this;exact this
   have B2:Hid _:=B1.out;clear hin O1;go_wp2
   first
    |refine bodyPost_end (results_none rfl _ _ _) rfl ?_
    |refine bodyPost_ret (results_none rfl _ _ _) rfl ?_
   exact⟨rfl,B2.out,O2.out⟩
set_option maxHeartbeats 1000000 in
theorem zM0(v:Value)(w:World):
 Calls Tryz.prog 150 #[v,.int .i64 0,.int .i64 0] w fun e w'=>e=.returned (.tuple #[])/\w'=w:=by
 go_enter Tryz.func150,Tryz.ntmps150
 go_wp2_with fail
 go_loop [6] (fun t=>t=.int .i64 1) (fun _=>0)
 case atStart=>first|rfl|simp
 case round=>
  subst hrel;go_wp2
  first
   |refine bodyPost_end (results_none rfl _ _ _) rfl ?_
   |refine bodyPost_ret (results_none rfl _ _ _) rfl ?_
  exact⟨rfl,rfl⟩
theorem zA4(v:Value)(n:Nat)(h:n=0)(w:World):
 Calls Tryz.prog 150 #[v,.int .i64 0,.int .i64 n] w fun e w'=>e=.returned (.tuple #[])/\w'=w:=by
 subst h;exact zM0 v w
set_option maxRecDepth 100000 in
set_option maxHeartbeats 4000000 in
theorem zT5(n:Nat)(h:n<=12)(w:World):Calls Tryz.prog 144 #[.int .u64 n] w fun e w'=>∃v:Int,e=.returned (.int .i64 v)/\w'=w:=by
 have h64:∀w,Calls Tryz.prog 160 #[.int .u64 n] w fun e w'=>∃v:Int,e=.returned (.int .i64 v)/\w'=w:=by
  intro w;have hc:n=0∨n=1∨n=2∨n=3∨n=4∨n=5∨n=6∨n=7∨n=8∨n=9∨n=10∨n=11∨n=12:=by omega
  rcases hc with rfl|rfl|rfl|rfl|rfl|rfl|rfl|rfl|rfl|rfl|rfl|rfl|rfl
  all_goals
   go_enter Tryz.func160,Tryz.ntmps160;go_wp2;go_ret;exact⟨_,rfl,rfl⟩
 go_enter Tryz.func144,Tryz.ntmps144
 go_wp2_with(go_at_call 160;refine(h64 _).mono ?_;rintro e w' ⟨v,rfl,hw⟩;subst hw)
 go_ret;exact⟨v,rfl,rfl⟩
set_option maxRecDepth 100000 in
set_option maxHeartbeats 4000000 in
theorem ym0(v:Value)(n base:Nat)(xs:List Int)(w:World)(ho:w.ownsRow base 2 1 v n (xs.map (Value.int .i64)))(hn:xs.length=n)(h12:n<=12)(hnd:xs.Nodup):
 Calls Tryz.prog 123 #[v] w fun e w'=>e=.returned (.tuple #[])/\Below base w w'/\w'.ownsRow base 2 1 v n ((zm2 xs).map (Value.int .i64)):=by
 have hins:∀c ad,v=.slice ad n c->Calls Tryz.prog 150 #[.slice ad n c,.int .i64 0,.int .i64 n] w fun e w'=>e=.returned (.tuple #[])/\Below base w w'/\w'.ownsRow base 2 1 v n ((zm2 xs).map (Value.int .i64)):=by
  intro c ad e;rcases Nat.eq_zero_or_pos n with h0|h0
  ·refine(zA4 (.slice ad n c) n h0 w).mono ?_
   rintro e w' ⟨rfl,hw⟩;subst hw;have hx:xs=[]:=List.length_eq_zero_iff.1 (hn.trans h0);subst hx;exact⟨rfl,Below.refl _ _,ho⟩
  ·rcases zk0 ho with h|⟨g,c',h⟩
   ·rw[h]at e
    simp only[Value.slice.injEq]at e;omega
   ·rw[h]at e
    simp only[Value.slice.injEq]at e;obtain⟨rfl,_,rfl⟩:=e;rw[h]at ho⊢;have hbg:=(ho.lt g rfl).1;exact zU8 g c' n base xs w ho hn h0 h12 hbg hnd
 have hpdq:∀c ad (l:Int),v=.slice ad n c->Calls Tryz.prog 143 #[.slice ad n c,.int .i64 0,.int .i64 n,.int .i64 l] w fun e w'=>e=.returned (.tuple #[])/\Below base w w'/\w'.ownsRow base 2 1 v n ((zm2 xs).map (Value.int .i64)):=by
  intro c ad l e;have H:=hins c ad e;have HI:Hid (Calls Tryz.prog 150 #[.slice ad n c,.int .i64 0,.int .i64 n] w fun e w'=>e=.returned (.tuple #[])/\Below base w w'/\w'.ownsRow base 2 1 v n ((zm2 xs).map (Value.int .i64))):=H;have hn12:(n:Int)<=12:=by omega
  clear H hins hn ho;go_enter Tryz.func143,Tryz.ntmps143
  go_wp2_with fail
  go_loopg [3,8,9,1,2] 1 (fun gk t3 t8 t9 t1 t2 wr=>wr=w/\t1=.int .i64 0/\t2=.int .i64 n)
  case atStart=>exact⟨rfl,rfl,rfl⟩
  case round=>
   obtain⟨rfl,rfl,rfl⟩:=hrel
   go_wp2_with fail
   refine HI.mono ?_;rintro e w' ⟨rfl,h1,h2⟩;have H1:Hid _:=h1;have H2:Hid (w'.ownsRow base 2 1 v n ((zm2 xs).map (Value.int .i64))):=h2;clear h1 h2;go_wp2
   first
    |refine bodyPost_end (results_none rfl _ _ _) rfl ?_
    |refine bodyPost_ret (results_none rfl _ _ _) rfl ?_
   exact⟨rfl,H1.out,H2.out⟩
 obtain⟨ad,c,e⟩:=ys5 ho;have HP:=fun l=>hpdq c ad l e;have HP2:Hid _:=HP;clear HP hpdq hins;subst e;have HBL:Hid (∀w:World,Calls Tryz.prog 144 #[.int .u64 n] w fun e w'=>∃v:Int,e=.returned (.int .i64 v)/\w'=w):=fun w=>zT5 n h12 w;have hn12:(n:Int)<=12:=by omega
 go_enter Tryz.func123,Tryz.ntmps123
 go_wp2_with fail
 refine(HBL.out _).mono ?_;rintro e w' ⟨l,rfl,hw⟩;subst hw
 go_wp2_with fail
 refine(HP2.out _).mono ?_;rintro e w2 ⟨rfl,h1,h2⟩;have H1:Hid _:=h1;have H2:Hid (w2.ownsRow base 2 1 (.slice ad n c) n ((zm2 xs).map (Value.int .i64))):=h2;clear h1 h2;go_wp2
 first
  |refine bodyPost_end (results_none rfl _ _ _) rfl ?_
  |refine bodyPost_ret (results_none rfl _ _ _) rfl ?_
 exact⟨rfl,H1.out,H2.out⟩
end Go.Proofs.YtjobhigmdaiinaaGreat
