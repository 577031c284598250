import Derived.Test.YtkchnomkiboihaaGreatPack11
import Derived.Test.YtkchnomkiboihaaGreatPack12
set_option linter.unusedSimpArgs false
set_option maxHeartbeats 2000000
namespace Go.Proofs.YtkchnomkiboihaaGreat
open Q
theorem qw:type_of% @Go.World.ownsRow_nil:=@Go.World.ownsRow_nil
theorem qx:type_of% @Go.IntWalk.i64_in:=@Go.IntWalk.i64_in
end Go.Proofs.YtkchnomkiboihaaGreat
namespace Go.Proofs.YtkchnomkiboihaaGreat
open Value renaming slice→za,int→zc
open IntKind renaming i64→zb
open Proofs.Tryz renaming prog→ze
open Go renaming World→zg
open Go.RowKit
open Q
theorem zX2(g cap i base:Nat)(x:Int)(ids:List Int)(w:zg)(ho:w.ownsRow base 2 1 (za (some ⟨g,0,none⟩) ids.length cap) ids.length (ids.map (zc zb)))(hi:i<ids.length)(hx:x=i+1):
 Calls ze 142 #[za (some ⟨g,0,none⟩) ids.length cap,zc zb (i:Nat),zc zb x] w fun e w'=>e=.returned (za (some ⟨g,0,none⟩) (zk9 ids i).length cap)/\Below base w w'/\w'.ownsRow base 2 1 (za (some ⟨g,0,none⟩) (zk9 ids i).length cap) (zk9 ids i).length ((zk9 ids i).map (zc zb)):=by
 subst hx;rw[zl4 hi];exact ye3 g cap i base ids w ho hi
theorem zD8(p:Nat)(at_:Int)(bi:Option Addr)(c2:Nat)(ids:List Int)(w:zg)(hp:w.cell? ⟨p,0,none⟩=some (zc zb at_))(hI:za3 w bi ids)(hl:ids.length<=12):
 Calls ze 169 #[za bi ids.length c2,.pointer (some ⟨p,0,none⟩)] w (yD8 w (inB at_ 0 ((ids.length:Int) - 1)) (zk9 ids at_.toNat)):=by
 have HI:Hid (za3 w bi ids):=hI;clear hI;obtain⟨v,HV⟩:=nmd (inB at_ 0 ((ids.length:Int) - 1));rw[HV.X];cases v
 ·go_enter Tryz.func169,Tryz.ntmps169
  go_wp2_with(first|(go_at_call 32;refine(z55 at_ 0 ((ids.length:Int) - 1) w false HV.X).mono ?_;rintro e w1 ⟨rfl,rfl⟩))
  go_ret2;exact⟨yV _ _,.inl ⟨rfl,rfl⟩⟩
 ·have h1:=zc7 HV.X
  obtain⟨i,rfl⟩:∃i:Nat,at_=i:=⟨at_.toNat,by omega⟩;have hi:i<ids.length:=by omega
  rw[show((i:Int)).toNat=i by omega];obtain⟨b,off,rfl,_⟩:=HI.X.some hi;go_enter Tryz.func169,Tryz.ntmps169
  go_wp2_with(first|(go_at_call 32;refine(z55 i 0 ((ids.length:Int) - 1) w true HV.X).mono ?_;rintro e w1 ⟨rfl,rfl⟩))
  have hwr:IntKind.i64.wrap ((i:Int)+1)=i+1:=qx _ (by omega)
  go_region_held3 (fun W=>W.cell? ⟨p,0,none⟩=some (zc zb (i:Int))) (first|with_reducible exact kS|go_keep) ((first
   |(go_at_call 83
     with_reducible refine(z93 b off c2 ids w1.drew (HI.X.below (yV _ _).drew) (by omega)).mono ?_
     rintro e w2 ⟨g,cap,rfl,hb,ho⟩;have B2:Hid (Below w1.heap.size w1 w2):=(yV _ _).drew.trans hb;have O2:Hid (w2.ownsRow w1.heap.size 2 1 (za (some ⟨g,0,none⟩) ids.length cap) ids.length (ids.map (zc zb))):=ho;have kS:=(B2.X.cell (p:=⟨p,0,none⟩) (zT hp)).trans hp;clear hb ho)
   |(go_at_call 142
     with_reducible refine(zX2 g cap i w1.heap.size _ ids w2 O2.X hi rfl).mono ?_
     rintro e w3 ⟨rfl,hb,ho⟩;have B3:Hid _:=B2.X.trans hb;have O3:Hid (w3.ownsRow w1.heap.size 2 1 (za (some ⟨g,0,none⟩) (zk9 ids i).length cap) (zk9 ids i).length ((zk9 ids i).map (zc zb))):=ho;have kS:=(B3.X.cell (p:=⟨p,0,none⟩) (zT hp)).trans hp;clear hb ho)))
  all_goals
   go_wp2;go_ret2;exact⟨B3.X,.inr ⟨rfl,g,cap,rfl,O3.X⟩⟩
theorem zL4(w:zg){ops:Array Oper}{rest:List Oper}{o:Oper}{a:Act}{Q:Exit->Act->zg->Prop}
 (hg:o.guard=none) (l c:Operand) (hop:o.op=Op.makeSlice 24 l c) (base:Nat)
 (kl kc:IntKind) (C:Int) (n:Nat) (hl:a.eval l=.int kl 0) (hc:a.eval c=.int kc C) (hC:C=(n:Int)) (b2:n<=1048576) (b4:base<=w.heap.size)
 (hK:∀w',w'.ownsRow base 2 1 (za (some ⟨w.heap.size,0,none⟩) 0 n) 0 (([]:List Int).map (zc zb))->w.grownBy w' none->wpList ze ops Q rest (a.put o.dst (za (some ⟨w.heap.size,0,none⟩) 0 n)) w'):
 wpList ze ops Q (o::rest) a w:=by
 obtain⟨i0,hi,hz0,hz1,hz2⟩:=qe Tryz.info2;exact wpList_make_own w hg l c _ hop base _ i0 _ 1 xi hi hz0 hz1 kl kc C n hl hc hC (by rw[hz2];omega) (by unfold maxLen;omega) b4 hK
theorem PW.del{w W w5:zg}{g c p:Nat}{ov:Value}{L O:List Int}(h:PW w W w.heap.size (za (some ⟨g,0,none⟩) L.length c) ov L O)(hp:p<L.length)(hg:W.grownBy w5 (some g))(ho:w5.ownsRow w.heap.size 2 1 (za (some ⟨g,0,none⟩) (L.length - 1) c) (L.length - 1) ((zk9 L p).map (zc zb))):PW w w5 w.heap.size (za (some ⟨g,0,none⟩) (zk9 L p).length c) ov (zk9 L p) O:=by
 have hgb:w.heap.size<=g:=(h.l.lt g rfl).1;refine⟨h.b.grown hg h.b.size (fun k e=>by injection e with e;omega),⟨zQ _,y7 h.hB.2 hg.size⟩,?_,h.o.kept hg (.inr fun e=>h.ne (by rw[e];rfl)),h.ne,⟨g,c,rfl⟩,h.so⟩;rw[zl4 hp];exact ho
theorem zI9(s n k:Int)(w:zg):
 Calls ze 114 #[zc zb s,zc zb n,zc zb k] w fun e w'=>∃sl,e=.returned (.tuple #[sl,zc zb (z88 s n k)])/\Below w.heap.size w w'/\(zu3 s n k=true->sl≠za none 0 0)/\w'.ownsRow w.heap.size 2 1 sl (zt0 s n k).length ((zt0 s n k).map (zc zb)):=by
 obtain⟨R,HR⟩:=nmd (zt0 s n k);obtain⟨V,HV⟩:=nmd (z88 s n k);rw[HR.X,HV.X];cases hp:zu3 s n k
 ·have HE:Hid (R=[]/\V= -1):=by
   have:=yy2 hp;rw[HR.X,HV.X]at this;exact this
  unfold zu3 at hp;rcases qd (inB n 0 64)with h1|h1<;>rcases qd (inB k 0 n)with h2|h2<;>rcases qd (inB s 0 2147483647)with h3|h3
  ·rw[h1,h2,h3]at hp;simp at hp
  all_goals
   clear hp;go_enter Tryz.func114,Tryz.ntmps114
   go_wp2_with(first
    |(go_at_call 32;refine(zc1 _ _ _ _).mono ?_;rintro e w' ⟨rfl,hw'⟩;subst w';first|rw[h1]|rw[h2])
    |(go_at_call 33;refine(zl7 _ _).mono ?_;rintro e w' ⟨rfl,hw'⟩;subst w';rw[h3]))
   refine yX (v:=.tuple #[za none 0 0,zc zb (-1)]) (by simp[results,Tryz.results114,go_sem]) rfl ⟨_,by rw[HE.X.2],yV _ _,(fun h=>by cases h),by rw[HE.X.1];exact qw _ _ _ _⟩
 ·obtain⟨N,K,rfl,rfl,hN,hK,hs0,hs1⟩:=zG4 hp
  obtain⟨e1,e2⟩:=zu4 hp;have HR1:Hid ((pkL K (z24 N) s).1=R/\(pkL K (z24 N) s).2=V):=⟨e1.symm.trans HR.X,e2.symm.trans HV.X⟩;have h1:inB (N:Int) 0 64=true:=zf3 (by omega);have h2:inB (K:Int) 0 N=true:=zf3 (by omega);have h3:inB s 0 2147483647=true:=zf3 (by omega);clear e1 e2 hp HR HV;go_enter Tryz.func114,Tryz.ntmps114
  go_wp2_with(first
   |(go_at_call 32;refine(zc1 _ _ _ _).mono ?_;rintro e w' ⟨rfl,hw'⟩;subst w';first|rw[h1]|rw[h2])
   |(go_at_call 33;refine(zl7 _ _).mono ?_;rintro e w' ⟨rfl,hw'⟩;subst w';rw[h3])
   |(refine zL4 _ rfl _ _ rfl w.heap.size _ _ (N:Int) N rfl rfl rfl (by omega) (zQ _) ?_
     intro w1 hown hg;have O1:=za4 hown;have B1:Hid (Below w.heap.size w w1):=(yV _ _).grown hg (zQ _) (fun k e=>by cases e);clear hown hg))
  clear h1 h2 h3;go_loopw[8,29] (fun av t wr=>∃i:Nat,i<=N/\t=zc zb i/\wr.ownsRow w.heap.size 2 1 av i ((z24 i).map (zc zb))/\Below w.heap.size w wr/\av≠za none 0 0) (fun _ t _=>N - (intOf t).toNat)
  case atStart=>exact⟨0,yZ _,rfl,O1.X,B1.X,by simp⟩
  case round=>
   clear O1 B1;obtain⟨i,hi,rfl,ho,hb,hn⟩:=hrel;obtain⟨gl,cl,rfl⟩:=zq9 ho hn;have O1:=za4 ho;have B1:=za4 hb;clear ho hb hn;by_cases hlt:i<N
   ·have BA:Hid (Below w.heap.size w (wr.alloc (.cells #[zc zb (i:Int)] 2))):=B1.X.alloc B1.X.size _
    go_wp2_with(
     at_builtin;refine zc9 _ rfl _ _ rfl w.heap.size _ i (z24 i) rfl (O1.X.alloc _) wr.heap.size 0 1 1 [(i:Int)] rfl rfl (zj5 wr i) (by omega) (by omega) (y7 B1.X.size (by simp)) ?_;intro v' w4 hown hg _ hnl;have O4:Hid (w4.ownsRow w.heap.size 2 1 v' (i+1) ((z24 (i+1)).map (zc zb))):=by rw[zZ4];exact hown
     have B4:Hid (Below w.heap.size w w4):=BA.X.grown hg BA.X.size (fun k e=>(O1.X.lt k e).1);have N4:Hid (v'≠za none 0 0):=zn9 hnl ⟨_,_,_,rfl⟩;clear hown hg hnl)
    go_roundw
    case rel=>exact⟨i+1,by omega,by first|rfl|go_num,O4.X,B4.X,N4.X⟩
    case measure=>simp[intOf];omega
   ·have hiN:i=N:=by omega
    rw[hiN]at O1⊢;clear hi hlt hiN
    go_wp2_with(
     refine zL4 _ rfl _ _ rfl w.heap.size _ _ (K:Int) K rfl rfl rfl (by omega) B1.X.size ?_;intro w2 hown hg;have P1:Hid (PW w w2 w.heap.size (za (some ⟨gl,0,none⟩) N cl) (za (some ⟨wr.heap.size,0,none⟩) 0 K) (z24 N) []):=PW.new2 (by rw[zg9];exact O1.X.kept hg (.inr (by simp[Value.ownBlock]))) (B1.X.grown hg B1.X.size (fun k e=>by cases e)) (by simp) hown (by simp) (fun e=>by have:=(O1.X.lt wr.heap.size (by rw[e];rfl)).2;omega);clear hown hg)
    go_loopw[0,8,10,40] (fun sv lv ov t wr=>∃(i:Nat) (s:Int) (L O:List Int),i<=K/\L.length=N - i/\t=zc zb i/\sv=zc zb s/\O.length=i/\PW w wr w.heap.size lv ov L O/\O++(pkL (K - i) L s).1=R/\(pkL (K - i) L s).2=V) (fun _ _ _ t _=>K - (intOf t).toNat)
    case atStart=>exact⟨0,s,z24 N,[],yZ _,by rw[zg9];rfl,rfl,rfl,rfl,P1.X,HR1.X.1,HR1.X.2⟩
    case round=>
     clear P1;obtain⟨i,s,L,O,hi,hl,rfl,rfl,ho,hpw,hres,hseed⟩:=hrel;obtain⟨gl,cl,rfl⟩:=hpw.sl;obtain⟨go,co,rfl⟩:=hpw.so;have P1:=za4 hpw;have HL:=za4 hl;have HO:=za4 ho;have HRS:Hid (O++(pkL (K - i) L s).1=R/\(pkL (K - i) L s).2=V):=⟨hres,hseed⟩;clear hpw hl ho hres hseed;rw[HO.X]at P1⊢;by_cases hlt:i<K
     ·have hD:0<L.length:=by rw[HL.X];omega
      have hDb:L.length<=64:=by rw[HL.X];omega
      obtain⟨S,hS,hSb,hat,hatl⟩:=zX3 s hD;have hst:=zT4 (L:=L) (s:=s) hlt;obtain⟨D,HD⟩:=nmd L.length;rw[HD.X]at hD hDb hat hatl hst P1⊢;obtain⟨p,HP⟩:=nmd (pkAt (zn0 s) D);rw[HP.X]at hat hatl hst;have HS:=za4 hS;rw[HS.X]at hst;have HRS2:Hid ((O++[L.getD p 0])++(pkL (K - (i+1)) (zk9 L p) S).1=R/\(pkL (K - (i+1)) (zk9 L p) S).2=V):=by
       have h:=HRS.X;rw[hst]at h;refine⟨?_,h.2⟩;rw[<-h.1,z7];rfl
      have cx:wr.cell? ⟨gl,p,none⟩=some (zc zb (L.getD p 0)):=by
       obtain⟨_,_,e,h⟩:=z03 P1.X.l HD.X p (by rw[HD.X];exact hatl);simp at e;obtain⟨rfl,rfl⟩:=e;rw[z6]at h;exact h
      have HRL:Hid ((zk9 L p).length=D - 1):=by show _=_;rw[zl4 (by rw[HD.X];exact hatl),HD.X]
      obtain⟨x,HX⟩:=nmd (L.getD p 0);rw[HX.X]at cx HRS2;have hpD:(p:Int)<(D:Int):=by omega
      clear hst hS HRS;have hib:i<=64:=by omega
      go_wp2_with(first
       |(go_at_call 141;refine(zW9 _ _).mono ?_;rintro e w' ⟨rfl,hw'⟩;subst w';rw[HS.X])
       |(at_builtin
         refine zc9 _ rfl (.tmp 49) (.tmp 54) rfl w.heap.size _ i O rfl (by have:=P1.X.o;rw[HO.X]at this;exact this.alloc _) wr.heap.size 0 1 1 [x] rfl rfl (zj5 wr x) (by omega) (by omega) (y7 P1.X.hB.2 (by simp)) ?_;intro ov' w4 hown hg hbk hnl;have P4:Hid (PW w w4 w.heap.size (za (some ⟨gl,0,none⟩) D cl) ov' L (O++[x])):=P1.X.put (by rw[HO.X];exact hown) hg hbk hnl;clear hown hg hbk hnl)
       |(go_at_call 142
         have hdel:=zX8 gl cl p w.heap.size L w4 (by have:=P4.X.l;rw[HD.X]at this⊢;exact this) (by rw[HD.X];exact hatl);rw[HD.X,show((p+1:Nat):Int)=(p:Int)+1 by omega]at hdel;refine hdel.mono ?_;rintro e w5 ⟨rfl,hg5,ho5⟩;have P5:Hid (PW w w5 w.heap.size (za (some ⟨gl,0,none⟩) (zk9 L p).length cl) ov' (zk9 L p) (O++[x])):=PW.del (c:=cl) (by rw[HD.X];exact P4.X) (by rw[HD.X];exact hatl) hg5 (by rw[HD.X];exact ho5);rw[HRL.X]at P5;clear hdel hg5 ho5))
      go_roundw
      case rel=>exact⟨i+1,S,zk9 L p,O++[x],by omega,by rw[HRL.X,<-HD.X,HL.X];omega,by first|rfl|go_num,rfl,by rw[xU,HO.X];rfl,P5.X,HRS2.X.1,HRS2.X.2⟩
      case measure=>simp[intOf];omega
     ·have hiK:K - i=0:=by omega
      have HE:Hid (O=R/\s=V):=by
       have h:=HRS.X;rw[hiK]at h;refine⟨?_,h.2⟩;rw[<-h.1];exact(xY _).symm
      have HOR:Hid (wr.ownsRow w.heap.size 2 1 (za (some ⟨go,0,none⟩) i co) R.length (R.map (zc zb))):=by
       have:=P1.X.o;rw[HE.X.1]at this;exact this
      have HB:Hid (Below w.heap.size w wr):=P1.X.b;obtain⟨D,HD⟩:=nmd L.length;rw[HD.X,HE.X.2];go_wp2;refine yX (v:=.tuple #[za (some ⟨go,0,none⟩) i co,zc zb V]) (by simp[results,Tryz.results114,go_sem]) rfl ⟨_,rfl,HB.X,fun _=>by simp,HOR.X⟩
