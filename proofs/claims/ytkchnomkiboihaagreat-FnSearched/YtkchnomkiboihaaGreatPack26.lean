import Derived.Test.YtkchnomkiboihaaGreatPack24
import Derived.Test.YtkchnomkiboihaaGreatPack25
set_option linter.unusedSimpArgs false
set_option maxHeartbeats 2000000
namespace Go.Proofs.YtkchnomkiboihaaGreat
open Q
end Go.Proofs.YtkchnomkiboihaaGreat
namespace Go.Proofs.YtkchnomkiboihaaGreat
open Value renaming slice→za,int→ze
open IntKind renaming i64→zd
open Proofs.Tryz renaming prog→zh
open Go renaming World→zi
open Go.RowKit
open Q
theorem zX1(g ac i base:Nat)(x:Int)(ids:List Int)(w:zi)(ho:w.ownsRow base 2 1 (za (some ⟨g,0,none⟩) ids.length ac) ids.length (ids.map (ze zd)))(hi:i<ids.length)(hx:x=i+1):
 Calls zh 142 #[za (some ⟨g,0,none⟩) ids.length ac,ze zd (i:Nat),ze zd x] w fun e w'=>e=.returned (za (some ⟨g,0,none⟩) (zl2 ids i).length ac)/\Below base w w'/\w'.ownsRow base 2 1 (za (some ⟨g,0,none⟩) (zl2 ids i).length ac) (zl2 ids i).length ((zl2 ids i).map (ze zd)):=by
 subst hx;rw[zk8 hi];exact yc5 g ac i base ids w ho hi
theorem zG7(p:Nat)(at_:Int)(bi:Option Addr)(c2:Nat)(ids:List Int)(w:zi)(hp:w.cell? ⟨p,0,none⟩=some (ze zd at_))(hI:za3 w bi ids)(hl:ids.length<=12):
 Calls zh 169 #[za bi ids.length c2,.pointer (some ⟨p,0,none⟩)] w (yC1 w (inB at_ 0 ((ids.length:Int) - 1)) (zl2 ids at_.toNat)):=by
 have HI:Hid (za3 w bi ids):=hI;clear hI;obtain⟨v,HV⟩:=nmd (inB at_ 0 ((ids.length:Int) - 1));rw[HV.X];cases v
 ·go_enter Tryz.func169,Tryz.ntmps169
  go_wp2_with(first|(go_at_call 32;refine(z64 at_ 0 ((ids.length:Int) - 1) w false HV.X).mono ?_;rintro e w1 ⟨rfl,rfl⟩))
  go_ret2;exact⟨y5 _ _,.inl ⟨rfl,rfl⟩⟩
 ·have h1:=zc8 HV.X
  obtain⟨i,rfl⟩:∃i:Nat,at_=i:=⟨at_.toNat,by omega⟩;have hi:i<ids.length:=by omega
  rw[show((i:Int)).toNat=i by omega];obtain⟨b,off,rfl,_⟩:=HI.X.some hi;go_enter Tryz.func169,Tryz.ntmps169
  go_wp2_with(first|(go_at_call 32;refine(z64 i 0 ((ids.length:Int) - 1) w true HV.X).mono ?_;rintro e w1 ⟨rfl,rfl⟩))
  have x_:IntKind.i64.wrap ((i:Int)+1)=i+1:=xz _ (by omega)
  go_region_held3 (fun W=>W.cell? ⟨p,0,none⟩=some (ze zd (i:Int))) (first|with_reducible exact kS|go_keep) ((first
   |(go_at_call 83
     with_reducible refine(z73 b off c2 ids w1.drew (HI.X.below (y5 _ _).drew) (by omega)).mono ?_
     rintro e w2 ⟨g,ac,rfl,hb,ho⟩;have B2:Hid (Below w1.heap.size w1 w2):=(y5 _ _).drew.trans hb;have O2:Hid (w2.ownsRow w1.heap.size 2 1 (za (some ⟨g,0,none⟩) ids.length ac) ids.length (ids.map (ze zd))):=ho;have kS:=(B2.X.cell (p:=⟨p,0,none⟩) (zV hp)).trans hp;clear hb ho)
   |(go_at_call 142
     with_reducible refine(zX1 g ac i w1.heap.size _ ids w2 O2.X hi rfl).mono ?_
     rintro e w3 ⟨rfl,hb,ho⟩;have B3:Hid _:=B2.X.trans hb;have O3:Hid (w3.ownsRow w1.heap.size 2 1 (za (some ⟨g,0,none⟩) (zl2 ids i).length ac) (zl2 ids i).length ((zl2 ids i).map (ze zd))):=ho;have kS:=(B3.X.cell (p:=⟨p,0,none⟩) (zV hp)).trans hp;clear hb ho)))
  all_goals
   go_wp2;go_ret2;exact⟨B3.X,.inr ⟨rfl,g,ac,rfl,O3.X⟩⟩
theorem zN0(w:zi){ap:Array Oper}{rest:List Oper}{o:Oper}{a:Act}{Q:Exit->Act->zi->Prop}
 (hg:o.guard=none) (l c:Operand) (du:o.op=Op.makeSlice 24 l c) (base:Nat)
 (kl kc:IntKind) (C:Int) (n:Nat) (hl:a.eval l=.int kl 0) (hc:a.eval c=.int kc C) (hC:C=(n:Int)) (b2:n<=1048576) (b4:base<=w.heap.size)
 (hK:∀w',w'.ownsRow base 2 1 (za (some ⟨w.heap.size,0,none⟩) 0 n) 0 (([]:List Int).map (ze zd))->w.grownBy w' none->wpList zh ap Q rest (a.put o.dst (za (some ⟨w.heap.size,0,none⟩) 0 n)) w'):
 wpList zh ap Q (o::rest) a w:=by
 obtain⟨i0,hi,bR,ba,bS⟩:=qx Tryz.info2;exact wpList_make_own w hg l c _ du base _ i0 _ 1 qb hi bR ba kl kc C n hl hc hC (by rw[bS];omega) (by unfold maxLen;omega) b4 hK
theorem PW.del{w W w5:zi}{g c p:Nat}{ov:Value}{L O:List Int}(h:PW w W w.heap.size (za (some ⟨g,0,none⟩) L.length c) ov L O)(hp:p<L.length)(hg:W.grownBy w5 (some g))(ho:w5.ownsRow w.heap.size 2 1 (za (some ⟨g,0,none⟩) (L.length - 1) c) (L.length - 1) ((zl2 L p).map (ze zd))):PW w w5 w.heap.size (za (some ⟨g,0,none⟩) (zl2 L p).length c) ov (zl2 L p) O:=by
 have Gk:w.heap.size<=g:=(h.l.lt g rfl).1;refine⟨h.b.grown hg h.b.size (fun k e=>by injection e with e;omega),⟨zT _,xj h.hB.2 hg.size⟩,?_,h.o.kept hg (.inr fun e=>h.ne (by rw[e];rfl)),h.ne,⟨g,c,rfl⟩,h.so⟩;rw[zk8 hp];exact ho
theorem zK4(s n k:Int)(w:zi):
 Calls zh 114 #[ze zd s,ze zd n,ze zd k] w fun e w'=>∃sl,e=.returned (.tuple #[sl,ze zd (z77 s n k)])/\Below w.heap.size w w'/\(zv8 s n k=true->sl≠za none 0 0)/\w'.ownsRow w.heap.size 2 1 sl (zs4 s n k).length ((zs4 s n k).map (ze zd)):=by
 obtain⟨R,HR⟩:=nmd (zs4 s n k);obtain⟨V,HV⟩:=nmd (z77 s n k);rw[HR.X,HV.X];cases hp:zv8 s n k
 ·have HE:Hid (R=[]/\V= -1):=by
   have:=yw0 hp;rw[HR.X,HV.X]at this;exact this
  unfold zv8 at hp;rcases qv (inB n 0 64)with h1|h1<;>rcases qv (inB k 0 n)with h2|h2<;>rcases qv (inB s 0 2147483647)with h3|h3
  ·rw[h1,h2,h3]at hp;simp at hp
  all_goals
   clear hp;go_enter Tryz.func114,Tryz.ntmps114
   go_wp2_with(first
    |(go_at_call 32;refine(zc2 _ _ _ _).mono ?_;rintro e w' ⟨rfl,dz⟩;subst w';first|rw[h1]|rw[h2])
    |(go_at_call 33;refine(zl6 _ _).mono ?_;rintro e w' ⟨rfl,dz⟩;subst w';rw[h3]))
   refine xe (v:=.tuple #[za none 0 0,ze zd (-1)]) (by simp[results,Tryz.results114,go_sem]) rfl ⟨_,by rw[HE.X.2],y5 _ _,(fun h=>by cases h),by rw[HE.X.1];exact xZ _ _ _ _⟩
 ·obtain⟨N,K,rfl,rfl,hN,hK,jW,d8⟩:=zI4 hp
  obtain⟨e1,e2⟩:=zv6 hp;have jF:Hid ((pkL K (z32 N) s).1=R/\(pkL K (z32 N) s).2=V):=⟨e1.symm.trans HR.X,e2.symm.trans HV.X⟩;have h1:inB (N:Int) 0 64=true:=zf0 (by omega);have h2:inB (K:Int) 0 N=true:=zf0 (by omega);have h3:inB s 0 2147483647=true:=zf0 (by omega);clear e1 e2 hp HR HV;go_enter Tryz.func114,Tryz.ntmps114
  go_wp2_with(first
   |(go_at_call 32;refine(zc2 _ _ _ _).mono ?_;rintro e w' ⟨rfl,dz⟩;subst w';first|rw[h1]|rw[h2])
   |(go_at_call 33;refine(zl6 _ _).mono ?_;rintro e w' ⟨rfl,dz⟩;subst w';rw[h3])
   |(refine zN0 _ rfl _ _ rfl w.heap.size _ _ (N:Int) N rfl rfl rfl (by omega) (zT _) ?_
     intro w1 ae hg;have O1:=za4 ae;have B1:Hid (Below w.heap.size w w1):=(y5 _ _).grown hg (zT _) (fun k e=>by cases e);clear ae hg))
  clear h1 h2 h3;go_loopw[8,29] (fun av t wr=>∃i:Nat,i<=N/\t=ze zd i/\wr.ownsRow w.heap.size 2 1 av i ((z32 i).map (ze zd))/\Below w.heap.size w wr/\av≠za none 0 0) (fun _ t _=>N - (intOf t).toNat)
  case atStart=>exact⟨0,xi _,rfl,O1.X,B1.X,by simp⟩
  case round=>
   clear O1 B1;obtain⟨i,hi,rfl,ho,hb,hn⟩:=hrel;obtain⟨gl,cl,rfl⟩:=zr0 ho hn;have O1:=za4 ho;have B1:=za4 hb;clear ho hb hn;by_cases ah:i<N
   ·have BA:Hid (Below w.heap.size w (wr.alloc (.cells #[ze zd (i:Int)] 2))):=B1.X.alloc B1.X.size _
    go_wp2_with(
     at_builtin;refine zc9 _ rfl _ _ rfl w.heap.size _ i (z32 i) rfl (O1.X.alloc _) wr.heap.size 0 1 1 [(i:Int)] rfl rfl (ze2 wr i) (by omega) (by omega) (xj B1.X.size (by simp)) ?_;intro v' w4 ae hg _ aX;have O4:Hid (w4.ownsRow w.heap.size 2 1 v' (i+1) ((z32 (i+1)).map (ze zd))):=by rw[zY8];exact ae
     have B4:Hid (Below w.heap.size w w4):=BA.X.grown hg BA.X.size (fun k e=>(O1.X.lt k e).1);have N4:Hid (v'≠za none 0 0):=zn1 aX ⟨_,_,_,rfl⟩;clear ae hg aX)
    go_roundw
    case rel=>exact⟨i+1,by omega,by first|rfl|go_num,O4.X,B4.X,N4.X⟩
    case measure=>simp[intOf];omega
   ·have pW:i=N:=by omega
    rw[pW]at O1⊢;clear hi ah pW
    go_wp2_with(
     refine zN0 _ rfl _ _ rfl w.heap.size _ _ (K:Int) K rfl rfl rfl (by omega) B1.X.size ?_;intro w2 ae hg;have P1:=za4 (PW.new2 (by rw[zh8];exact O1.X.kept hg (.inr (by simp[Value.ownBlock]))) (B1.X.grown hg B1.X.size (fun k e=>by cases e)) (by simp) ae (by simp) (fun e=>by have:=(O1.X.lt wr.heap.size (by rw[e];rfl)).2;omega));clear ae hg)
    go_loopw[0,8,10,40] (fun sv lv ov t wr=>∃(i:Nat) (s:Int) (L O:List Int),i<=K/\L.length=N - i/\t=ze zd i/\sv=ze zd s/\O.length=i/\PW w wr w.heap.size lv ov L O/\O++(pkL (K - i) L s).1=R/\(pkL (K - i) L s).2=V) (fun _ _ _ t _=>K - (intOf t).toNat)
    case atStart=>exact⟨0,s,z32 N,[],xi _,by rw[zh8];rfl,rfl,rfl,rfl,P1.X,jF.X.1,jF.X.2⟩
    case round=>
     clear P1;obtain⟨i,s,L,O,hi,hl,rfl,rfl,ho,fP,nI,iP⟩:=hrel;obtain⟨gl,cl,rfl⟩:=fP.sl;obtain⟨go,co,rfl⟩:=fP.so;have P1:=za4 fP;have HL:=za4 hl;have HO:=za4 ho;have sZ:Hid (O++(pkL (K - i) L s).1=R/\(pkL (K - i) L s).2=V):=⟨nI,iP⟩;clear fP hl ho nI iP;rw[HO.X]at P1⊢;by_cases ah:i<K
     ·have hD:0<L.length:=by rw[HL.X];omega
      have E9:L.length<=64:=by rw[HL.X];omega
      obtain⟨S,hS,Lp,gV,eN⟩:=zV1 s hD;have bB:=zU6 (L:=L) (s:=s) ah;obtain⟨D,HD⟩:=nmd L.length;rw[HD.X]at hD E9 gV eN bB P1⊢;obtain⟨p,HP⟩:=nmd (pkAt (zm6 s) D);rw[HP.X]at gV eN bB;have HS:=za4 hS;rw[HS.X]at bB;have kF:Hid ((O++[L.getD p 0])++(pkL (K - (i+1)) (zl2 L p) S).1=R/\(pkL (K - (i+1)) (zl2 L p) S).2=V):=by
       have h:=sZ.X;rw[bB]at h;refine⟨?_,h.2⟩;rw[<-h.1,yi];rfl
      have cx:wr.cell? ⟨gl,p,none⟩=some (ze zd (L.getD p 0)):=by
       obtain⟨_,_,e,h⟩:=zz2 P1.X.l HD.X p (by rw[HD.X];exact eN);simp at e;obtain⟨rfl,rfl⟩:=e;rw[yb]at h;exact h
      have cu:Hid ((zl2 L p).length=D - 1):=by show _=_;rw[zk8 (by rw[HD.X];exact eN),HD.X]
      obtain⟨x,HX⟩:=nmd (L.getD p 0);rw[HX.X]at cx kF;have Qj:(p:Int)<(D:Int):=by omega
      clear bB hS sZ;have pu:i<=64:=by omega
      go_wp2_with(first
       |(go_at_call 141;refine(zX5 _ _).mono ?_;rintro e w' ⟨rfl,dz⟩;subst w';rw[HS.X])
       |(at_builtin
         refine zc9 _ rfl (.tmp 49) (.tmp 54) rfl w.heap.size _ i O rfl (by have:=P1.X.o;rw[HO.X]at this;exact this.alloc _) wr.heap.size 0 1 1 [x] rfl rfl (ze2 wr x) (by omega) (by omega) (xj P1.X.hB.2 (by simp)) ?_;intro dP w4 ae hg bd aX;have P4:Hid (PW w w4 w.heap.size (za (some ⟨gl,0,none⟩) D cl) dP L (O++[x])):=P1.X.put (by rw[HO.X];exact ae) hg bd aX;clear ae hg bd aX)
       |(go_at_call 142
         have uj:=ya1 gl cl p w.heap.size L w4 (by have:=P4.X.l;rw[HD.X]at this⊢;exact this) (by rw[HD.X];exact eN);rw[HD.X,show((p+1:Nat):Int)=(p:Int)+1 by omega]at uj;refine uj.mono ?_;rintro e w5 ⟨rfl,vW,ed⟩;have P5:=za4 (PW.del (c:=cl) (by rw[HD.X];exact P4.X) (by rw[HD.X];exact eN) vW (by rw[HD.X];exact ed));rw[cu.X]at P5;clear uj vW ed))
      go_roundw
      case rel=>exact⟨i+1,S,zl2 L p,O++[x],by omega,by rw[cu.X,<-HD.X,HL.X];omega,by first|rfl|go_num,rfl,by rw[xY,HO.X];rfl,P5.X,kF.X.1,kF.X.2⟩
      case measure=>simp[intOf];omega
     ·have Gq:K - i=0:=by omega
      have HE:Hid (O=R/\s=V):=by
       have h:=sZ.X;rw[Gq]at h;refine⟨?_,h.2⟩;rw[<-h.1];exact(qe _).symm
      have Gp:Hid (wr.ownsRow w.heap.size 2 1 (za (some ⟨go,0,none⟩) i co) R.length (R.map (ze zd))):=by
       have:=P1.X.o;rw[HE.X.1]at this;exact this
      have HB:Hid (Below w.heap.size w wr):=P1.X.b;obtain⟨D,HD⟩:=nmd L.length;rw[HD.X,HE.X.2];go_wp2;refine xe (v:=.tuple #[za (some ⟨go,0,none⟩) i co,ze zd V]) (by simp[results,Tryz.results114,go_sem]) rfl ⟨_,rfl,HB.X,fun _=>by simp,Gp.X⟩
