import Derived.Test.YtkchnomkiboihaaGreatPack18
import Derived.Test.YtkchnomkiboihaaGreatPack30
set_option linter.unusedSimpArgs false
namespace Go.Proofs.YtkchnomkiboihaaGreat
open Value renaming slice→za,int→zc
open IntKind renaming i64→zb
open Go renaming World→zg
open Go.RowKit
open Q
theorem zm1{w:zg}{base n rc:Nat}{ra:Option Addr}{S:List RT}(h:w.ownsRow base 80 2 (za ra n rc) n (zg5 S))(hi:∀s∈S,za3 w s.a s.ids):za9 w ra S:=fun j hj=>by
 have hl:=h.1;rw[ze5]at hl;rcases own_kinds h with⟨e,h0⟩|⟨g,c,e,_,_⟩
 ·omega
 ·simp only[xW,qg]at e
  obtain⟨rfl,rfl⟩:=e;obtain⟨r1,r2⟩:=zp0 S j hj;refine⟨g,0,rfl,?_,?_,hi _ (zh2 hj)⟩
  ·rw[z6];exact(zd5 h r1).1
  ·rw[z6];exact(zd5 h r2).1
theorem zu5{w w':zg}{B base size n:Nat}{e:TypeId}{v:Value}{xs:List Value}(h:w.ownsRow base e size v n xs)(hb:Below B w w')(hk:∀k,v.ownBlock=some k->k<B):w'.ownsRow base e size v n xs:=by
 obtain⟨h0,⟨h1,h2⟩|⟨g,cap,cur,h2,h3,h4,h5⟩⟩:=h
 ·exact⟨h0,.inl ⟨h1,h2⟩⟩
 ·refine⟨h0,.inr ⟨g,cap,cur,h2,h3,?_,h5⟩⟩
  rw[<-h4];exact hb.block g (hk g (by rw[h2];rfl))
theorem zd4{w:zg}{base size n k i:Nat}{v u:Value}{xs:List Value}{cs:Array Value}(h:w.ownsRow base 2 size v n xs)(hr:w.heap[k]? =some (.cells cs 80 (0,0))):(w.setCell ⟨k,i,none⟩ u).ownsRow base 2 size v n xs:=ze6 h hr (by decide)
theorem zj8{w:zg}{base n sc:Nat}{sa:Option Addr}{l:List Int}(h:w.ownsRow base 2 1 (za sa n sc) n (l.map (zc zb))):za3 w sa l:=fun j hj=>by
 rcases own_kinds h with⟨e,h0⟩|⟨g,c,e,_,_⟩
 ·have:=h.1
  rw[qn,h0]at this;omega
 ·simp only[xW,qg]at e
  obtain⟨rfl,rfl⟩:=e;refine⟨g,0,rfl,?_⟩;rw[z6];exact(zd5 h (by rw[ye,zM,zO hj];rfl)).1
theorem yk2{w:zg}{base size n sc:Nat}{e:TypeId}{sa:Option Addr}{xs:List Value}(h:w.ownsRow base e size (za sa n sc) n xs):n<=sc:=by
 obtain⟨_,⟨h1,h2⟩|⟨g,cap,cur,h2,_,_,h5,_⟩⟩:=h
 ·omega
 ·simp only[xW,qg]at h2
  rw[h2.2];exact h5
theorem z76{w:zg}{base size n rc:Nat}{e:TypeId}{ra:Option Addr}{xs:List Value}(h:w.ownsRow base e size (za ra n rc) n xs):(ra=none/\n=0)∨∃b off,ra=some ⟨b,off,none⟩:=by
 rcases own_kinds h with⟨e,h0⟩|⟨g,c,e,_,_⟩
 ·simp only[xW]at e
  exact .inl ⟨e.1,h0⟩
 ·simp only[xW]at e
  exact .inr ⟨g,0,e.1⟩
theorem z83{w:zg}{base size n m rc:Nat}{e:TypeId}{ra:Option Addr}{xs:List Value}(h:w.ownsRow base e size (za ra m rc) n xs):∀b off,ra=some ⟨b,off,none⟩->base<=b:=fun b off hb=>by
 subst hb;rcases own_kinds h with⟨h1,_⟩|⟨g,c,h1,h2,_⟩
 ·injection h1 with h1
  cases h1
 ·injection h1 with h1 _ _
  injection h1 with h1
  injection h1 with h1 _ _
  omega
theorem zg7{w:zg}{base n c:Nat}{a:Option Addr}{l:List Int}(h:w.ownsRow base 2 1 (za a n c) n (l.map (zc zb))):za3 w a l:=fun j hj=>by
 rcases own_kinds h with⟨_,h2⟩|⟨g,c',h2,_⟩
 ·have:=h.1
  rw[qn]at this;omega
 ·simp only[xW,qg]at h2
  obtain⟨rfl,rfl⟩:=h2;refine⟨g,0,rfl,?_⟩;rw[z6];refine(zd5 h ?_).1;rw[ye,zO hj,zM,zO hj];rfl
theorem yr8{w:zg}{base m lc:Nat}{la:Option Addr}{S:List RT}{rs:Value}{L:List Int}(h:PO w base rs S (za la m lc) L)(hm:L.length=m):za3 w la L:=by
 have hl:=h.l;rw[hm]at hl;exact zj8 hl
theorem z27{w:zg}{base n rc:Nat}{ra:Option Addr}{S:List RT}{ls:Value}{L:List Int}(h:PO w base (za ra n rc) S ls L)(hn:S.length=n):za9 w ra S:=by
 have hr:=h.r;rw[hn]at hr;exact zm1 hr (fun s hs=>(h.ints s hs).1)
structure PT(W:zg)(b q:Nat)(rs:Value)(S:List RT)(ls:Value)(L:List Int)(tv:Value)(X:List Int):Prop where
 le:b<=q
 p:PO W q rs S ls L
 t:PO W b (za none 0 0) [] tv X
section
variable {W W':zg} {b q k:Nat} {rs ls tv:Value} {S S':List RT} {L L' X:List Int}
theorem PT.new(hle:b<=q)(hp:PO W q rs S ls L)(ht:W.ownsRow b 2 1 tv X.length (X.map (zc zb))):PT W b q rs S ls L tv X:=⟨hle,hp,⟨qA _ _ _ _,(fun s hs=>by cases hs),ht⟩⟩
theorem PT.below(h:PT W b q rs S ls L tv X)(hb:Below W.heap.size W W'):PT W' b q rs S ls L tv X:=⟨h.le,h.p.below hb,h.t.below hb⟩
theorem PT.box{i:Nat}{u:Value}{cs:Array Value}(h:PT W b q rs S ls L tv X)(hk:W.heap[k]? =some (.cells cs 33 (0,0))):PT (W.setCell ⟨k,i,none⟩ u) b q rs S ls L tv X:=⟨h.le,h.p.box hk,h.t.box hk⟩
theorem PT.but{C:Nat->Prop}(h:PT W b q rs S ls L tv X)(hG:zb2 C W W')(hs:∀x,C x->x<b):PT W' b q rs S ls L tv X:=⟨h.le,h.p.but hG (fun x hx=>xh (hs x hx) h.le),h.t.but hG hs⟩
theorem PT.low{b0:Nat}(h:PT W b q rs S ls L tv X)(hb:b0<=b):PT W b0 b0 rs S ls L tv X:=⟨zQ _,h.p.base (y7 hb h.le),h.t.base hb⟩
theorem PT.ints{ta:Option Addr}{n c:Nat}(h:PT W b q rs S ls L (za ta n c) X)(hn:X.length=n):za3 W ta X:=by
 have:=h.t.l;rw[hn]at this;exact zj8 this
theorem PT.mark{top:Nat}(h:PT W b q rs S ls L tv X)(hz:∀z,tv.ownBlock=some z->z<q)(hG:zb2 (fun x=>q<=x/\x<top) W W')(hp:PO W' q rs S' ls L'):PT W' b q rs S' ls L' tv X:=by
 refine⟨h.le,hp,qA _ _ _ _,(fun s hs=>by cases hs),?_⟩;obtain⟨h0,⟨h1,h2⟩|⟨g,cap,cur,h2,h3,h4,h5⟩⟩:=h.t.l
 ·exact⟨h0,.inl ⟨h1,h2⟩⟩
 ·exact⟨h0,.inr ⟨g,cap,cur,h2,h3,hG.row h4 (fun hx=>by have:=hz g (by rw[h2];rfl);omega),h5⟩⟩
theorem PT.markT{ta:Option Addr}{n c:Nat}(K:Int)(h:PT W b q rs S ls L (za ta n c) X)(hn:X.length=n)(hz:∀z,(za ta n c).ownBlock=some z->z<q)(h0:0<=K)(h1:K<=1000000000000)(hm:n<=10000000):
 Calls Tryz.prog 22 #[za ta n c,zc zb K] W fun e w'=>e=.returned (zc zb (K+(n:Int)))/\zb2 (fun x=>(za ta n c).ownBlock=some x) W w'/\PT w' b q rs S ls L (za ta n c) (zq5 K n):=by
 have hl:=h.t.l;rw[hn]at hl;rcases own_kinds hl with⟨e,hz⟩|⟨g,c,e,hg0,_⟩
 ·subst hz
  refine(zs9 ta c K _).mono ?_;rintro e w' ⟨rfl,rfl⟩;have:X=[]:=qz.1 hn;subst this;exact⟨by simp,zb2.of_below (yV _ _),h⟩
 ·simp only[xW,qg]at e
  obtain⟨rfl,rfl⟩:=e;obtain⟨cur,k1,k2,k3,k4,k5⟩:=zn3 hl;refine(zi5 g n c K cur _ _ k1 (by omega) h0 h1 hm).mono ?_;rintro e w' ⟨rfl,hg,hr⟩;have hgq:=hz g rfl;exact⟨rfl,zb2.of_grown hg rfl,h.le,h.p.but (C:=fun x=>x=g) (zb2.of_grown hg rfl) (fun x hx=>by omega),h.t.markL hn (by simp[Apt]) k1 hg hr⟩
theorem PT.heldT{ta:Option Addr}{n c:Nat}{K:Int}(h:PT W b q rs S ls L (za ta n c) (zq5 K n))(h0:0<=K)(h1:K<=1000000000000)(hm:n<=10000000):
 Calls Tryz.prog 24 #[za ta n c,zc zb K] W fun e w'=>e=.returned (zc zb (K+(n:Int)))/\w'=W:=by
 have hl:=h.t.l;rw[zs1]at hl;rcases own_kinds hl with⟨e,hz⟩|⟨g,c,e,_,_⟩
 ·subst hz
  refine(zs8 ta c K _).mono ?_;rintro e w' ⟨rfl,rfl⟩;exact⟨by simp,rfl⟩
 ·simp only[xW,qg]at e
  obtain⟨rfl,rfl⟩:=e;exact zs4 g n c K _ (fun j hj=>(zd5 hl (by rw[ye,zF2 hj];rfl)).1) h0 h1 hm
end
