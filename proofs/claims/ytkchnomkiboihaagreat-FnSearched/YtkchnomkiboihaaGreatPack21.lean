import Derived.Test.YtkchnomkiboihaaGreatPack7
import Derived.Test.YtkchnomkiboihaaGreatPack20
set_option linter.unusedSimpArgs false
namespace Go.Proofs.YtkchnomkiboihaaGreat
open Value renaming slice→za,int→ze
open IntKind renaming i64→zd
open Go renaming World→zi
open Go.RowKit
open Q
theorem zl9{w:zi}{base n rc:Nat}{ra:Option Addr}{S:List RT}(h:w.ownsRow base 80 2 (za ra n rc) n (zj5 S))(hi:∀s∈S,za3 w s.a s.ids):za9 w ra S:=fun j hj=>by
 have hl:=h.1;rw[zg6]at hl;rcases own_kinds h with⟨e,h0⟩|⟨g,c,e,_,_⟩
 ·omega
 ·simp only[qA,true_and]at e
  obtain⟨rfl,rfl⟩:=e;obtain⟨r1,r2⟩:=zH9 S j hj;refine⟨g,0,rfl,?_,?_,hi _ (zh7 hj)⟩
  ·rw[yb];exact(zh0 h r1).1
  ·rw[yb];exact(zh0 h r2).1
theorem zv3{w w':zi}{B base size n:Nat}{e:TypeId}{v:Value}{xs:List Value}(h:w.ownsRow base e size v n xs)(hb:Below B w w')(hk:∀k,v.ownBlock=some k->k<B):w'.ownsRow base e size v n xs:=by
 obtain⟨h0,⟨h1,h2⟩|⟨g,ac,az,h2,h3,h4,h5⟩⟩:=h
 ·exact⟨h0,.inl ⟨h1,h2⟩⟩
 ·refine⟨h0,.inr ⟨g,ac,az,h2,h3,?_,h5⟩⟩
  rw[<-h4];exact hb.block g (hk g (by rw[h2];rfl))
theorem zd8{w:zi}{base size n k i:Nat}{v u:Value}{xs:List Value}{cs:Array Value}(h:w.ownsRow base 2 size v n xs)(hr:w.heap[k]? =some (.cells cs 80 (0,0))):(w.setCell ⟨k,i,none⟩ u).ownsRow base 2 size v n xs:=zf8 h hr (by decide)
theorem zk7{w:zi}{base n sc:Nat}{sa:Option Addr}{l:List Int}(h:w.ownsRow base 2 1 (za sa n sc) n (l.map (ze zd))):za3 w sa l:=fun j hj=>by
 rcases own_kinds h with⟨e,h0⟩|⟨g,c,e,_,_⟩
 ·have:=h.1
  rw[qz,h0]at this;omega
 ·simp only[qA,true_and]at e
  obtain⟨rfl,rfl⟩:=e;refine⟨g,0,rfl,?_⟩;rw[yb];exact(zh0 h (by rw[yr,zQ,zR hj];rfl)).1
theorem ym1{w:zi}{base size n sc:Nat}{e:TypeId}{sa:Option Addr}{xs:List Value}(h:w.ownsRow base e size (za sa n sc) n xs):n<=sc:=by
 obtain⟨_,⟨h1,h2⟩|⟨g,ac,az,h2,_,_,h5,_⟩⟩:=h
 ·omega
 ·simp only[qA,true_and]at h2
  rw[h2.2];exact h5
theorem z70{w:zi}{base size n rc:Nat}{e:TypeId}{ra:Option Addr}{xs:List Value}(h:w.ownsRow base e size (za ra n rc) n xs):(ra=none/\n=0)∨∃b off,ra=some ⟨b,off,none⟩:=by
 rcases own_kinds h with⟨e,h0⟩|⟨g,c,e,_,_⟩
 ·simp only[qA]at e
  exact .inl ⟨e.1,h0⟩
 ·simp only[qA]at e
  exact .inr ⟨g,0,e.1⟩
theorem z91{w:zi}{base size n m rc:Nat}{e:TypeId}{ra:Option Addr}{xs:List Value}(h:w.ownsRow base e size (za ra m rc) n xs):∀b off,ra=some ⟨b,off,none⟩->base<=b:=fun b off hb=>by
 subst hb;rcases own_kinds h with⟨h1,_⟩|⟨g,c,h1,h2,_⟩
 ·injection h1 with h1
  cases h1
 ·injection h1 with h1 _ _
  injection h1 with h1
  injection h1 with h1 _ _
  omega
theorem yB7{w:zi}{base m lc:Nat}{la:Option Addr}{S:List RT}{rs:Value}{L:List Int}(h:PO w base rs S (za la m lc) L)(hm:L.length=m):za3 w la L:=by
 have hl:=h.l;rw[hm]at hl;exact zk7 hl
theorem zI6{w:zi}{base n rc:Nat}{ra:Option Addr}{S:List RT}{ls:Value}{L:List Int}(h:PO w base (za ra n rc) S ls L)(hn:S.length=n):za9 w ra S:=by
 have hr:=h.r;rw[hn]at hr;exact zl9 hr (fun s hs=>(h.ints s hs).1)
theorem ze8{w:zi}{base n c:Nat}{a:Option Addr}{l:List Int}(h:w.ownsRow base 2 1 (za a n c) n (l.map (ze zd))):za3 w a l:=fun j hj=>by
 rcases own_kinds h with⟨_,h2⟩|⟨g,c',h2,_⟩
 ·have:=h.1
  rw[qz]at this;omega
 ·simp only[qA,true_and]at h2
  obtain⟨rfl,rfl⟩:=h2;refine⟨g,0,rfl,?_⟩;rw[yb];refine(zh0 h ?_).1;rw[yr,zR hj,zQ,zR hj];rfl
