import Derived.Test.YtjobhigmdaiinaaGreatPack1
import Derived.Test.YtjobhigmdaiinaaGreatPack5
import Derived.Test.YtjobhigmdaiinaaGreatPack7
import Derived.Test.YtjobhigmdaiinaaGreatPack17
import Derived.Test.YtjobhigmdaiinaaGreatPack18
namespace Go.Proofs.YtjobhigmdaiinaaGreat
open Go.RowKit
theorem zp5{w:World}{base n rc:Nat}{ra:Option Addr}{S:List RT}(h:w.ownsRow base 43 2 (.slice ra n rc) n (zg9 S))(hi:∀s∈S,za0 w s.a s.ids):za6 w ra S:=fun j hj=>by
 have hl:=h.1;rw[ze7]at hl;rcases own_kinds h with⟨e,h0⟩|⟨g,c,e,_,_⟩
 ·omega
 ·simp only[Value.slice.injEq,true_and]at e
  obtain⟨rfl,rfl⟩:=e;obtain⟨r1,r2⟩:=z71 S j hj;refine⟨g,0,rfl,?_,?_,hi _ (zt3 hj)⟩
  ·rw[Nat.zero_add];exact(zf6 h r1).1
  ·rw[Nat.zero_add];exact(zf6 h r2).1
theorem zS1{w w':World}{B base size n:Nat}{e:TypeId}{v:Value}{xs:List Value}(h:w.ownsRow base e size v n xs)(hb:Below B w w')(hk:∀k,v.ownBlock=some k->k<B):w'.ownsRow base e size v n xs:=by
 obtain⟨h0,⟨h1,h2⟩|⟨g,cap,cur,h2,h3,h4,h5⟩⟩:=h
 ·exact⟨h0,.inl ⟨h1,h2⟩⟩
 ·refine⟨h0,.inr ⟨g,cap,cur,h2,h3,?_,h5⟩⟩
  rw[<-h4];exact hb.block g (hk g (by rw[h2];rfl))
theorem zd4{w:World}{base size n k i:Nat}{v u:Value}{xs:List Value}{cs:Array Value}(h:w.ownsRow base 2 size v n xs)(hr:w.heap[k]? =some (.cells cs 43 (0,0))):(w.setCell ⟨k,i,none⟩ u).ownsRow base 2 size v n xs:=ze4 h hr (by decide)
theorem zi0{w:World}{base n sc:Nat}{sa:Option Addr}{l:List Int}(h:w.ownsRow base 2 1 (.slice sa n sc) n (l.map (Value.int .i64))):za0 w sa l:=fun j hj=>by
 rcases own_kinds h with⟨e,h0⟩|⟨g,c,e,_,_⟩
 ·have:=h.1
  rw[List.length_map,h0]at this;omega
 ·simp only[Value.slice.injEq,true_and]at e
  obtain⟨rfl,rfl⟩:=e;refine⟨g,0,rfl,?_⟩;rw[Nat.zero_add];exact(zf6 h (by rw[List.getElem?_map,List.getD_eq_getElem?_getD,List.getElem?_eq_getElem hj];rfl)).1
theorem yh5{w:World}{base size n sc:Nat}{e:TypeId}{sa:Option Addr}{xs:List Value}(h:w.ownsRow base e size (.slice sa n sc) n xs):n<=sc:=by
 obtain⟨_,⟨h1,h2⟩|⟨g,cap,cur,h2,_,_,h5,_⟩⟩:=h
 ·omega
 ·simp only[Value.slice.injEq,true_and]at h2
  rw[h2.2];exact h5
theorem zC1{w:World}{base size n rc:Nat}{e:TypeId}{ra:Option Addr}{xs:List Value}(h:w.ownsRow base e size (.slice ra n rc) n xs):(ra=none/\n=0)∨∃b off,ra=some ⟨b,off,none⟩:=by
 rcases own_kinds h with⟨e,h0⟩|⟨g,c,e,_,_⟩
 ·simp only[Value.slice.injEq]at e
  exact .inl ⟨e.1,h0⟩
 ·simp only[Value.slice.injEq]at e
  exact .inr ⟨g,0,e.1⟩
theorem yv3{w:World}{base m lc:Nat}{la:Option Addr}{S:List RT}{rs:Value}{L:List Int}(h:PO w base rs S (.slice la m lc) L)(hm:L.length=m):za0 w la L:=by
 have hl:=h.l;rw[hm]at hl;exact zi0 hl
theorem ys4{w:World}{base n rc:Nat}{ra:Option Addr}{S:List RT}{ls:Value}{L:List Int}(h:PO w base (.slice ra n rc) S ls L)(hn:S.length=n):za6 w ra S:=by
 have hr:=h.r;rw[hn]at hr;exact zp5 hr (fun s hs=>(h.ints s hs).1)
end Go.Proofs.YtjobhigmdaiinaaGreat
