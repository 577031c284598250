import Derived.Test.YtjobhigmdaiinaaGreatPack1
import Derived.Test.YtjobhigmdaiinaaGreatPack5
import Derived.Test.YtjobhigmdaiinaaGreatPack7
import Derived.Test.YtjobhigmdaiinaaGreatPack24
import Derived.Test.YtjobhigmdaiinaaGreatPack25
namespace Go.Proofs.YtjobhigmdaiinaaGreat
open Go.RowKit
theorem z05{w:World}{base n rc:Nat}{ra:Option Addr}{S:List RT}(h:w.ownsRow base 43 2 (.slice ra n rc) n (zi6 S))(hi:∀s∈S,za0 w s.a s.ids):za6 w ra S:=fun j hj=>by
 have hl:=h.1;rw[zf2]at hl;rcases own_kinds h with⟨e,h0⟩|⟨g,c,e,_,_⟩
 ·omega
 ·simp only[Value.slice.injEq,true_and]at e
  obtain⟨rfl,rfl⟩:=e;obtain⟨r1,r2⟩:=zA3 S j hj;refine⟨g,0,rfl,?_,?_,hi _ (zj7 hj)⟩
  ·rw[Nat.zero_add];exact(zf6 h r1).1
  ·rw[Nat.zero_add];exact(zf6 h r2).1
theorem yb0{w:World}{base size n k i:Nat}{v u:Value}{xs:List Value}{cs:Array Value}(h:w.ownsRow base 2 size v n xs)(hr:w.heap[k]? =some (.cells cs 43 (0,0))):(w.setCell ⟨k,i,none⟩ u).ownsRow base 2 size v n xs:=zZ5 h hr (by decide)
theorem zT1{w:World}{base n sc:Nat}{sa:Option Addr}{l:List Int}(h:w.ownsRow base 2 1 (.slice sa n sc) n (l.map (Value.int .i64))):za0 w sa l:=fun j hj=>by
 rcases own_kinds h with⟨e,h0⟩|⟨g,c,e,_,_⟩
 ·have:=h.1
  rw[List.length_map,h0]at this;omega
 ·simp only[Value.slice.injEq,true_and]at e
  obtain⟨rfl,rfl⟩:=e;refine⟨g,0,rfl,?_⟩;rw[Nat.zero_add];exact(zf6 h (by rw[List.getElem?_map,List.getD_eq_getElem?_getD,List.getElem?_eq_getElem hj];rfl)).1
theorem yo2{w:World}{base size n sc:Nat}{e:TypeId}{sa:Option Addr}{xs:List Value}(h:w.ownsRow base e size (.slice sa n sc) n xs):n<=sc:=by
 obtain⟨_,⟨h1,h2⟩|⟨g,cap,cur,h2,_,_,h5,_⟩⟩:=h
 ·omega
 ·simp only[Value.slice.injEq,true_and]at h2
  rw[h2.2];exact h5
theorem ye5{w:World}{base size n rc:Nat}{e:TypeId}{ra:Option Addr}{xs:List Value}(h:w.ownsRow base e size (.slice ra n rc) n xs):(ra=none/\n=0)∨∃b off,ra=some ⟨b,off,none⟩:=by
 rcases own_kinds h with⟨e,h0⟩|⟨g,c,e,_,_⟩
 ·simp only[Value.slice.injEq]at e
  exact .inl ⟨e.1,h0⟩
 ·simp only[Value.slice.injEq]at e
  exact .inr ⟨g,0,e.1⟩
theorem y09{w:World}{base m lc:Nat}{la:Option Addr}{S:List RT}{rs:Value}{L:List Int}(h:PO w base rs S (.slice la m lc) L)(hm:L.length=m):za0 w la L:=by
 have hl:=h.l;rw[hm]at hl;exact zT1 hl
theorem zP7{w:World}{base n rc:Nat}{ra:Option Addr}{S:List RT}{ls:Value}{L:List Int}(h:PO w base (.slice ra n rc) S ls L)(hn:S.length=n):za6 w ra S:=by
 have hr:=h.r;rw[hn]at hr;exact z05 hr (fun s hs=>(h.ints s hs).1)
theorem zq6{w:World}{base n c:Nat}{a:Option Addr}{l:List Int}(h:w.ownsRow base 2 1 (.slice a n c) n (l.map (Value.int .i64))):za0 w a l:=fun j hj=>by
 rcases own_kinds h with⟨_,h2⟩|⟨g,c',h2,_⟩
 ·have:=h.1
  rw[List.length_map]at this;omega
 ·simp only[Value.slice.injEq,true_and]at h2
  obtain⟨rfl,rfl⟩:=h2;refine⟨g,0,rfl,?_⟩;rw[Nat.zero_add];refine(zf6 h ?_).1;rw[List.getElem?_map,List.getElem?_eq_getElem hj,List.getD_eq_getElem?_getD,List.getElem?_eq_getElem hj];rfl
end Go.Proofs.YtjobhigmdaiinaaGreat
