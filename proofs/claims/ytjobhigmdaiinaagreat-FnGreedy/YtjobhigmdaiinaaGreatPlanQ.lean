import Derived.Test.YtjobhigmdaiinaaGreatPack14
import Derived.Test.YtjobhigmdaiinaaGreatPack19
namespace Go.Proofs.YtjobhigmdaiinaaGreat
open Go.RowKit
structure LQ(W:World)(k:Nat)(ra:Option Addr)(nr rc:Nat)(la:Option Addr)(m lc:Nat)(R:List RT)(L:List Int):Prop where
 b:W.heap[k]? =some (.cells #[.slice ra nr rc,.slice la m lc] 33 (0,0))
 r:za6 W ra R
 l:za0 W la L
theorem LQ.below{W W':World}{k:Nat}{ra:Option Addr}{nr rc:Nat}{la:Option Addr}{m lc:Nat}{R:List RT}{L:List Int}(h:LQ W k ra nr rc la m lc R L)(hb:Below W.heap.size W W'):LQ W' k ra nr rc la m lc R L:=⟨za1 hb (za3 h.b) h.b,h.r.below hb,h.l.below hb⟩
theorem LQ.new{W:World}{b:Nat}{ra:Option Addr}{nr rc:Nat}{la:Option Addr}{m lc:Nat}{R:List RT}{L:List Int}(h:PO W b (.slice ra nr rc) R (.slice la m lc) L)(hr:R.length=nr)(hl:L.length=m):LQ (W.alloc (.cells #[.slice ra nr rc,.slice la m lc] 33)) W.heap.size ra nr rc la m lc R L:=by
 have hA:Below W.heap.size W (W.alloc (.cells #[.slice ra nr rc,.slice la m lc] 33)):=(Below.refl _ _).alloc (Nat.le_refl _) _;exact⟨heap_alloc_new _ _,(ys4 h hr).below hA,(yv3 h hl).below hA⟩
theorem yj6{L:List Int}(h:∀x∈L,-9223372036854775808<=x/\x<9223372036854775808):∀x∈L,(Lit.int .i64 x).wf=true:=fun x hx=>by
 have:=h x hx;show(decide (IntKind.i64.min<=x)&&decide (x<=IntKind.i64.max))=true;have h1:IntKind.i64.min= -9223372036854775808:=by decide
 have h2:IntKind.i64.max=9223372036854775807:=by decide
 rw[h1,h2];simp;omega
theorem z20{W:World}{b:Nat}{ra:Option Addr}{nr rc:Nat}{la:Option Addr}{m lc:Nat}{R:List RT}{L:List Int}(h:PO W b (.slice ra nr rc) R (.slice la m lc) L)(hr:R.length=nr)(hl:L.length=m):((ra=none/\nr=0)∨∃b off,ra=some ⟨b,off,none⟩)/\((la=none/\m=0)∨∃b off,la=some ⟨b,off,none⟩):=by
 have h1:=own_kinds h.r;have h2:=own_kinds h.l;rw[hr]at h1;rw[hl]at h2;refine⟨?_,?_⟩
 ·rcases h1 with⟨h1,h2⟩|⟨b,c2,h1,_⟩
  ·exact .inl ⟨by injection h1,h2⟩
  ·exact .inr ⟨b,0,by injection h1⟩
 ·rcases h2 with⟨h1,h2⟩|⟨b,c2,h1,_⟩
  ·exact .inl ⟨by injection h1,h2⟩
  ·exact .inr ⟨b,0,by injection h1⟩
end Go.Proofs.YtjobhigmdaiinaaGreat
