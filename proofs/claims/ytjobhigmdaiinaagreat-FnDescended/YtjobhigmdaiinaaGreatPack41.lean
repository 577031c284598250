import Derived.Test.YtjobhigmdaiinaaGreatPack3
import Derived.Test.YtjobhigmdaiinaaGreatPack4
import Derived.Test.YtjobhigmdaiinaaGreatPack7
import Derived.Test.YtjobhigmdaiinaaGreatPack26
import Derived.Test.YtjobhigmdaiinaaGreatPack29
import Derived.Test.YtjobhigmdaiinaaGreatLeaving0
import Derived.Deep.RegionHeld
namespace Go.Proofs.YtjobhigmdaiinaaGreat
open Go.RowKit
theorem yh3{W:World}{k:Nat}{T:TypeId}{a1 a2:Option Addr}{n1 c1 n2 c2:Nat}(hr:W.heap[k]? =some (.cells #[.slice a1 n1 c1,.slice a2 n2 c2] T (0,0))){o:Nat}{x:Int}(h:W.cell? ⟨k,o,none⟩=some (.int .i64 x)):False:=by
 obtain⟨p0,p1⟩:=za2 hr;rcases o with _|_|o
 ·rw[p0]at h;cases h
 ·rw[p1]at h;cases h
 ·simp[World.cell?,hr]at h
theorem zo7{W:World}{k:Nat}{T:TypeId}{a1 a2 a:Option Addr}{n1 c1 n2 c2:Nat}{zs:List Int}(h:za0 W a zs)(hr:W.heap[k]? =some (.cells #[.slice a1 n1 c1,.slice a2 n2 c2] T (0,0)))(i:Nat)(x:Value):za0 (W.setCell ⟨k,i,none⟩ x) a zs:=fun j hj=>by
 obtain⟨b,off,e,hc⟩:=h j hj;exact⟨b,off,e,(World.cell?_setCell_far W ⟨k,i,none⟩ ⟨b,off+j,none⟩ x (fun e9=>by subst e9;exact yh3 hr hc)).trans hc⟩
theorem zh5{W:World}{k:Nat}{T:TypeId}{a1 a2 ra:Option Addr}{n1 c1 n2 c2:Nat}{R:List RT}(h:za6 W ra R)(hr:W.heap[k]? =some (.cells #[.slice a1 n1 c1,.slice a2 n2 c2] T (0,0)))(i:Nat)(x:Value):za6 (W.setCell ⟨k,i,none⟩ x) ra R:=fun j hj=>by
 obtain⟨b,off,e,h1,h2,h3⟩:=h j hj;have hne:k≠b:=fun e9=>by subst e9;exact yh3 hr h1
 exact⟨b,off,e,(World.cell?_setCell_far W ⟨k,i,none⟩ ⟨b,off+j*2,none⟩ x hne).trans h1,(World.cell?_setCell_far W ⟨k,i,none⟩ ⟨b,off+j*2+1,none⟩ x hne).trans h2,zo7 h3 hr i x⟩
theorem zW3{p:Nat->Prop}[DecidablePred p]:∀n,(∃k,k<n/\p k)->∃k,k<n/\p k/\∀j,j<k->¬p j
 |0,h=>by obtain⟨k,hk,_⟩:=h;omega
 |n+1,h=>by
  by_cases h2:∃k,k<n/\p k
  ·obtain⟨k,h3,h4,h5⟩:=zW3 n h2
   exact⟨k,by omega,h4,h5⟩
  ·obtain⟨k,h3,h4⟩:=h
   by_cases hk:k<n
   ·exact absurd ⟨k,hk,h4⟩ h2
   ·have:k=n:=by omega
    subst this;exact⟨k,h3,h4,fun j hj h6=>h2 ⟨j,hj,h6⟩⟩
theorem zT8{R:List RT}{x:Int}(hx:x∈za7 R R.length):∃k,k<R.length/\x∈(R.getD k rt0).ids/\∀j,j<k->x∉(R.getD j rt0).ids:=by
 rw[zd2]at hx;obtain⟨r,hr,hxr⟩:=List.mem_flatMap.1 hx;obtain⟨k,hk,e⟩:=zv0 hr;exact zW3 (p:=fun k=>x∈(R.getD k rt0).ids) R.length ⟨k,hk,by show x∈(R.getD k rt0).ids;rw[e];exact hxr⟩
def NP(w:World)(T:List RT)(L:List Int)(e:Ending)(w':World):Prop:=∃(ra:Option Addr) (n rc gl lc:Nat) (S:List RT),e=.returned (.agg #[.slice ra n rc,.slice (some ⟨gl,0,none⟩) L.length lc])/\Below w.heap.size w w'/\S.length=n/\S.map RT.key=T.map RT.key/\PO w' w.heap.size (.slice ra n rc) S (.slice (some ⟨gl,0,none⟩) L.length lc) L
theorem yb4{S P:List Int}{l0 i:Nat}(ra:Option Addr)(n rc bl ol l lc g cg cl k:Nat)(R:List RT)(L:List Int)(x:Int)(w:World)(hI:LvI S P l0 i R L)(hl:L.length<=100)(hL:L.length=l)(hn:R.length=n)(hR:za6 w ra R)(hLA:za0 w (some ⟨bl,ol,none⟩) L)(hk:k<R.length)(hm:x∈(R.getD k rt0).ids)(hcl:(cutP (R.getD k rt0).ids x).length=cl)(hX:za0 w (some ⟨g,0,none⟩) (cutP (R.getD k rt0).ids x)):
 Calls Tryz.prog 69 #[.agg #[.slice ra n rc,(.slice (some ⟨bl,ol,none⟩) l lc)],.agg #[.int .i64 (R.getD k rt0).v,.slice (some ⟨g,0,none⟩) cl cg]] w (NP w (lvR R x) L):=by
 have hi:∀r∈R,r.ids≠[]/\r.ids.length<=500:=fun r hr=>⟨hI.ne r hr,by have:=hI.sm r hr;omega⟩
 have h4:R.length<=400:=by have:=hI.ln;omega
 subst hn hL hcl;by_cases hc:cutP (R.getD k rt0).ids x=[]
 ·have h:=yr3 ra (some ⟨g,0,none⟩) bl ol rc lc cg R L (R.getD k rt0).v w hR hLA h4 hi (by omega)
  rw[hc];refine h.mono ?_;rintro e w' ⟨ra2,rc2,g2,lc2,S2,rfl,hb,hk2,ho⟩;have h9:=yb7 hI.rs hk hI.ne hI.nd hm hc;exact⟨ra2,_,rc2,g2,lc2,S2,rfl,hb,rfl,by rw[hk2,<-h9];rfl,ho⟩
 ·have hlen:(cutP (R.getD k rt0).ids x).length<=500:=by
   have h1:(cutP (R.getD k rt0).ids x).length<=(R.getD k rt0).ids.length:=by unfold cutP;exact List.length_filter_le _ _
   have h2:=hI.sm _ (zj7 hk);omega
  have h:=zA0 ra bl ol rc lc g 0 cg R L (R.getD k rt0).v (cutP (R.getD k rt0).ids x) w hR hLA hX h4 hi (by omega) ⟨hc,hlen⟩;refine h.mono ?_;rintro e w' ⟨ra2,rc2,g2,lc2,S2,rfl,hb,hk2,ho⟩;exact⟨ra2,_,rc2,g2,lc2,S2,rfl,hb,rfl,hk2.trans (ya1 hI.rs hk hI.ne hI.nd hm hc _ _),ho⟩
end Go.Proofs.YtjobhigmdaiinaaGreat
