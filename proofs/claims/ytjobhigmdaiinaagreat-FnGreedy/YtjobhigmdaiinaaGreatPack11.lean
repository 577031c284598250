import Derived.Test.YtjobhigmdaiinaaGreatPack4
import Derived.Test.YtjobhigmdaiinaaGreatSpecClosed
namespace Go.Proofs.YtjobhigmdaiinaaGreat
open Go.RowKit
theorem zi5{w:World}{base k:Nat}{v:Value}{e:TypeId}{size:Nat}{xs:List Value}(h:w.ownsRow base e size v k xs):∃ao co,v=.slice ao k co:=by
 obtain⟨_,⟨h1,h2⟩|⟨g,cap,cur,h2,_⟩⟩:=h
 ·exact⟨none,0,by rw[h1,h2]⟩
 ·exact⟨_,cap,h2⟩
theorem zD4{w:World}{k:Nat}{c0 c1 c2 c3 c4 c5:Value}{T:TypeId}(r:w.heap[k]? =some (.cells #[c0,c1,c2,c3,c4,c5] T (0,0))):
 w.cell? ⟨k,0,none⟩=some c0/\w.cell? ⟨k,1,none⟩=some c1/\w.cell? ⟨k,2,none⟩=some c2/\w.cell? ⟨k,3,none⟩=some c3/\w.cell? ⟨k,4,none⟩=some c4/\w.cell? ⟨k,5,none⟩=some c5:=by
 refine⟨?_,?_,?_,?_,?_,?_⟩
 ·have:=cell_of_row _ _ 0 _ _ _ r;simpa using this
 ·have:=cell_of_row _ _ 1 _ _ _ r;simpa using this
 ·have:=cell_of_row _ _ 2 _ _ _ r;simpa using this
 ·have:=cell_of_row _ _ 3 _ _ _ r;simpa using this
 ·have:=cell_of_row _ _ 4 _ _ _ r;simpa using this
 ·have:=cell_of_row _ _ 5 _ _ _ r;simpa using this
theorem yv0{X:World}{k o kb:Nat}{v v0 v1 v2 v3 v4 v5:Value}(h:X.cell? ⟨k,o,none⟩=some v)(hne:k≠kb):((((((X.setCell ⟨kb,0,none⟩ v0).setCell ⟨kb,1,none⟩ v1).setCell ⟨kb,2,none⟩ v2).setCell ⟨kb,3,none⟩ v3).setCell ⟨kb,4,none⟩ v4).setCell ⟨kb,5,none⟩ v5).cell? ⟨k,o,none⟩=some v:=
 zg8 (zg8 (zg8 (zg8 (zg8 (zg8 h hne) hne) hne) hne) hne) hne
theorem zK9{X:World}{k o kb:Nat}{v v0 v1 v2 v3 v4:Value}(h:X.cell? ⟨k,o,none⟩=some v)(hne:k≠kb):(((((X.setCell ⟨kb,0,none⟩ v0).setCell ⟨kb,1,none⟩ v1).setCell ⟨kb,2,none⟩ v2).setCell ⟨kb,3,none⟩ v3).setCell ⟨kb,4,none⟩ v4).cell? ⟨k,o,none⟩=some v:=
 zg8 (zg8 (zg8 (zg8 (zg8 h hne) hne) hne) hne) hne
theorem zb6{w:World}{k:Nat}{c0 c1 c2 c3 c4:Value}{T:TypeId}(r:w.heap[k]? =some (.cells #[c0,c1,c2,c3,c4] T (0,0))):
 w.cell? ⟨k,0,none⟩=some c0/\w.cell? ⟨k,1,none⟩=some c1/\w.cell? ⟨k,2,none⟩=some c2/\w.cell? ⟨k,3,none⟩=some c3/\w.cell? ⟨k,4,none⟩=some c4:=by
 refine⟨?_,?_,?_,?_,?_⟩
 ·have:=cell_of_row _ _ 0 _ _ _ r;simpa using this
 ·have:=cell_of_row _ _ 1 _ _ _ r;simpa using this
 ·have:=cell_of_row _ _ 2 _ _ _ r;simpa using this
 ·have:=cell_of_row _ _ 3 _ _ _ r;simpa using this
 ·have:=cell_of_row _ _ 4 _ _ _ r;simpa using this
theorem zg7{W:World}{g:Nat}{x0 x1 x2:Int}{T:TypeId}{y:Nat}(h:W.heap[g]? =some (.cells #[Value.int .i64 x0,Value.int .i64 x1,Value.int .i64 x2] T (0,0)))(hy:y<3):W.cell? ⟨g,y,none⟩=some (.int .i64 ([x0,x1,x2].getD y 0)):=by
 rw[cell_of_row _ _ y _ _ _ h];rcases(show y=0∨y=1∨y=2 from by omega)with rfl|rfl|rfl<;>rfl
def zb9(w W:World)(k g:Nat)(oo ov:Value)(kb:Nat)(cs:Array Value)(T:TypeId):Prop:=W.heap[kb]? =some (.cells cs T (0,0))/\w.heap.size+1<=kb/\kb≠k/\kb≠g/\oo.ownBlock≠some kb/\ov.ownBlock≠some kb
section
variable {w W W' w4:World} {q:Nat} {a:Option Addr} {bs:List Int} {c k:Nat} {n:Int} {g zl cg:Nat} {zs:List Int} {oo oo':Value} {ko:Nat} {O:List Int} {ov ov':Value} {kv:Nat} {V:List Int} {fi:Int} {kb:Nat} {cs:Array Value} {T:TypeId}
theorem zb9.new(h:CD w W q a bs c k n g zl cg zs oo ko O ov kv V fi)(cs:Array Value)(T:TypeId):zb9 w (W.alloc (.cells cs T)) k g oo ov W.heap.size cs T:=by
 have h1:=za3 h.b1;have h2:=h.glt;exact⟨heap_alloc_new _ _,h.size,by omega,by omega,fun e=>by have:=(h.o.lt _ e).2;omega,fun e=>by have:=(h.v.lt _ e).2;omega⟩
theorem zb9.new1(h:CD w W q a bs c k n g zl cg zs oo ko O ov kv V fi)(o:Obj)(cs:Array Value)(T:TypeId):zb9 w ((W.alloc o).alloc (.cells cs T)) k g oo ov (W.heap.size+1) cs T:=by
 have h1:=zb9.new (h.below ((Below.refl _ _).alloc (Nat.le_refl _) o)) cs T;rw[World.size_alloc]at h1;exact h1
theorem zb9.below(h:zb9 w W k g oo ov kb cs T)(hb:Below W.heap.size W W'):zb9 w W' k g oo ov kb cs T:=⟨za1 hb (za3 h.1) h.1,h.2⟩
theorem zb9.read(h:zb9 w W k g oo ov kb cs T)(hq:q<w.heap.size)(hg:W.grownBy W' (some q)):zb9 w W' k g oo ov kb cs T:=⟨za5 hg h.1 (fun e=>by injection e with e;have:=h.2.1;omega),h.2⟩
theorem zb9.set(h:zb9 w W k g oo ov kb cs T)(i:Nat)(v:Value):zb9 w (W.setCell ⟨kb,i,none⟩ v) k g oo ov kb (cs.setIfInBounds i v) T:=⟨zc6 v h.1,h.2⟩
theorem CD.box'(h:CD w W q a bs c k n g zl cg zs oo ko O ov kv V fi)(hb:zb9 w W k g oo ov kb cs T)(i:Nat)(v:Value):CD w (W.setCell ⟨kb,i,none⟩ v) q a bs c k n g zl cg zs oo ko O ov kv V fi:=
 h.aside (za9 W kb i v) (fun b e=>by injection e with e;subst e;exact hb.2)
theorem CD.boxes6{c0 c1 c2 c3 c4 c5:Value}(h:CD w W q a bs c k n g zl cg zs oo ko O ov kv V fi)(hb:zb9 w W k g oo ov kb #[c0,c1,c2,c3,c4,c5] T)(v0 v1 v2 v3 v4 v5:Value):
 CD w ((((((W.setCell ⟨kb,0,none⟩ v0).setCell ⟨kb,1,none⟩ v1).setCell ⟨kb,2,none⟩ v2).setCell ⟨kb,3,none⟩ v3).setCell ⟨kb,4,none⟩ v4).setCell ⟨kb,5,none⟩ v5) q a bs c k n g zl cg zs oo ko O ov kv V fi∧
 zb9 w ((((((W.setCell ⟨kb,0,none⟩ v0).setCell ⟨kb,1,none⟩ v1).setCell ⟨kb,2,none⟩ v2).setCell ⟨kb,3,none⟩ v3).setCell ⟨kb,4,none⟩ v4).setCell ⟨kb,5,none⟩ v5) k g oo ov kb #[v0,v1,v2,v3,v4,v5] T:=by
 have s0:=hb.set 0 v0;have s1:=s0.set 1 v1;have s2:=s1.set 2 v2;have s3:=s2.set 3 v3;have s4:=s3.set 4 v4;have s5:=s4.set 5 v5;exact⟨(((((((h.box' hb 0 v0).box' s0 1 v1).box' s1 2 v2).box' s2 3 v3).box' s3 4 v4).box' s4 5 v5)),by simpa using s5⟩
theorem CD.boxes5{c0 c1 c2 c3 c4:Value}(h:CD w W q a bs c k n g zl cg zs oo ko O ov kv V fi)(hb:zb9 w W k g oo ov kb #[c0,c1,c2,c3,c4] T)(v0 v1 v2 v3 v4:Value):
 CD w (((((W.setCell ⟨kb,0,none⟩ v0).setCell ⟨kb,1,none⟩ v1).setCell ⟨kb,2,none⟩ v2).setCell ⟨kb,3,none⟩ v3).setCell ⟨kb,4,none⟩ v4) q a bs c k n g zl cg zs oo ko O ov kv V fi∧
 zb9 w (((((W.setCell ⟨kb,0,none⟩ v0).setCell ⟨kb,1,none⟩ v1).setCell ⟨kb,2,none⟩ v2).setCell ⟨kb,3,none⟩ v3).setCell ⟨kb,4,none⟩ v4) k g oo ov kb #[v0,v1,v2,v3,v4] T:=by
 have s0:=hb.set 0 v0;have s1:=s0.set 1 v1;have s2:=s1.set 2 v2;have s3:=s2.set 3 v3;have s4:=s3.set 4 v4;exact⟨((((((h.box' hb 0 v0).box' s0 1 v1).box' s1 2 v2).box' s2 3 v3).box' s3 4 v4)),by simpa using s4⟩
end
structure ML(w W:World)(q:Nat)(a:Option Addr)(bs:List Int)(c n:Nat)(ov:Value)(O:List Int):Prop where
 g:w.grownBy W (some q)
 r0:∃p,RD w q a bs c p
 r:∃p,RD W q a bs c p
 b0:W.heap[w.heap.size]? =some (.cells #[.int .i64 0,.slice none 0 0] 26 (0,0))
 b1:W.heap[w.heap.size+1]? =some (.cells #[.int .i64 n,ov] 26 (0,0))
 o:W.ownsRow (w.heap.size+2) 2 1 ov O.length (O.map (Value.int .i64))
theorem ML.lt{w W:World}{q:Nat}{a:Option Addr}{bs:List Int}{c n:Nat}{ov:Value}{O:List Int}(h:ML w W q a bs c n ov O):q<w.heap.size:=by
 obtain⟨p,hr⟩:=h.r0;exact za3 hr.1
theorem ML.size{w W:World}{q:Nat}{a:Option Addr}{bs:List Int}{c n:Nat}{ov:Value}{O:List Int}(h:ML w W q a bs c n ov O):w.heap.size+2<=W.heap.size:=za3 h.b1
theorem ML.new{w:World}{q:Nat}{a:Option Addr}{bs:List Int}{c n p:Nat}(h:RD w q a bs c p):ML w ((w.alloc (.cells #[.int .i64 0,.slice none 0 0] 26)).alloc (.cells #[.int .i64 n,.slice none 0 0] 26)) q a bs c n (.slice none 0 0) []:=by
 have hg:w.grownBy ((w.alloc (.cells #[.int .i64 0,.slice none 0 0] 26)).alloc (.cells #[.int .i64 n,.slice none 0 0] 26)) (some q):=zc5 (zm6 w _ q) (zI9 _ _) (fun g e=>by cases e);have hb:Below w.heap.size w ((w.alloc (.cells #[.int .i64 0,.slice none 0 0] 26)).alloc (.cells #[.int .i64 n,.slice none 0 0] 26)):=((Below.refl _ _).alloc (Nat.le_refl _) _).alloc (by simp) _;exact⟨hg,⟨p,h⟩,⟨p,h.below hb⟩,heap_alloc2_old _ _ _,heap_alloc2_new _ _ _,World.ownsRow_nil _ _ _ _⟩
theorem ML.read{w W W':World}{q:Nat}{a:Option Addr}{bs:List Int}{c n p:Nat}{ov:Value}{O:List Int}(h:ML w W q a bs c n ov O)(hr:RD W' q a bs c p)(hg:W.grownBy W' (some q)):ML w W' q a bs c n ov O:=by
 have hl:=h.lt;exact⟨zb0 h.g hg,h.r0,⟨p,hr⟩,za5 hg h.b0 (fun e=>by injection e with e;omega),za5 hg h.b1 (fun e=>by injection e with e;omega),h.o.kept hg (.inr fun e=>by have:=(h.o.lt q e).1;omega)⟩
theorem ML.below{w W W':World}{q:Nat}{a:Option Addr}{bs:List Int}{c n:Nat}{ov:Value}{O:List Int}(h:ML w W q a bs c n ov O)(hb:Below W.heap.size W W'):ML w W' q a bs c n ov O:=by
 obtain⟨p,hr⟩:=h.r;exact⟨⟨hb.os.trans h.g.os,hb.tape.trans h.g.tape,hb.output.trans h.g.output,Nat.le_trans h.g.size hb.size,fun k hk hne=>(hb.block k (Nat.lt_of_lt_of_le hk h.g.size)).trans (h.g.block k hk hne)⟩,h.r0,⟨p,hr.below hb⟩,za1 hb (za3 h.b0) h.b0,za1 hb (za3 h.b1) h.b1,zc2 h.o hb⟩
theorem ML.put{w W w4:World}{q:Nat}{a:Option Addr}{bs:List Int}{c n:Nat}{ov ov':Value}{O O':List Int}{o:Obj}(h:ML w W q a bs c n ov O)(hown:w4.ownsRow (w.heap.size+2) 2 1 ov' O'.length (O'.map (Value.int .i64)))(hg:(W.alloc o).grownBy w4 ov.ownBlock):ML w (w4.setCell ⟨w.heap.size+1,1,none⟩ ov') q a bs c n ov' O':=by
 have hlt:∀g,ov.ownBlock=some g->w.heap.size+2<=g:=fun g e=>(h.o.lt g e).1;obtain⟨p,hr⟩:=h.r;obtain⟨p0,hr0⟩:=h.r0;have hq:=h.lt;have ha:ML w (W.alloc o) q a bs c n ov O:=h.below ((Below.refl _ _).alloc (Nat.le_refl _) _);have hb0:=za5 hg ha.b0 (fun e=>by have:=hlt _ e.symm;omega);have hb1:=za5 hg ha.b1 (fun e=>by have:=hlt _ e.symm;omega);have hs:=za9 w4 (w.heap.size+1) 1 ov';have hsl:∀k,some (w.heap.size+1)=some k->w.heap.size<=k:=fun k e=>by injection e with e;omega
 have hr4:RD w4 q a bs c p:=RD.kept2 hr0 (hr.below ((Below.refl _ _).alloc (Nat.le_refl _) _)) hg (fun g e=>by have:=hlt g e;omega);refine⟨zc5 (zc5 ha.g hg (fun g e=>by have:=hlt g e;omega)) hs hsl,h.r0,⟨p,RD.kept2 hr0 hr4 hs hsl⟩,?_,?_,?_⟩
 ·rw[heap_setCell_other _ _ _ _ (by simp)];exact hb0
 ·have:=heap_setCell_same w4 (w.heap.size+1) 1 _ _ ov' hb1
  simpa using this
 ·exact ze5 hown (by omega)
def zl9(W:World)(g:Nat)(O:List Int):Prop:=∃cur,W.heap[g]? =some (.cells cur 2 (0,0))/\∀j,j<O.length->cur[j]? =some (.int .i64 (O.getD j 0))
theorem zl9.ints{W:World}{g:Nat}{O:List Int}(h:zl9 W g O):za0 W (some ⟨g,0,none⟩) O:=by
 obtain⟨cur,h1,h2⟩:=h;intro j hj;refine⟨g,0,rfl,?_⟩;rw[Nat.zero_add,cell_of_row _ _ j _ _ _ h1];exact h2 j hj
theorem zl9.frozen{W:World}{g:Nat}{O:List Int}(h:zl9 W g O)(j:Nat):W.frozen? ⟨g,j,none⟩=false:=by
 obtain⟨cur,h1,_⟩:=h;exact frozen_of_row _ _ j _ _ h1
theorem zl9.set{W:World}{g:Nat}{O:List Int}(h:zl9 W g O)(j:Nat)(v:Int):zl9 (W.setCell ⟨g,j,none⟩ (.int .i64 v)) g (O.set j v):=by
 obtain⟨cur,h1,h2⟩:=h;refine⟨_,heap_setCell_same _ _ _ _ _ _ h1,fun k hk=> ?_⟩;rw[List.length_set]at hk;have hkc:k<cur.size:=by
  have:=h2 k hk;exact(Array.getElem?_eq_some_iff.1 this).1
 rw[Array.getElem?_setIfInBounds];by_cases e:j=k
 ·subst e
  rw[if_pos rfl,if_pos hkc];simp[List.getD,hk]
 ·rw[if_neg e,h2 k hk]
  simp[List.getD,e]
theorem zl9.other{W W':World}{g:Nat}{O:List Int}{row:Option Nat}(h:zl9 W g O)(hg:W.grownBy W' row)(hne:some g≠row):zl9 W' g O:=by
 obtain⟨cur,h1,h2⟩:=h;exact⟨cur,za5 hg h1 hne,h2⟩
theorem zl9.below{W W':World}{g:Nat}{O:List Int}(h:zl9 W g O)(hb:Below W.heap.size W W'):zl9 W' g O:=by
 obtain⟨cur,h1,h2⟩:=h;exact⟨cur,za1 hb (za3 h1) h1,h2⟩
theorem zl9.of_own{W:World}{B g n c:Nat}{O:List Int}(h:W.ownsRow B 2 1 (.slice (some ⟨g,0,none⟩) n c) O.length (O.map (Value.int .i64))):zl9 W g O:=by
 have hn:O.length=n:=by
  rcases zk3 h with e|⟨g',c',e⟩
  ·cases e
  ·injection e with _ e2;exact e2.symm
 have h':=h;obtain⟨_,⟨h1,_⟩|⟨g',cap,cur,h2,h3,h4,h5⟩⟩:=h
 ·cases h1
 ·simp at h2
  obtain⟨rfl,_,rfl⟩:=h2;refine⟨cur,h4,fun j hj=> ?_⟩;rw[hn]at h';obtain⟨_,_,e,hc⟩:=zd2 h' j hj;simp at e;obtain⟨rfl,rfl⟩:=e;rw[Nat.zero_add,cell_of_row _ _ j _ _ _ h4]at hc;exact hc
theorem zl9.of_cells{W:World}{g:Nat}{O r:List Int}(h:W.heap[g]? =some (.cells (cellsOf (O++r)) 2 (0,0))):zl9 W g O:=by
 refine⟨_,h,fun j hj=> ?_⟩;rw[zo9 _ _ (by rw[List.length_append];omega)];simp[List.getD,List.getElem?_append_left hj]
structure QL(w W:World)(q:Nat)(a:Option Addr)(bs:List Int)(c n g m cg:Nat)(O:List Int):Prop where
 gr:w.grownBy W (some q)
 r0:∃p,RD w q a bs c p
 r:∃p,RD W q a bs c p
 b0:W.heap[w.heap.size]? =some (.cells #[.int .i64 0,.slice none 0 0] 26 (0,0))
 b1:W.heap[w.heap.size+1]? =some (.cells #[.int .i64 n,.slice (some ⟨g,0,none⟩) m cg] 26 (0,0))
 hg:w.heap.size+2<=g/\O.length=m/\m<=cg
 o:zl9 W g O
theorem QL.read{w W W':World}{q:Nat}{a:Option Addr}{bs:List Int}{c n g m cg p:Nat}{O:List Int}(h:QL w W q a bs c n g m cg O)(hr:RD W' q a bs c p)(hg:W.grownBy W' (some q)):QL w W' q a bs c n g m cg O:=by
 have hl:q<w.heap.size:=by obtain⟨p0,h0⟩:=h.r0;exact za3 h0.1
 have:=h.hg.1;exact⟨zb0 h.gr hg,h.r0,⟨p,hr⟩,za5 hg h.b0 (fun e=>by injection e with e;omega),za5 hg h.b1 (fun e=>by injection e with e;omega),h.hg,h.o.other hg (fun e=>by injection e with e;omega)⟩
theorem QL.below{w W W':World}{q:Nat}{a:Option Addr}{bs:List Int}{c n g m cg:Nat}{O:List Int}(h:QL w W q a bs c n g m cg O)(hb:Below W.heap.size W W'):QL w W' q a bs c n g m cg O:=by
 obtain⟨p,hr⟩:=h.r;exact⟨⟨hb.os.trans h.gr.os,hb.tape.trans h.gr.tape,hb.output.trans h.gr.output,Nat.le_trans h.gr.size hb.size,fun k hk hne=>(hb.block k (Nat.lt_of_lt_of_le hk h.gr.size)).trans (h.gr.block k hk hne)⟩,h.r0,⟨p,hr.below hb⟩,za1 hb (za3 h.b0) h.b0,za1 hb (za3 h.b1) h.b1,h.hg,h.o.below hb⟩
theorem QL.set{w W:World}{q:Nat}{a:Option Addr}{bs:List Int}{c n g m cg:Nat}{O:List Int}(h:QL w W q a bs c n g m cg O)(j:Nat)(v:Int):QL w (W.setCell ⟨g,j,none⟩ (.int .i64 v)) q a bs c n g m cg (O.set j v):=by
 have hgl:=h.hg.1;obtain⟨p,hr⟩:=h.r;obtain⟨p0,hr0⟩:=h.r0;have hsl:∀k,some g=some k->w.heap.size<=k:=fun k e=>by injection e with e;omega
 refine⟨zc5 h.gr (za9 W g j _) hsl,h.r0,⟨p,RD.kept2 hr0 hr (za9 W g j _) hsl⟩,?_,?_,⟨hgl,by rw[List.length_set];exact h.hg.2.1,h.hg.2.2⟩,h.o.set j v⟩
 ·rw[heap_setCell_other _ _ _ _ (by simp;omega)];exact h.b0
 ·rw[heap_setCell_other _ _ _ _ (by simp;omega)];exact h.b1
theorem ML.toQ{w W:World}{q:Nat}{a:Option Addr}{bs:List Int}{c n g m cg:Nat}{O:List Int}(h:ML w W q a bs c n (.slice (some ⟨g,0,none⟩) m cg) O)(hm:O.length=m):QL w W q a bs c n g m cg O:=by
 have ho:=h.o;have ho2:=h.o;rw[hm]at ho;exact⟨h.g,h.r0,h.r,h.b0,h.b1,⟨(h.o.lt g rfl).1,hm,yp1 ho⟩,zl9.of_own ho2⟩
theorem QL.size{w W:World}{q:Nat}{a:Option Addr}{bs:List Int}{c n g m cg:Nat}{O:List Int}(h:QL w W q a bs c n g m cg O):w.heap.size+2<=W.heap.size:=za3 h.b1
theorem QL.swap{w W:World}{q:Nat}{a:Option Addr}{bs:List Int}{c n g m cg g' cg':Nat}{O O':List Int}(h:QL w W q a bs c n g m cg O)(hg:w.heap.size+2<=g')(hO:O'.length=m)(hc:m<=cg')(hrow:zl9 W g' O'):QL w ((W.setCell ⟨w.heap.size+1,0,none⟩ (.int .i64 n)).setCell ⟨w.heap.size+1,1,none⟩ (.slice (some ⟨g',0,none⟩) m cg')) q a bs c n g' m cg' O':=by
 obtain⟨p,hr⟩:=h.r;obtain⟨p0,hr0⟩:=h.r0;have hsl:∀k,some (w.heap.size+1)=some k->w.heap.size<=k:=fun k e=>by injection e with e;omega
 have g1:=za9 W (w.heap.size+1) 0 (.int .i64 n);have g2:=za9 (W.setCell ⟨w.heap.size+1,0,none⟩ (.int .i64 n)) (w.heap.size+1) 1 (.slice (some ⟨g',0,none⟩) m cg');refine⟨zc5 (zc5 h.gr g1 hsl) g2 hsl,h.r0,⟨p,RD.kept2 hr0 (RD.kept2 hr0 hr g1 hsl) g2 hsl⟩,?_,?_,⟨hg,hO,hc⟩,(hrow.other g1 (fun e=>by injection e with e;omega)).other g2 (fun e=>by injection e with e;omega)⟩
 ·rw[heap_setCell_other _ _ _ _ (by simp),heap_setCell_other _ _ _ _ (by simp)];exact h.b0
 ·have:=heap_setCell_same _ (w.heap.size+1) 1 _ _ (.slice (some ⟨g',0,none⟩) m cg') (heap_setCell_same W (w.heap.size+1) 0 _ _ (.int .i64 n) h.b1)
  simpa using this
def yf4(w:World)(q:Nat)(a:Option Addr)(bs:List Int)(c n:Nat)(e:Ending)(w':World):Prop:=∃(g cg:Nat) (zs:List Int),e=.returned (.agg #[.int .i64 n,.slice (some ⟨g,0,none⟩) zs.length cg])/\zs.length=n*n/\zs.length<=cg/\w.heap.size<=g/\w.grownBy w' (some q)/\(∃p,RD w' q a bs c p)/\zl9 w' g zs
theorem yj7:(Tryz.prog.info? 26).map (·.size)=some 2:=by kernel_rfl
theorem QL.done{w W:World}{q:Nat}{a:Option Addr}{bs:List Int}{c n g m cg:Nat}{O:List Int}(h:QL w W q a bs c n g m cg O)(hm:n*n=m)(A:Act)(hp:A.tmps.getD 4 undef=.pointer (some ⟨w.heap.size,0,none⟩))(hds:A.defers=[]):
 bodyPost Tryz.prog Tryz.f82 (yf4 w q a bs c n) Exit.ret A ((W.setCell ⟨w.heap.size,0,none⟩ (.int .i64 n)).setCell ⟨w.heap.size,1,none⟩ (.slice (some ⟨g,0,none⟩) m cg)):=by
 have hgl:=h.hg.1;obtain⟨p,hr⟩:=h.r;obtain⟨p0,hr0⟩:=h.r0;have hsl:∀k,some w.heap.size=some k->w.heap.size<=k:=fun k e=>by injection e with e;omega
 have g1:=za9 W w.heap.size 0 (.int .i64 n);have g2:=za9 (W.setCell ⟨w.heap.size,0,none⟩ (.int .i64 n)) w.heap.size 1 (.slice (some ⟨g,0,none⟩) m cg);have hrow:((W.setCell ⟨w.heap.size,0,none⟩ (.int .i64 n)).setCell ⟨w.heap.size,1,none⟩ (.slice (some ⟨g,0,none⟩) m cg)).heap[w.heap.size]? =some (.cells #[.int .i64 n,.slice (some ⟨g,0,none⟩) m cg] 26 (0,0)):=by
  have:=heap_setCell_same _ w.heap.size 1 _ _ (.slice (some ⟨g,0,none⟩) m cg) (heap_setCell_same W w.heap.size 0 _ _ (.int .i64 n) h.b0);simpa using this
 refine bodyPost_ret (v:=.agg #[.int .i64 n,.slice (some ⟨g,0,none⟩) m cg]) (results_cell_row Tryz.results82 _ _ w.heap.size 26 _ (0,0) _ hp hrow Tryz.underlying26 rfl yj7) hds ⟨g,cg,O,by rw[h.hg.2.1],by rw[h.hg.2.1,hm],by rw[h.hg.2.1];exact h.hg.2.2,by omega,zc5 (zc5 h.gr g1 hsl) g2 hsl,⟨p,RD.kept2 hr0 (RD.kept2 hr0 hr g1 hsl) g2 hsl⟩,(h.o.other g1 (fun e=>by injection e with e;omega)).other g2 (fun e=>by injection e with e;omega)⟩
def zO3(n:Nat)(O:List Int):Prop:=∀i,i<O.length->0<=O.getD i 0/\O.getD i 0<=29/\(i / n=i % n->O.getD i 0=0)
theorem yh0{n:Nat}{O:List Int}{x:Int}(h:zO3 n O)(h0:0<=x)(h1:x<=29)(h2:O.length / n=O.length % n->x=0):zO3 n (O++[x]):=by
 intro i hi;rw[List.length_append]at hi;by_cases e:i=O.length
 ·have:(O++[x]).getD i 0=x:=by rw[e];simp[List.getD]
  rw[this,e];exact⟨h0,h1,h2⟩
 ·have hi':i<O.length:=by simp at hi;omega
  have:(O++[x]).getD i 0=O.getD i 0:=by simp[List.getD,List.getElem?_append_left hi']
  rw[this];exact h i hi'
theorem yb8{n:Nat}{O:List Int}(h1:1<=n)(h9:n<=9)(hl:O.length=n*n)(h:zO3 n O):zm2 n O=true:=by
 unfold zm2;refine decide_eq_true ⟨by omega,by omega,by rw[hl];simp,fun i hi=> ?_⟩;have:=h i hi;refine⟨this.1,by omega,fun e=>this.2.2 (by simpa using e)⟩
theorem ya3{n x y:Nat}(hx:x<n)(hy:y<n):x*n+y<n*n:=by
 have h:(x+1)*n<=n*n:=Nat.mul_le_mul_right n hx;rw[Nat.add_mul,Nat.one_mul]at h;omega
theorem yp8{y n x q m:Nat}(h:(y:Int)*(n:Int)=((q:Nat):Int))(hq:q+x<m)(hm:m<=81):wrap64 ((y:Int)*(n:Int))=(q:Int)/\IntKind.i64.wrap ((y:Int)*(n:Int))=(q:Int)/\wrap64 ((q:Int)+(x:Int))=(q:Int)+(x:Int)/\IntKind.i64.wrap ((q:Int)+(x:Int))=(q:Int)+(x:Int)/\0<=(q:Int)+(x:Int)/\(q:Int)+(x:Int)<(m:Int)/\((q:Int)+(x:Int)).toNat=q+x:=by
 rw[h];exact⟨by unfold wrap64;omega,IntWalk.i64_in _ (by omega),by unfold wrap64;omega,IntWalk.i64_in _ (by omega),by omega,by omega,by omega⟩
theorem ye4{n x y:Nat}{O:List Int}(h:zO3 n O)(hl:O.length=n*n)(hyx:y<x)(hx:x<n):zO3 n (O.set (y*n+x) (O.getD (x*n+y) 0)):=by
 have h1:x*n+y<O.length:=by rw[hl];exact ya3 hx (by omega)
 have h2:y*n+x<O.length:=by rw[hl];exact ya3 (by omega) hx
 obtain⟨d1,d2⟩:=zs2 n y x hx;intro j hj;rw[List.length_set]at hj;by_cases e:y*n+x=j
 ·subst e
  have:(O.set (y*n+x) (O.getD (x*n+y) 0)).getD (y*n+x) 0=O.getD (x*n+y) 0:=by simp[List.getD,h2]
  rw[this,d1,d2];have:=h (x*n+y) h1;exact⟨this.1,this.2.1,fun e=>by omega⟩
 ·have:(O.set (y*n+x) (O.getD (x*n+y) 0)).getD j 0=O.getD j 0:=by simp[List.getD,e]
  rw[this];exact h j hj
theorem yc3{p:Prop}(h:p):Hid p:=h
set_option maxRecDepth 10000 in
set_option maxHeartbeats 4000000 in
theorem zU8(q p c n:Nat)(a:Option Addr)(bs:List Int)(w:World)(h:RD w q a bs c p)(hn1:1<=n)(hn9:n<=9):
 Calls Tryz.prog 82 #[.pointer (some ⟨q,0,none⟩),.int .i64 n] w (yf4 w q a bs c n):=by
 have H:Hid (RD w q a bs c p):=h;clear h;have M0:Hid (ML w ((w.alloc (.cells #[.int .i64 0,.slice none 0 0] 26)).alloc (.cells #[.int .i64 n,.slice none 0 0] 26)) q a bs c n (.slice none 0 0) []):=ML.new H.out;have hnn:n*n<=81:=Nat.mul_le_mul hn9 hn9;have hn0:1<=n*n:=Nat.mul_le_mul hn1 hn1;have hnw:(n:Int)*(n:Int)=((n*n:Nat):Int):=by simp
 obtain⟨m,HM⟩:=nmd (n*n);rw[HM.out]at hnn hn0 hnw;have hw1:wrap64 ((n:Int)*(n:Int))=(m:Int):=by rw[hnw];unfold wrap64;omega
 clear hnw;go_enter Tryz.func82,Tryz.ntmps82
 go_wp2_with fail
 go_loopw[6,7] (fun t _ wr=>∃(i:Nat) (ov:Value) (O:List Int),O.length=i/\i<=m/\t=.int .i64 i/\zO3 n O/\ML w wr q a bs c n ov O) (fun t _ _=>m - (intOf t).toNat)
 case atStart=>exact⟨0,_,[],rfl,Nat.zero_le _,rfl,fun i hi=>by simp at hi,M0.out⟩
 case round=>
  clear M0;obtain⟨i,ov,O,hO,hi,rfl,hdm,hml⟩:=hrel;have M1:Hid _:=hml;have HO:Hid (O.length=i):=hO;have HDM:Hid (zO3 n O):=hdm;clear hml hO hdm;obtain⟨p2,hr2⟩:=M1.r;have R2:Hid (RD wr q a bs c p2):=hr2;clear hr2;by_cases hlt:i<m
  ·have hw2:IntKind.i64.wrap ((i:Int) / (n:Int))=(i:Int) / (n:Int):=by
    rw[IntKind.wrap_i64,<-Int.natCast_ediv];have hq:=Nat.div_le_self i n;generalize i / n=q at hq;omega
   have hw3:(i:Int).tmod (n:Int)=(i:Int) % (n:Int):=Int.tmod_eq_emod_of_nonneg (by omega);have HW:=yc3 (And.intro hw2 hw3);clear hw2 hw3
   go_wp2_with fail
   refine(zb1 q p2 c 30 a bs wr R2.out (by omega)).mono ?_;rintro e w3 ⟨y,p3,rfl,hy0,hy1,hr,hg⟩;have M3:Hid _:=M1.read hr hg;have hy2:y<=29:=by omega
   clear hr hg M1 R2 hy1;have STEP:Hid (∀(W:World) (x:Int),ML w W q a bs c n ov O->0<=x->x<=29->(i / n=i % n->x=0)->W.cell? ⟨w.heap.size+1,1,none⟩=some ov/\(∀(v':Value) (w4:World),w4.ownsRow (w.heap.size+2) 2 1 v' (i+1) ((O++[x]).map (Value.int .i64))->(W.alloc (.cells #[.int .i64 x] 2)).grownBy w4 ov.ownBlock->w4.cell? ⟨w.heap.size+1,1,none⟩=some ov/\w4.frozen? ⟨w.heap.size+1,1,none⟩=false/\ML w (w4.setCell ⟨w.heap.size+1,1,none⟩ v') q a bs c n v' (O++[x])/\zO3 n (O++[x]))):=by
    intro W x hM h0 h1 h2;refine⟨(za2 hM.b1).2,fun v' w4 hown hg=> ?_⟩;have hb1:=za5 hg ((heap_alloc_old W (.cells #[.int .i64 x] 2) (za3 hM.b1)).trans hM.b1) (fun e=>by have:=(hM.o.lt _ e.symm).1;omega);exact⟨(za2 hb1).2,frozen_of_row _ _ 1 _ _ hb1,hM.put (by rw[List.length_append,HO.out];exact hown) hg,yh0 HDM.out h0 h1 (by rw[HO.out];exact h2)⟩
   by_cases hdg:i / n=i % n
   ·have hqb:((i:Int) / (n:Int)==(i:Int) % (n:Int))=true:=by simp;omega
    clear hdg;obtain⟨hw2,hw3⟩:=HW.out;go_wp2
    go_quiet (fail)
    clear hw2 hw3 hqb;have M4:Hid _:=M3.below (below_drewN (Below.refl _ _) nq);generalize w3.drewN nq=W4 at*;obtain⟨cv,hst⟩:=STEP.out W4 0 M4.out (by omega) (by omega) (fun _=>rfl);have HST:Hid _:=hst;clear hst STEP M3 hy0 hy2
    go_wp2_with(
     at_builtin;refine zf4 _ rfl (.tmp 29) (.tmp 31) rfl (w.heap.size+2) _ i O rfl (by have:=M4.o;rw[HO.out]at this;exact this.alloc _) W4.heap.size 0 1 1 [0] rfl rfl (zk2 W4 0) (by omega) (by omega) (Nat.le_trans M4.size (by simp)) ?_;intro v' w4 hown hg hbk hnl;obtain⟨g',c',rfl,-⟩:=zj7 hown;obtain⟨c4,f4,m4,d4⟩:=HST.out _ w4 hown hg;have M5:Hid _:=m4;have D5:Hid (zO3 n (O++[0])):=d4;clear hown hg hbk hnl m4 d4)
    go_roundw
    case rel=>exact⟨i+1,_,O++[0],by rw[List.length_append,HO.out];rfl,by omega,by first|rfl|go_num,D5.out,M5.out⟩
    case measure=>simp[intOf];omega
   ·have hqb:((i:Int) / (n:Int)==(i:Int) % (n:Int))=false:=by simp;omega
    have HDG:Hid (¬i / n=i % n):=hdg;clear hdg;obtain⟨hw2,hw3⟩:=HW.out;go_wp2
    go_quiet (fail)
    clear hw2 hw3 hqb;have M4:Hid _:=M3.below (below_drewN (Below.refl _ _) nq);generalize w3.drewN nq=W4 at*;obtain⟨cv,hst⟩:=STEP.out W4 y M4.out hy0 hy2 (fun h=>absurd h HDG.out);have HST:Hid _:=hst;clear hst STEP M3 hy0 hy2
    go_wp2_with(
     at_builtin;refine zf4 _ rfl (.tmp 29) (.tmp 31) rfl (w.heap.size+2) _ i O rfl (by have:=M4.o;rw[HO.out]at this;exact this.alloc _) W4.heap.size 0 1 1 [y] rfl rfl (zk2 W4 y) (by omega) (by omega) (Nat.le_trans M4.size (by simp)) ?_;intro v' w4 hown hg hbk hnl;obtain⟨g',c',rfl,-⟩:=zj7 hown;obtain⟨c4,f4,m4,d4⟩:=HST.out _ w4 hown hg;have M5:Hid _:=m4;have D5:Hid (zO3 n (O++[y])):=d4;clear hown hg hbk hnl m4 d4)
    go_roundw
    case rel=>exact⟨i+1,_,O++[y],by rw[List.length_append,HO.out];rfl,by omega,by first|rfl|go_num,D5.out,M5.out⟩
    case measure=>simp[intOf];omega
  ·have him:i=m:=by omega
   subst him;clear hlt hi;obtain⟨g,cg,rfl⟩:∃g cg,ov=.slice (some ⟨g,0,none⟩) i cg:=by
    have ho:=M1.o;rw[HO.out]at ho;rcases zk3 ho with e|e
    ·obtain⟨_,⟨_,h3⟩|⟨g,cap,cur,h2,_⟩⟩:=ho
     ·omega
     ·exact⟨g,cap,h2⟩
    ·exact e
   have Q1:Hid _:=M1.toQ HO.out;clear M1
   go_wp2_with fail
   refine(zj9 q p2 c 2 a bs wr R2.out (by omega) (by omega)).mono ?_;rintro e w3 ⟨v,p3,rfl,hr,hg⟩;have Q3:Hid _:=Q1.read hr hg;have R3:Hid (RD w3 q a bs c p3):=hr;clear hr hg Q1 R2;cases v
   ·go_wp2_with fail
    refine(zj9 q p3 c 3 a bs w3 R3.out (by omega) (by omega)).mono ?_;rintro e w4 ⟨v,p4,rfl,hr,hg⟩;have Q4:Hid _:=Q3.read hr hg;have R4:Hid (RD w4 q a bs c p4):=hr;clear hr hg;cases v
    ·go_wp2_with fail
     refine(zj9 q p4 c 40 a bs w4 R4.out (by omega) (by omega)).mono ?_;rintro e w5 ⟨v,p5,rfl,hr,hg⟩;have Q5:Hid _:=Q4.read hr hg;have R5:Hid (RD w5.drew q a bs c p5):=hr.below (Below.refl _ _).drew;clear hr hg;obtain⟨c10,c11⟩:=za2 Q5.b1;cases v
     ·obtain⟨c00,c01⟩:=za2 Q5.b0
      have f0:=fun k=>frozen_of_row _ _ k _ _ Q5.b0;go_wp2;exact Q5.done HM.out _ (by rfl) (by rfl)
     ·go_wp2_with fail
      go_region_with (first
       |(go_at_call 43
         with_reducible refine(zb1 q p5 c (i:Nat) a bs w5.drew R5.out (by omega)).mono ?_
         rintro e wa ⟨xa,pa,rfl,hx0,hx1,hr,hg⟩;obtain⟨xa,rfl⟩:=Int.eq_ofNat_of_zero_le hx0;have hxa:xa<i:=by omega
         have QA:Hid _:=(Q5.below (Below.refl _ _).drew).read hr hg;have RA:Hid (RD wa q a bs c pa):=hr;obtain⟨ca0,ca1⟩:=za2 QA.b1;clear hr hg hx0 hx1)
       |(go_at_call 42
         with_reducible refine(zm8 q pa c 0 10000 a bs wa RA.out (by omega) (by omega) (by omega) (by omega)).mono ?_
         rintro e wb ⟨zb,pb,rfl,hz0,hz1,hr,hg⟩;have QB:Hid _:=QA.read hr hg;obtain⟨cb0,cb1⟩:=za2 QB.b1;have cx:wb.cell? ⟨g,xa,none⟩=some (.int .i64 (O.getD xa 0)):=by
          obtain⟨_,_,e,h⟩:=QB.o.ints xa (by rw[HO.out];exact hxa);simp at e;obtain⟨rfl,rfl⟩:=e;rw[Nat.zero_add]at h;exact h
         have fx:=QB.o.frozen xa;have QC:Hid _:=QB.set xa zb;clear hr hg))
      all_goals
       generalize wb.setCell ⟨g,xa,none⟩ (.int .i64 zb)=WC at*;obtain⟨d10,d11⟩:=za2 QC.b1;obtain⟨d00,d01⟩:=za2 QC.b0;have f0:=fun k=>frozen_of_row _ _ k _ _ QC.b0;go_wp2;exact QC.done HM.out _ (by rfl) (by rfl)
    ·obtain⟨k10,k11⟩:=za2 Q4.b1
     have HMB:Hid _:=yb8 hn1 hn9 (HO.trans HM.symm) HDM.out;have HCL:Hid (Calls Tryz.prog 121 #[.agg #[.int .i64 n,.slice (some ⟨g,0,none⟩) i cg]] w4 fun e w'=>∃g c r,w4.heap.size<=g/\e=.returned (.agg #[.int .i64 n,.slice (some ⟨g,0,none⟩) i c])/\i<=c/\Below w4.heap.size w4 w'/\w'.heap[g]? =some (.cells (cellsOf (clo n O++r)) 2 (0,0))):=by
      have:=zu8 n (some ⟨g,0,none⟩) cg O w4 Q4.o.ints HMB.out;rw[HO.out,HM.out]at this;exact this
     go_wp2_with fail
     refine HCL.mono ?_;rintro e w6 ⟨g6,c6,r6,hg6,rfl,hc6,hb6,hrow6⟩;have HO6:Hid ((clo n O).length=i):=by show _=_;unfold clo;rw[zn5];exact HO.out
     have Q6:Hid _:=Q4.below hb6;obtain⟨l10,l11⟩:=za2 Q6.b1;have lf:=fun k=>frozen_of_row _ _ k _ _ Q6.b1;have Q7:Hid _:=Q6.swap (Nat.le_trans Q4.size hg6) HO6.out hc6 (zl9.of_cells hrow6);obtain⟨p7,hr7⟩:=Q7.r;have R7:Hid (RD ((w6.setCell ⟨w.heap.size+1,0,none⟩ (.int .i64 n)).setCell ⟨w.heap.size+1,1,none⟩ (.slice (some ⟨g6,0,none⟩) i c6)) q a bs c p7):=hr7;clear hr7 hg6 hc6 hb6 hrow6 HCL Q6;obtain⟨O7,HO7e⟩:=nmd (clo n O);rw[HO7e.out]at HO6 Q7
     go_wp2_with fail
     refine(zj9 q p7 c 40 a bs _ R7.out (by omega) (by omega)).mono ?_;rintro e w5 ⟨v,p5,rfl,hr,hg⟩;have Q5:Hid _:=Q7.read hr hg;have R5:Hid (RD w5.drew q a bs c p5):=hr.below (Below.refl _ _).drew;clear hr hg;obtain⟨c10,c11⟩:=za2 Q5.b1;cases v
     ·obtain⟨c00,c01⟩:=za2 Q5.b0
      have f0:=fun k=>frozen_of_row _ _ k _ _ Q5.b0;go_wp2;exact Q5.done HM.out _ (by rfl) (by rfl)
     ·go_wp2_with fail
      go_region_with (first
       |(go_at_call 43
         with_reducible refine(zb1 q p5 c (i:Nat) a bs w5.drew R5.out (by omega)).mono ?_
         rintro e wa ⟨xa,pa,rfl,hx0,hx1,hr,hg⟩;obtain⟨xa,rfl⟩:=Int.eq_ofNat_of_zero_le hx0;have hxa:xa<i:=by omega
         have QA:Hid _:=(Q5.below (Below.refl _ _).drew).read hr hg;have RA:Hid (RD wa q a bs c pa):=hr;obtain⟨ca0,ca1⟩:=za2 QA.b1;clear hr hg hx0 hx1)
       |(go_at_call 42
         with_reducible refine(zm8 q pa c 0 10000 a bs wa RA.out (by omega) (by omega) (by omega) (by omega)).mono ?_
         rintro e wb ⟨zb,pb,rfl,hz0,hz1,hr,hg⟩;have QB:Hid _:=QA.read hr hg;obtain⟨cb0,cb1⟩:=za2 QB.b1;have cx:wb.cell? ⟨g6,xa,none⟩=some (.int .i64 (O7.getD xa 0)):=by
          obtain⟨_,_,e,h⟩:=QB.o.ints xa (by rw[HO6.out];exact hxa);simp at e;obtain⟨rfl,rfl⟩:=e;rw[Nat.zero_add]at h;exact h
         have fx:=QB.o.frozen xa;have QC:Hid _:=QB.set xa zb;clear hr hg))
      all_goals
       generalize wb.setCell ⟨g6,xa,none⟩ (.int .i64 zb)=WC at*;obtain⟨d10,d11⟩:=za2 QC.b1;obtain⟨d00,d01⟩:=za2 QC.b0;have f0:=fun k=>frozen_of_row _ _ k _ _ QC.b0;go_wp2;exact QC.done HM.out _ (by rfl) (by rfl)
   ·go_wp2_with fail
    go_loopw[8,9] (fun t _ wr=>∃(x:Nat) (O:List Int),O.length=i/\x<=n/\t=.int .i64 x/\zO3 n O/\QL w wr q a bs c n g i cg O) (fun t _ _=>n - (intOf t).toNat)
    case atStart=>exact⟨0,O,HO.out,Nat.zero_le _,rfl,HDM.out,Q3.out⟩
    case round=>
     clear Q3 R3 HO HDM;obtain⟨x,O,hO,hx,rfl,hdm,hql⟩:=hrel;have Q3:Hid _:=hql;have HO:Hid (O.length=i):=hO;have HDM:Hid (zO3 n O):=hdm;clear hql hO hdm;by_cases hxn:x<n
     ·go_wp2_with fail
      go_loopw[9] (fun t wr=>∃(y:Nat) (O:List Int),O.length=i/\y<=x/\t=.int .i64 y/\zO3 n O/\QL w wr q a bs c n g i cg O) (fun t _=>x - (intOf t).toNat)
      case atStart=>exact⟨0,O,HO.out,Nat.zero_le _,rfl,HDM.out,Q3.out⟩
      case round=>
       clear Q3 HO HDM;obtain⟨y,O,hO,hy,rfl,hdm,hql⟩:=hrel;have Q3:Hid _:=hql;have HO:Hid (O.length=i):=hO;have HDM:Hid (zO3 n O):=hdm;clear hql hO hdm;by_cases hyx:y<x
       ·have hsq:=ya3 (show y<n by omega) hxn
        rw[HM.out]at hsq;have HD2:Hid (zO3 n (O.set (y*n+x) (O.getD (x*n+y) 0))):=ye4 HDM.out (HO.trans HM.symm) hyx hxn;have hkn:(y:Int)*(n:Int)=((y*n:Nat):Int):=by simp
        obtain⟨yn,HYN⟩:=nmd (y*n);rw[HYN.out]at hsq HD2 hkn;obtain⟨v,HV⟩:=nmd (O.getD (x*n+y) 0);rw[HV.out]at HD2;have HC:∀s:Kin wr,Calls Tryz.prog 120 #[.agg #[.int .i64 n,.slice (some ⟨g,0,none⟩) i cg],.int .i64 x,.int .i64 y] s.w fun e w'=>e=.returned (.int .i64 v)/\Below s.w.heap.size s.w w':=fun s=>by
         have:=zz8 n x y (some ⟨g,0,none⟩) i cg O s.w (by omega) hxn (by omega) (HO.trans HM.symm) HM.symm (Q3.o.ints.below s.below);rw[HV.out]at this;exact this
        obtain⟨c10,c11⟩:=za2 Q3.b1;have e1:=fun s:Kin wr=>s.cell c10;have e2:=fun s:Kin wr=>s.cell c11;have hkin:=Kin.there wr;have HW:=yc3 (yp8 hkn hsq hnn)
        go_wp2_with fail
        obtain⟨a1,a2,a3,a4,a5,a6,a7⟩:=HW.out;refine zo0 12 (by kernel_rfl) (by kernel_rfl) ?_;simp only[List.take_succ_cons,List.take_zero,List.drop_succ_cons,List.drop_zero]
        repeat(go_big_quiet_step ((go_at_call 120;exact Kin.call (HC _))))
        refine wpQuiet_nil ?_;rintro _ ⟨s,rfl⟩;have Q4:Hid _:=Q3.below s.below;clear e1 e2 hkin HC c10 c11 a1 a2 a3 a4;generalize s.w=w2 at*;have cx:w2.cell? ⟨g,yn+x,none⟩=some (.int .i64 (O.getD (yn+x) 0)):=by
         obtain⟨_,_,e,h⟩:=Q4.o.ints (yn+x) (by rw[HO.out];exact hsq);simp at e;obtain⟨rfl,rfl⟩:=e;rw[Nat.zero_add]at h;exact h
        have fx:=Q4.o.frozen (yn+x);obtain⟨cv,HCV⟩:=nmd (O.getD (yn+x) 0);rw[HCV.out]at cx;have Q5:Hid _:=Q4.set (yn+x) v;go_wp2;refine⟨⟨y+1,O.set (yn+x) v,by rw[List.length_set];exact HO.out,by omega,by go_num,HD2.out,Q5.out⟩,by simp[intOf];omega⟩
       ·go_wp2
        refine⟨⟨x+1,O,HO.out,by omega,by go_num,HDM.out,Q3.out⟩,by simp[intOf];omega⟩
     ·obtain⟨p3,hr3⟩:=Q3.r
      have R3:Hid (RD wr q a bs c p3):=hr3;clear hr3
      go_wp2_with fail
      refine(zj9 q p3 c 3 a bs wr R3.out (by omega) (by omega)).mono ?_;rintro e w4 ⟨v,p4,rfl,hr,hg⟩;have Q4:Hid _:=Q3.read hr hg;have R4:Hid (RD w4 q a bs c p4):=hr;clear hr hg;cases v
      ·go_wp2_with fail
       refine(zj9 q p4 c 40 a bs w4 R4.out (by omega) (by omega)).mono ?_;rintro e w5 ⟨v,p5,rfl,hr,hg⟩;have Q5:Hid _:=Q4.read hr hg;have R5:Hid (RD w5.drew q a bs c p5):=hr.below (Below.refl _ _).drew;clear hr hg;obtain⟨c10,c11⟩:=za2 Q5.b1;cases v
       ·obtain⟨c00,c01⟩:=za2 Q5.b0
        have f0:=fun k=>frozen_of_row _ _ k _ _ Q5.b0;go_wp2;exact Q5.done HM.out _ (by rfl) (by rfl)
       ·go_wp2_with fail
        go_region_with (first
         |(go_at_call 43
           with_reducible refine(zb1 q p5 c (i:Nat) a bs w5.drew R5.out (by omega)).mono ?_
           rintro e wa ⟨xa,pa,rfl,hx0,hx1,hr,hg⟩;obtain⟨xa,rfl⟩:=Int.eq_ofNat_of_zero_le hx0;have hxa:xa<i:=by omega
           have QA:Hid _:=(Q5.below (Below.refl _ _).drew).read hr hg;have RA:Hid (RD wa q a bs c pa):=hr;obtain⟨ca0,ca1⟩:=za2 QA.b1;clear hr hg hx0 hx1)
         |(go_at_call 42
           with_reducible refine(zm8 q pa c 0 10000 a bs wa RA.out (by omega) (by omega) (by omega) (by omega)).mono ?_
           rintro e wb ⟨zb,pb,rfl,hz0,hz1,hr,hg⟩;have QB:Hid _:=QA.read hr hg;obtain⟨cb0,cb1⟩:=za2 QB.b1;have cx:wb.cell? ⟨g,xa,none⟩=some (.int .i64 (O.getD xa 0)):=by
            obtain⟨_,_,e,h⟩:=QB.o.ints xa (by rw[HO.out];exact hxa);simp at e;obtain⟨rfl,rfl⟩:=e;rw[Nat.zero_add]at h;exact h
           have fx:=QB.o.frozen xa;have QC:Hid _:=QB.set xa zb;clear hr hg))
        all_goals
         generalize wb.setCell ⟨g,xa,none⟩ (.int .i64 zb)=WC at*;obtain⟨d10,d11⟩:=za2 QC.b1;obtain⟨d00,d01⟩:=za2 QC.b0;have f0:=fun k=>frozen_of_row _ _ k _ _ QC.b0;go_wp2;exact QC.done HM.out _ (by rfl) (by rfl)
      ·obtain⟨k10,k11⟩:=za2 Q4.b1
       have HMB:Hid _:=yb8 hn1 hn9 (HO.trans HM.symm) HDM.out;have HCL:Hid (Calls Tryz.prog 121 #[.agg #[.int .i64 n,.slice (some ⟨g,0,none⟩) i cg]] w4 fun e w'=>∃g c r,w4.heap.size<=g/\e=.returned (.agg #[.int .i64 n,.slice (some ⟨g,0,none⟩) i c])/\i<=c/\Below w4.heap.size w4 w'/\w'.heap[g]? =some (.cells (cellsOf (clo n O++r)) 2 (0,0))):=by
        have:=zu8 n (some ⟨g,0,none⟩) cg O w4 Q4.o.ints HMB.out;rw[HO.out,HM.out]at this;exact this
       go_wp2_with fail
       refine HCL.mono ?_;rintro e w6 ⟨g6,c6,r6,hg6,rfl,hc6,hb6,hrow6⟩;have HO6:Hid ((clo n O).length=i):=by show _=_;unfold clo;rw[zn5];exact HO.out
       have Q6:Hid _:=Q4.below hb6;obtain⟨l10,l11⟩:=za2 Q6.b1;have lf:=fun k=>frozen_of_row _ _ k _ _ Q6.b1;have Q7:Hid _:=Q6.swap (Nat.le_trans Q4.size hg6) HO6.out hc6 (zl9.of_cells hrow6);obtain⟨p7,hr7⟩:=Q7.r;have R7:Hid (RD ((w6.setCell ⟨w.heap.size+1,0,none⟩ (.int .i64 n)).setCell ⟨w.heap.size+1,1,none⟩ (.slice (some ⟨g6,0,none⟩) i c6)) q a bs c p7):=hr7;clear hr7 hg6 hc6 hb6 hrow6 HCL Q6;obtain⟨O7,HO7e⟩:=nmd (clo n O);rw[HO7e.out]at HO6 Q7
       go_wp2_with fail
       refine(zj9 q p7 c 40 a bs _ R7.out (by omega) (by omega)).mono ?_;rintro e w5 ⟨v,p5,rfl,hr,hg⟩;have Q5:Hid _:=Q7.read hr hg;have R5:Hid (RD w5.drew q a bs c p5):=hr.below (Below.refl _ _).drew;clear hr hg;obtain⟨c10,c11⟩:=za2 Q5.b1;cases v
       ·obtain⟨c00,c01⟩:=za2 Q5.b0
        have f0:=fun k=>frozen_of_row _ _ k _ _ Q5.b0;go_wp2;exact Q5.done HM.out _ (by rfl) (by rfl)
       ·go_wp2_with fail
        go_region_with (first
         |(go_at_call 43
           with_reducible refine(zb1 q p5 c (i:Nat) a bs w5.drew R5.out (by omega)).mono ?_
           rintro e wa ⟨xa,pa,rfl,hx0,hx1,hr,hg⟩;obtain⟨xa,rfl⟩:=Int.eq_ofNat_of_zero_le hx0;have hxa:xa<i:=by omega
           have QA:Hid _:=(Q5.below (Below.refl _ _).drew).read hr hg;have RA:Hid (RD wa q a bs c pa):=hr;obtain⟨ca0,ca1⟩:=za2 QA.b1;clear hr hg hx0 hx1)
         |(go_at_call 42
           with_reducible refine(zm8 q pa c 0 10000 a bs wa RA.out (by omega) (by omega) (by omega) (by omega)).mono ?_
           rintro e wb ⟨zb,pb,rfl,hz0,hz1,hr,hg⟩;have QB:Hid _:=QA.read hr hg;obtain⟨cb0,cb1⟩:=za2 QB.b1;have cx:wb.cell? ⟨g6,xa,none⟩=some (.int .i64 (O7.getD xa 0)):=by
            obtain⟨_,_,e,h⟩:=QB.o.ints xa (by rw[HO6.out];exact hxa);simp at e;obtain⟨rfl,rfl⟩:=e;rw[Nat.zero_add]at h;exact h
           have fx:=QB.o.frozen xa;have QC:Hid _:=QB.set xa zb;clear hr hg))
        all_goals
         generalize wb.setCell ⟨g6,xa,none⟩ (.int .i64 zb)=WC at*;obtain⟨d10,d11⟩:=za2 QC.b1;obtain⟨d00,d01⟩:=za2 QC.b0;have f0:=fun k=>frozen_of_row _ _ k _ _ QC.b0;go_wp2;exact QC.done HM.out _ (by rfl) (by rfl)
theorem zd1{W W':World}{g q:Nat}{xs:List Int}(h:za0 W (some ⟨g,0,none⟩) xs)(hg:W.grownBy W' (some q))(hne:g≠q):za0 W' (some ⟨g,0,none⟩) xs:=by
 intro j hj;obtain⟨b,off,e,hc⟩:=h j hj;simp at e;obtain⟨rfl,rfl⟩:=e;exact⟨g,0,rfl,hg.cell hc (fun e=>by injection e with e;exact hne e)⟩
end Go.Proofs.YtjobhigmdaiinaaGreat
