import Derived.Test.YtkchnomkiboihaaGreatSpecClosed
set_option linter.unusedSimpArgs false
set_option maxHeartbeats 4000000
namespace Go.Proofs.YtkchnomkiboihaaGreat
open RowKit renaming Below→Za,Hid→Zb
open Go renaming Calls→Zc,Addr→Zd
theorem qE:type_of% @Go.Proofs.Tryz.results71:=@Go.Proofs.Tryz.results71
open Value renaming slice→za,int→ze,ownBlock→zm
open IntKind renaming i64→zd
open Obj renaming cells→zg
open Proofs.Tryz renaming prog→zh
open Go renaming World→zi
open World renaming ownsRow→zk
open Region renaming wanted→zn
open Builtin renaming append_→zu
open List renaming getD→zy
open Go.RowKit
open Q
theorem zp0{w:zi}{base k:Nat}{v:Value}{e:TypeId}{size:Nat}{xs:List Value}(h:w.ownsRow base e size v k xs):∃ao co,v=za ao k co:=by
 obtain⟨_,⟨h1,h2⟩|⟨g,ac,az,h2,_⟩⟩:=h
 ·exact⟨none,0,by rw[h1,h2]⟩
 ·exact⟨_,ac,h2⟩
theorem zS2{w:zi}{k:Nat}{c0 c1 c2 c3 c4 c5:Value}{T:TypeId}(r:w.heap[k]? =some (zg #[c0,c1,c2,c3,c4,c5] T (0,0))):
 w.cell? ⟨k,0,none⟩=some c0/\w.cell? ⟨k,1,none⟩=some c1/\w.cell? ⟨k,2,none⟩=some c2/\w.cell? ⟨k,3,none⟩=some c3/\w.cell? ⟨k,4,none⟩=some c4/\w.cell? ⟨k,5,none⟩=some c5:=by
 refine⟨?_,?_,?_,?_,?_,?_⟩
 ·have:=zU _ _ 0 _ _ _ r;simpa using this
 ·have:=zU _ _ 1 _ _ _ r;simpa using this
 ·have:=zU _ _ 2 _ _ _ r;simpa using this
 ·have:=zU _ _ 3 _ _ _ r;simpa using this
 ·have:=zU _ _ 4 _ _ _ r;simpa using this
 ·have:=zU _ _ 5 _ _ _ r;simpa using this
theorem yM2{X:zi}{k o kb:Nat}{v v0 v1 v2 v3 v4 v5:Value}(h:X.cell? ⟨k,o,none⟩=some v)(aq:k≠kb):((((((X.setCell ⟨kb,0,none⟩ v0).setCell ⟨kb,1,none⟩ v1).setCell ⟨kb,2,none⟩ v2).setCell ⟨kb,3,none⟩ v3).setCell ⟨kb,4,none⟩ v4).setCell ⟨kb,5,none⟩ v5).cell? ⟨k,o,none⟩=some v:=
 zj4 (zj4 (zj4 (zj4 (zj4 (zj4 h aq) aq) aq) aq) aq) aq
theorem z20{X:zi}{k o kb:Nat}{v v0 v1 v2 v3 v4:Value}(h:X.cell? ⟨k,o,none⟩=some v)(aq:k≠kb):(((((X.setCell ⟨kb,0,none⟩ v0).setCell ⟨kb,1,none⟩ v1).setCell ⟨kb,2,none⟩ v2).setCell ⟨kb,3,none⟩ v3).setCell ⟨kb,4,none⟩ v4).cell? ⟨k,o,none⟩=some v:=
 zj4 (zj4 (zj4 (zj4 (zj4 h aq) aq) aq) aq) aq
theorem zc6{w:zi}{k:Nat}{c0 c1 c2 c3 c4:Value}{T:TypeId}(r:w.heap[k]? =some (zg #[c0,c1,c2,c3,c4] T (0,0))):
 w.cell? ⟨k,0,none⟩=some c0/\w.cell? ⟨k,1,none⟩=some c1/\w.cell? ⟨k,2,none⟩=some c2/\w.cell? ⟨k,3,none⟩=some c3/\w.cell? ⟨k,4,none⟩=some c4:=by
 refine⟨?_,?_,?_,?_,?_⟩
 ·have:=zU _ _ 0 _ _ _ r;simpa using this
 ·have:=zU _ _ 1 _ _ _ r;simpa using this
 ·have:=zU _ _ 2 _ _ _ r;simpa using this
 ·have:=zU _ _ 3 _ _ _ r;simpa using this
 ·have:=zU _ _ 4 _ _ _ r;simpa using this
theorem zf5{W:zi}{g:Nat}{x0 x1 x2:Int}{T:TypeId}{y:Nat}(h:W.heap[g]? =some (zg #[ze zd x0,ze zd x1,ze zd x2] T (0,0)))(hy:y<3):W.cell? ⟨g,y,none⟩=some (ze zd ([x0,x1,x2].getD y 0)):=by
 rw[zU _ _ y _ _ _ h];rcases(show y=0∨y=1∨y=2 from by omega)with rfl|rfl|rfl<;>rfl
def zh1(w W:zi)(k g:Nat)(oo ov:Value)(kb:Nat)(cs:Array Value)(T:TypeId):Prop:=W.heap[kb]? =some (.cells cs T (0,0))/\w.heap.size+1<=kb/\kb≠k/\kb≠g/\oo.ownBlock≠some kb/\ov.ownBlock≠some kb
section
variable {w W W' w4:zi} {q:Nat} {a:Option Zd} {bs:List Int} {c k:Nat} {n:Int} {g zl cg:Nat} {zs:List Int} {oo rz:Value} {ko:Nat} {O:List Int} {ov dP:Value} {kv:Nat} {V:List Int} {fi:Int} {kb:Nat} {cs:Array Value} {T:TypeId}
theorem zh1.new(h:CD w W q a bs c k n g zl cg zs oo ko O ov kv V fi)(cs:Array Value)(T:TypeId):zh1 w (W.alloc (.cells cs T)) k g oo ov W.heap.size cs T:=by
 have h1:=za2 h.b1;have h2:=h.glt;exact⟨zS _ _,h.size,by omega,by omega,fun e=>by have:=(h.o.lt _ e).2;omega,fun e=>by have:=(h.v.lt _ e).2;omega⟩
theorem zh1.below(h:zh1 w W k g oo ov kb cs T)(hb:Za W.heap.size W W'):zh1 w W' k g oo ov kb cs T:=⟨za0 hb (za2 h.1) h.1,h.2⟩
theorem zh1.read(h:zh1 w W k g oo ov kb cs T)(hq:q<w.heap.size)(hg:W.grownBy W' (some q)):zh1 w W' k g oo ov kb cs T:=⟨za6 hg h.1 (fun e=>by injection e with e;have:=h.2.1;omega),h.2⟩
theorem zh1.set(h:zh1 w W k g oo ov kb cs T)(i:Nat)(v:Value):zh1 w (W.setCell ⟨kb,i,none⟩ v) k g oo ov kb (cs.setIfInBounds i v) T:=⟨ze1 v h.1,h.2⟩
theorem CD.box'(h:CD w W q a bs c k n g zl cg zs oo ko O ov kv V fi)(hb:zh1 w W k g oo ov kb cs T)(i:Nat)(v:Value):CD w (W.setCell ⟨kb,i,none⟩ v) q a bs c k n g zl cg zs oo ko O ov kv V fi:=
 h.aside (zb3 W kb i v) (fun b e=>by injection e with e;subst e;exact hb.2)
theorem CD.boxes6{c0 c1 c2 c3 c4 c5:Value}(h:CD w W q a bs c k n g zl cg zs oo ko O ov kv V fi)(hb:zh1 w W k g oo ov kb #[c0,c1,c2,c3,c4,c5] T)(v0 v1 v2 v3 v4 v5:Value):
 CD w ((((((W.setCell ⟨kb,0,none⟩ v0).setCell ⟨kb,1,none⟩ v1).setCell ⟨kb,2,none⟩ v2).setCell ⟨kb,3,none⟩ v3).setCell ⟨kb,4,none⟩ v4).setCell ⟨kb,5,none⟩ v5) q a bs c k n g zl cg zs oo ko O ov kv V fi∧
 zh1 w ((((((W.setCell ⟨kb,0,none⟩ v0).setCell ⟨kb,1,none⟩ v1).setCell ⟨kb,2,none⟩ v2).setCell ⟨kb,3,none⟩ v3).setCell ⟨kb,4,none⟩ v4).setCell ⟨kb,5,none⟩ v5) k g oo ov kb #[v0,v1,v2,v3,v4,v5] T:=by
 have s0:=hb.set 0 v0;have s1:=s0.set 1 v1;have s2:=s1.set 2 v2;have s3:=s2.set 3 v3;have s4:=s3.set 4 v4;have s5:=s4.set 5 v5;exact⟨(((((((h.box' hb 0 v0).box' s0 1 v1).box' s1 2 v2).box' s2 3 v3).box' s3 4 v4).box' s4 5 v5)),by simpa using s5⟩
theorem CD.boxes5{c0 c1 c2 c3 c4:Value}(h:CD w W q a bs c k n g zl cg zs oo ko O ov kv V fi)(hb:zh1 w W k g oo ov kb #[c0,c1,c2,c3,c4] T)(v0 v1 v2 v3 v4:Value):
 CD w (((((W.setCell ⟨kb,0,none⟩ v0).setCell ⟨kb,1,none⟩ v1).setCell ⟨kb,2,none⟩ v2).setCell ⟨kb,3,none⟩ v3).setCell ⟨kb,4,none⟩ v4) q a bs c k n g zl cg zs oo ko O ov kv V fi∧
 zh1 w (((((W.setCell ⟨kb,0,none⟩ v0).setCell ⟨kb,1,none⟩ v1).setCell ⟨kb,2,none⟩ v2).setCell ⟨kb,3,none⟩ v3).setCell ⟨kb,4,none⟩ v4) k g oo ov kb #[v0,v1,v2,v3,v4] T:=by
 have s0:=hb.set 0 v0;have s1:=s0.set 1 v1;have s2:=s1.set 2 v2;have s3:=s2.set 3 v3;have s4:=s3.set 4 v4;exact⟨((((((h.box' hb 0 v0).box' s0 1 v1).box' s1 2 v2).box' s2 3 v3).box' s3 4 v4)),by simpa using s4⟩
end
structure ML(w W:zi)(q:Nat)(a:Option Zd)(bs:List Int)(c n:Nat)(ov:Value)(O:List Int):Prop where
 g:w.grownBy W (some q)
 r0:∃p,RD w q a bs c p
 r:∃p,RD W q a bs c p
 b0:W.heap[w.heap.size]? =some (zg #[ze zd 0,za none 0 0] 26 (0,0))
 b1:W.heap[w.heap.size+1]? =some (zg #[ze zd n,ov] 26 (0,0))
 o:W.ownsRow (w.heap.size+2) 2 1 ov O.length (O.map (ze zd))
theorem ML.lt{w W:zi}{q:Nat}{a:Option Zd}{bs:List Int}{c n:Nat}{ov:Value}{O:List Int}(h:ML w W q a bs c n ov O):q<w.heap.size:=by
 obtain⟨p,hr⟩:=h.r0;exact za2 hr.1
theorem ML.size{w W:zi}{q:Nat}{a:Option Zd}{bs:List Int}{c n:Nat}{ov:Value}{O:List Int}(h:ML w W q a bs c n ov O):w.heap.size+2<=W.heap.size:=za2 h.b1
theorem ML.new{w:zi}{q:Nat}{a:Option Zd}{bs:List Int}{c n p:Nat}(h:RD w q a bs c p):ML w ((w.alloc (zg #[ze zd 0,za none 0 0] 26)).alloc (zg #[ze zd n,za none 0 0] 26)) q a bs c n (za none 0 0) []:=by
 have hg:w.grownBy ((w.alloc (zg #[ze zd 0,za none 0 0] 26)).alloc (zg #[ze zd n,za none 0 0] 26)) (some q):=zd2 (zq8 w _ q) (zZ2 _ _) (fun g e=>by cases e);have hb:Za w.heap.size w ((w.alloc (zg #[ze zd 0,za none 0 0] 26)).alloc (zg #[ze zd n,za none 0 0] 26)):=(zP _).alloc (by simp) _;exact⟨hg,⟨p,h⟩,⟨p,h.below hb⟩,xm _ _ _,xh _ _ _,xZ _ _ _ _⟩
theorem ML.read{w W W':zi}{q:Nat}{a:Option Zd}{bs:List Int}{c n p:Nat}{ov:Value}{O:List Int}(h:ML w W q a bs c n ov O)(hr:RD W' q a bs c p)(hg:W.grownBy W' (some q)):ML w W' q a bs c n ov O:=by
 have hl:=h.lt;exact⟨zb4 h.g hg,h.r0,⟨p,hr⟩,za6 hg h.b0 (fun e=>by injection e with e;omega),za6 hg h.b1 (fun e=>by injection e with e;omega),h.o.kept hg (.inr fun e=>by have:=(h.o.lt q e).1;omega)⟩
theorem ML.below{w W W':zi}{q:Nat}{a:Option Zd}{bs:List Int}{c n:Nat}{ov:Value}{O:List Int}(h:ML w W q a bs c n ov O)(hb:Za W.heap.size W W'):ML w W' q a bs c n ov O:=by
 obtain⟨p,hr⟩:=h.r;exact⟨⟨hb.os.trans h.g.os,hb.tape.trans h.g.tape,hb.output.trans h.g.output,xj h.g.size hb.size,fun k hk aq=>(hb.block k (xw hk h.g.size)).trans (h.g.block k hk aq)⟩,h.r0,⟨p,hr.below hb⟩,za0 hb (za2 h.b0) h.b0,za0 hb (za2 h.b1) h.b1,zb9 h.o hb⟩
theorem ML.put{w W w4:zi}{q:Nat}{a:Option Zd}{bs:List Int}{c n:Nat}{ov dP:Value}{O O':List Int}{o:Obj}(h:ML w W q a bs c n ov O)(ae:w4.ownsRow (w.heap.size+2) 2 1 dP O'.length (O'.map (ze zd)))(hg:(W.alloc o).grownBy w4 ov.ownBlock):ML w (w4.setCell ⟨w.heap.size+1,1,none⟩ dP) q a bs c n dP O':=by
 have ah:∀g,ov.ownBlock=some g->w.heap.size+2<=g:=fun g e=>(h.o.lt g e).1;obtain⟨p,hr⟩:=h.r;obtain⟨p0,cO⟩:=h.r0;have hq:=h.lt;have ha:ML w (W.alloc o) q a bs c n ov O:=h.below (zP _);have oF:=za6 hg ha.b0 (fun e=>by have:=ah _ e.symm;omega);have gj:=za6 hg ha.b1 (fun e=>by have:=ah _ e.symm;omega);have hs:=zb3 w4 (w.heap.size+1) 1 dP;have bh:∀k,some (w.heap.size+1)=some k->w.heap.size<=k:=fun k e=>by injection e with e;omega
 have lw:RD w4 q a bs c p:=RD.kept2 cO (hr.below (zP _)) hg (fun g e=>by have:=ah g e;omega);refine⟨zd2 (zd2 ha.g hg (fun g e=>by have:=ah g e;omega)) hs bh,h.r0,⟨p,RD.kept2 cO lw hs bh⟩,?_,?_,?_⟩
 ·rw[xy _ _ _ _ (by simp)];exact oF
 ·have:=xb w4 (w.heap.size+1) 1 _ _ dP gj
  simpa using this
 ·exact zg1 ae (by omega)
def zq6(W:zi)(g:Nat)(O:List Int):Prop:=∃az,W.heap[g]? =some (.cells az 2 (0,0))/\∀j,j<O.length->az[j]? =some (ze zd (O.getD j 0))
theorem zq6.ints{W:zi}{g:Nat}{O:List Int}(h:zq6 W g O):za3 W (some ⟨g,0,none⟩) O:=by
 obtain⟨az,h1,h2⟩:=h;intro j hj;refine⟨g,0,rfl,?_⟩;rw[yb,zU _ _ j _ _ _ h1];exact h2 j hj
theorem zq6.frozen{W:zi}{g:Nat}{O:List Int}(h:zq6 W g O)(j:Nat):W.frozen? ⟨g,j,none⟩=false:=by
 obtain⟨az,h1,_⟩:=h;exact yZ _ _ j _ _ h1
theorem zq6.set{W:zi}{g:Nat}{O:List Int}(h:zq6 W g O)(j:Nat)(v:Int):zq6 (W.setCell ⟨g,j,none⟩ (ze zd v)) g (O.set j v):=by
 obtain⟨az,h1,h2⟩:=h;refine⟨_,xb _ _ _ _ _ _ h1,fun k hk=> ?_⟩;rw[List.length_set]at hk;have oR:k<az.size:=by
  have:=h2 k hk;exact(Array.getElem?_eq_some_iff.1 this).1
 rw[Array.getElem?_setIfInBounds];by_cases e:j=k
 ·subst e
  rw[z7 rfl,z7 oR];simp[zy,hk]
 ·rw[ye e,h2 k hk]
  simp[zy,e]
theorem zq6.other{W W':zi}{g:Nat}{O:List Int}{row:Option Nat}(h:zq6 W g O)(hg:W.grownBy W' row)(aq:some g≠row):zq6 W' g O:=by
 obtain⟨az,h1,h2⟩:=h;exact⟨az,za6 hg h1 aq,h2⟩
theorem zq6.below{W W':zi}{g:Nat}{O:List Int}(h:zq6 W g O)(hb:Za W.heap.size W W'):zq6 W' g O:=by
 obtain⟨az,h1,h2⟩:=h;exact⟨az,za0 hb (za2 h1) h1,h2⟩
theorem zq6.of_own{W:zi}{B g n c:Nat}{O:List Int}(h:W.ownsRow B 2 1 (za (some ⟨g,0,none⟩) n c) O.length (O.map (ze zd))):zq6 W g O:=by
 have hn:O.length=n:=by
  rcases zm3 h with e|⟨g',c',e⟩
  ·cases e
  ·injection e with _ e2;exact e2.symm
 have h':=h;obtain⟨_,⟨h1,_⟩|⟨g',ac,az,h2,h3,h4,h5⟩⟩:=h
 ·cases h1
 ·simp at h2
  obtain⟨rfl,_,rfl⟩:=h2;refine⟨az,h4,fun j hj=> ?_⟩;rw[hn]at h';obtain⟨_,_,e,hc⟩:=zd4 h' j hj;simp at e;obtain⟨rfl,rfl⟩:=e;rw[yb,zU _ _ j _ _ _ h4]at hc;exact hc
theorem zq6.of_cells{W:zi}{g:Nat}{O r:List Int}(h:W.heap[g]? =some (.cells (cellsOf (O++r)) 2 (0,0))):zq6 W g O:=by
 refine⟨_,h,fun j hj=> ?_⟩;rw[zv4 _ _ (by rw[xY];omega)];simp[zy,yE hj]
structure QL(w W:zi)(q:Nat)(a:Option Zd)(bs:List Int)(c n g m cg:Nat)(O:List Int):Prop where
 gr:w.grownBy W (some q)
 r0:∃p,RD w q a bs c p
 r:∃p,RD W q a bs c p
 b0:W.heap[w.heap.size]? =some (zg #[ze zd 0,za none 0 0] 26 (0,0))
 b1:W.heap[w.heap.size+1]? =some (zg #[ze zd n,za (some ⟨g,0,none⟩) m cg] 26 (0,0))
 hg:w.heap.size+2<=g/\O.length=m/\m<=cg
 o:zq6 W g O
theorem QL.read{w W W':zi}{q:Nat}{a:Option Zd}{bs:List Int}{c n g m cg p:Nat}{O:List Int}(h:QL w W q a bs c n g m cg O)(hr:RD W' q a bs c p)(hg:W.grownBy W' (some q)):QL w W' q a bs c n g m cg O:=by
 have hl:q<w.heap.size:=by obtain⟨p0,h0⟩:=h.r0;exact za2 h0.1
 have:=h.hg.1;exact⟨zb4 h.gr hg,h.r0,⟨p,hr⟩,za6 hg h.b0 (fun e=>by injection e with e;omega),za6 hg h.b1 (fun e=>by injection e with e;omega),h.hg,h.o.other hg (fun e=>by injection e with e;omega)⟩
theorem QL.below{w W W':zi}{q:Nat}{a:Option Zd}{bs:List Int}{c n g m cg:Nat}{O:List Int}(h:QL w W q a bs c n g m cg O)(hb:Za W.heap.size W W'):QL w W' q a bs c n g m cg O:=by
 obtain⟨p,hr⟩:=h.r;exact⟨⟨hb.os.trans h.gr.os,hb.tape.trans h.gr.tape,hb.output.trans h.gr.output,xj h.gr.size hb.size,fun k hk aq=>(hb.block k (xw hk h.gr.size)).trans (h.gr.block k hk aq)⟩,h.r0,⟨p,hr.below hb⟩,za0 hb (za2 h.b0) h.b0,za0 hb (za2 h.b1) h.b1,h.hg,h.o.below hb⟩
theorem QL.set{w W:zi}{q:Nat}{a:Option Zd}{bs:List Int}{c n g m cg:Nat}{O:List Int}(h:QL w W q a bs c n g m cg O)(j:Nat)(v:Int):QL w (W.setCell ⟨g,j,none⟩ (ze zd v)) q a bs c n g m cg (O.set j v):=by
 have DQ:=h.hg.1;obtain⟨p,hr⟩:=h.r;obtain⟨p0,cO⟩:=h.r0;have bh:∀k,some g=some k->w.heap.size<=k:=fun k e=>by injection e with e;omega
 refine⟨zd2 h.gr (zb3 W g j _) bh,h.r0,⟨p,RD.kept2 cO hr (zb3 W g j _) bh⟩,?_,?_,⟨DQ,by rw[List.length_set];exact h.hg.2.1,h.hg.2.2⟩,h.o.set j v⟩
 ·rw[xy _ _ _ _ (by simp;omega)];exact h.b0
 ·rw[xy _ _ _ _ (by simp;omega)];exact h.b1
theorem ML.toQ{w W:zi}{q:Nat}{a:Option Zd}{bs:List Int}{c n g m cg:Nat}{O:List Int}(h:ML w W q a bs c n (za (some ⟨g,0,none⟩) m cg) O)(hm:O.length=m):QL w W q a bs c n g m cg O:=by
 have ho:=h.o;have fd:=h.o;rw[hm]at ho;exact⟨h.g,h.r0,h.r,h.b0,h.b1,⟨(h.o.lt g rfl).1,hm,y07 ho⟩,zq6.of_own fd⟩
theorem QL.size{w W:zi}{q:Nat}{a:Option Zd}{bs:List Int}{c n g m cg:Nat}{O:List Int}(h:QL w W q a bs c n g m cg O):w.heap.size+2<=W.heap.size:=za2 h.b1
theorem QL.swap{w W:zi}{q:Nat}{a:Option Zd}{bs:List Int}{c n g m cg g' vS:Nat}{O O':List Int}(h:QL w W q a bs c n g m cg O)(hg:w.heap.size+2<=g')(hO:O'.length=m)(hc:m<=vS)(aM:zq6 W g' O'):QL w ((W.setCell ⟨w.heap.size+1,0,none⟩ (ze zd n)).setCell ⟨w.heap.size+1,1,none⟩ (za (some ⟨g',0,none⟩) m vS)) q a bs c n g' m vS O':=by
 obtain⟨p,hr⟩:=h.r;obtain⟨p0,cO⟩:=h.r0;have bh:∀k,some (w.heap.size+1)=some k->w.heap.size<=k:=fun k e=>by injection e with e;omega
 have g1:=zb3 W (w.heap.size+1) 0 (ze zd n);have g2:=zb3 (W.setCell ⟨w.heap.size+1,0,none⟩ (ze zd n)) (w.heap.size+1) 1 (za (some ⟨g',0,none⟩) m vS);refine⟨zd2 (zd2 h.gr g1 bh) g2 bh,h.r0,⟨p,RD.kept2 cO (RD.kept2 cO hr g1 bh) g2 bh⟩,?_,?_,⟨hg,hO,hc⟩,(aM.other g1 (fun e=>by injection e with e;omega)).other g2 (fun e=>by injection e with e;omega)⟩
 ·rw[xy _ _ _ _ (by simp),xy _ _ _ _ (by simp)];exact h.b0
 ·have:=xb _ (w.heap.size+1) 1 _ _ (za (some ⟨g',0,none⟩) m vS) (xb W (w.heap.size+1) 0 _ _ (ze zd n) h.b1)
  simpa using this
def yw6(w:zi)(q:Nat)(a:Option Zd)(bs:List Int)(c n:Nat)(e:Ending)(w':zi):Prop:=∃(g cg:Nat) (zs:List Int),e=.returned (.agg #[ze zd n,za (some ⟨g,0,none⟩) zs.length cg])/\zs.length=n*n/\zs.length<=cg/\w.heap.size<=g/\w.grownBy w' (some q)/\(∃p,RD w' q a bs c p)/\zq6 w' g zs
theorem y44:(Tryz.prog.info? 26).map (·.size)=some 2:=by kernel_rfl
theorem QL.done{w W:zi}{q:Nat}{a:Option Zd}{bs:List Int}{c n g m cg:Nat}{O:List Int}(h:QL w W q a bs c n g m cg O)(hm:n*n=m)(A:Act)(hp:A.tmps.getD 4 undef=.pointer (some ⟨w.heap.size,0,none⟩))(uu:A.defers=[]):
 bodyPost zh Tryz.f67 (yw6 w q a bs c n) Exit.ret A ((W.setCell ⟨w.heap.size,0,none⟩ (ze zd n)).setCell ⟨w.heap.size,1,none⟩ (za (some ⟨g,0,none⟩) m cg)):=by
 have DQ:=h.hg.1;obtain⟨p,hr⟩:=h.r;obtain⟨p0,cO⟩:=h.r0;have bh:∀k,some w.heap.size=some k->w.heap.size<=k:=fun k e=>by injection e with e;omega
 have g1:=zb3 W w.heap.size 0 (ze zd n);have g2:=zb3 (W.setCell ⟨w.heap.size,0,none⟩ (ze zd n)) w.heap.size 1 (za (some ⟨g,0,none⟩) m cg);have aM:((W.setCell ⟨w.heap.size,0,none⟩ (ze zd n)).setCell ⟨w.heap.size,1,none⟩ (za (some ⟨g,0,none⟩) m cg)).heap[w.heap.size]? =some (zg #[ze zd n,za (some ⟨g,0,none⟩) m cg] 26 (0,0)):=by
  have:=xb _ w.heap.size 1 _ _ (za (some ⟨g,0,none⟩) m cg) (xb W w.heap.size 0 _ _ (ze zd n) h.b0);simpa using this
 refine xe (v:=.agg #[ze zd n,za (some ⟨g,0,none⟩) m cg]) (results_cell_row Tryz.results67 _ _ w.heap.size 26 _ (0,0) _ hp aM Tryz.underlying26 rfl y44) uu ⟨g,cg,O,by rw[h.hg.2.1],by rw[h.hg.2.1,hm],by rw[h.hg.2.1];exact h.hg.2.2,by omega,zd2 (zd2 h.gr g1 bh) g2 bh,⟨p,RD.kept2 cO (RD.kept2 cO hr g1 bh) g2 bh⟩,(h.o.other g1 (fun e=>by injection e with e;omega)).other g2 (fun e=>by injection e with e;omega)⟩
def y29(n:Nat)(O:List Int):Prop:=∀i,i<O.length->0<=O.getD i 0/\O.getD i 0<=29/\(i / n=i % n->O.getD i 0=0)
theorem yr9{n:Nat}{O:List Int}{x:Int}(h:y29 n O)(h0:0<=x)(h1:x<=29)(h2:O.length / n=O.length % n->x=0):y29 n (O++[x]):=by
 intro i hi;rw[xY]at hi;by_cases e:i=O.length
 ·have:(O++[x]).getD i 0=x:=by rw[e];simp[zy]
  rw[this,e];exact⟨h0,h1,h2⟩
 ·have rG:i<O.length:=by simp at hi;omega
  have:(O++[x]).getD i 0=O.getD i 0:=by simp[zy,yE rG]
  rw[this];exact h i rG
theorem yv5{n:Nat}{O:List Int}(h1:1<=n)(h9:n<=9)(hl:O.length=n*n)(h:y29 n O):zq9 n O=true:=by
 unfold zq9;refine zW ⟨by omega,by omega,by rw[hl];simp,fun i hi=> ?_⟩;have:=h i hi;refine⟨this.1,by omega,fun e=>this.2.2 (by simpa using e)⟩
theorem yu0{n x y:Nat}(hx:x<n)(hy:y<n):x*n+y<n*n:=by
 have h:(x+1)*n<=n*n:=yK n hx;rw[yT,Nat.one_mul]at h;omega
theorem yF8{y n x q m:Nat}(h:(y:Int)*(n:Int)=((q:Nat):Int))(hq:q+x<m)(hm:m<=81):wrap64 ((y:Int)*(n:Int))=(q:Int)/\IntKind.i64.wrap ((y:Int)*(n:Int))=(q:Int)/\wrap64 ((q:Int)+(x:Int))=(q:Int)+(x:Int)/\IntKind.i64.wrap ((q:Int)+(x:Int))=(q:Int)+(x:Int)/\0<=(q:Int)+(x:Int)/\(q:Int)+(x:Int)<(m:Int)/\((q:Int)+(x:Int)).toNat=q+x:=by
 rw[h];exact⟨by unfold wrap64;omega,xz _ (by omega),by unfold wrap64;omega,xz _ (by omega),by omega,by omega,by omega⟩
theorem yu6{n x y:Nat}{O:List Int}(h:y29 n O)(hl:O.length=n*n)(Fu:y<x)(hx:x<n):y29 n (O.set (y*n+x) (O.getD (x*n+y) 0)):=by
 have h1:x*n+y<O.length:=by rw[hl];exact yu0 hx (by omega)
 have h2:y*n+x<O.length:=by rw[hl];exact yu0 (by omega) hx
 obtain⟨d1,d2⟩:=zz1 n y x hx;intro j hj;rw[List.length_set]at hj;by_cases e:y*n+x=j
 ·subst e
  have:(O.set (y*n+x) (O.getD (x*n+y) 0)).getD (y*n+x) 0=O.getD (x*n+y) 0:=by simp[zy,h2]
  rw[this,d1,d2];have:=h (x*n+y) h1;exact⟨this.1,this.2.1,fun e=>by omega⟩
 ·have:(O.set (y*n+x) (O.getD (x*n+y) 0)).getD j 0=O.getD j 0:=by simp[zy,e]
  rw[this];exact h j hj
theorem y13{p:Prop}(h:p):Zb p:=h
set_option maxRecDepth 10000 in
theorem yn5(q p c n:Nat)(a:Option Zd)(bs:List Int)(w:zi)(h:RD w q a bs c p)(aZ:1<=n)(h_:n<=9):
 Zc zh 67 #[.pointer (some ⟨q,0,none⟩),ze zd n] w (yw6 w q a bs c n):=by
 have H:=za4 h;clear h;have M0:Zb (ML w ((w.alloc (zg #[ze zd 0,za none 0 0] 26)).alloc (zg #[ze zd n,za none 0 0] 26)) q a bs c n (za none 0 0) []):=ML.new H.X;have e_:n*n<=81:=Nat.mul_le_mul h_ h_;have Cn:1<=n*n:=Nat.mul_le_mul aZ aZ;have lL:(n:Int)*(n:Int)=((n*n:Nat):Int):=by simp
 obtain⟨m,HM⟩:=nmd (n*n);rw[HM.X]at e_ Cn lL;have iR:wrap64 ((n:Int)*(n:Int))=(m:Int):=by rw[lL];unfold wrap64;omega
 clear lL;go_enter Tryz.func67,Tryz.ntmps67
 go_wp2_with fail
 go_loopw[6,7] (fun t _ wr=>∃(i:Nat) (ov:Value) (O:List Int),O.length=i/\i<=m/\t=ze zd i/\y29 n O/\ML w wr q a bs c n ov O) (fun t _ _=>m - (intOf t).toNat)
 case atStart=>exact⟨0,_,[],rfl,xi _,rfl,fun i hi=>by simp at hi,M0.X⟩
 case round=>
  clear M0;obtain⟨i,ov,O,hO,hi,rfl,rU,lA⟩:=hrel;have M1:Zb _:=lA;have HO:=za4 hO;have mT:=za4 rU;clear lA hO rU;obtain⟨p2,ix⟩:=M1.r;have R2:=za4 ix;clear ix;by_cases ah:i<m
  ·have dX:IntKind.i64.wrap ((i:Int) / (n:Int))=(i:Int) / (n:Int):=by
    rw[xu,<-Int.natCast_ediv];have hq:=Nat.div_le_self i n;generalize i / n=q at hq;omega
   have oM:(i:Int).tmod (n:Int)=(i:Int) % (n:Int):=Int.tmod_eq_emod_of_nonneg (by omega);have HW:=y13 (xr dX oM);clear dX oM
   go_wp2_with fail
   refine(zc5 q p2 c 30 a bs wr R2.X (by omega)).mono ?_;rintro e w3 ⟨y,p3,rfl,bX,cD,hr,hg⟩;have M3:Zb _:=M1.read hr hg;have Gl:y<=29:=by omega
   clear hr hg M1 R2 cD;have o9:Zb (∀(W:zi) (x:Int),ML w W q a bs c n ov O->0<=x->x<=29->(i / n=i % n->x=0)->W.cell? ⟨w.heap.size+1,1,none⟩=some ov/\(∀(v':Value) (w4:zi),w4.ownsRow (w.heap.size+2) 2 1 v' (i+1) ((O++[x]).map (ze zd))->(W.alloc (zg #[ze zd x] 2)).grownBy w4 ov.ownBlock->w4.cell? ⟨w.heap.size+1,1,none⟩=some ov/\w4.frozen? ⟨w.heap.size+1,1,none⟩=false/\ML w (w4.setCell ⟨w.heap.size+1,1,none⟩ v') q a bs c n v' (O++[x])/\y29 n (O++[x]))):=by
    intro W x hM h0 h1 h2;refine⟨(za1 hM.b1).2,fun v' w4 ae hg=> ?_⟩;have gj:=za6 hg ((xg W (zg #[ze zd x] 2) (za2 hM.b1)).trans hM.b1) (fun e=>by have:=(hM.o.lt _ e.symm).1;omega);exact⟨(za1 gj).2,yZ _ _ 1 _ _ gj,hM.put (by rw[xY,HO.X];exact ae) hg,yr9 mT.X h0 h1 (by rw[HO.X];exact h2)⟩
   by_cases hdg:i / n=i % n
   ·have rF:((i:Int) / (n:Int)==(i:Int) % (n:Int))=true:=by simp;omega
    clear hdg;obtain⟨dX,oM⟩:=HW.X;go_wp2
    go_quiet (fail)
    clear dX oM rF;have M4:Zb _:=M3.below (xC (y5 _ _) nq);generalize w3.drewN nq=W4 at*;obtain⟨cv,bB⟩:=o9.X W4 0 M4.X (by omega) (by omega) (fun _=>rfl);have dD:Zb _:=bB;clear bB o9 M3 bX Gl
    go_wp2_with(
     at_builtin;refine zc9 _ rfl (.tmp 29) (.tmp 31) rfl (w.heap.size+2) _ i O rfl (by have:=M4.o;rw[HO.X]at this;exact this.alloc _) W4.heap.size 0 1 1 [0] rfl rfl (ze2 W4 0) (by omega) (by omega) (xj M4.size (by simp)) ?_;intro v' w4 ae hg bd aX;obtain⟨g',c',rfl,-⟩:=zo1 ae;obtain⟨c4,f4,m4,d4⟩:=dD.X _ w4 ae hg;have M5:Zb _:=m4;have D5:=za4 d4;clear ae hg bd aX m4 d4)
    go_roundw
    case rel=>exact⟨i+1,_,O++[0],by rw[xY,HO.X];rfl,by omega,by first|rfl|go_num,D5.X,M5.X⟩
    case measure=>simp[intOf];omega
   ·have rF:((i:Int) / (n:Int)==(i:Int) % (n:Int))=false:=by simp;omega
    have MG:=za4 hdg;clear hdg;obtain⟨dX,oM⟩:=HW.X;go_wp2
    go_quiet (fail)
    clear dX oM rF;have M4:Zb _:=M3.below (xC (y5 _ _) nq);generalize w3.drewN nq=W4 at*;obtain⟨cv,bB⟩:=o9.X W4 y M4.X bX Gl (fun h=>absurd h MG.X);have dD:Zb _:=bB;clear bB o9 M3 bX Gl
    go_wp2_with(
     at_builtin;refine zc9 _ rfl (.tmp 29) (.tmp 31) rfl (w.heap.size+2) _ i O rfl (by have:=M4.o;rw[HO.X]at this;exact this.alloc _) W4.heap.size 0 1 1 [y] rfl rfl (ze2 W4 y) (by omega) (by omega) (xj M4.size (by simp)) ?_;intro v' w4 ae hg bd aX;obtain⟨g',c',rfl,-⟩:=zo1 ae;obtain⟨c4,f4,m4,d4⟩:=dD.X _ w4 ae hg;have M5:Zb _:=m4;have D5:=za4 d4;clear ae hg bd aX m4 d4)
    go_roundw
    case rel=>exact⟨i+1,_,O++[y],by rw[xY,HO.X];rfl,by omega,by first|rfl|go_num,D5.X,M5.X⟩
    case measure=>simp[intOf];omega
  ·have tr:i=m:=by omega
   subst tr;clear ah hi;obtain⟨g,cg,rfl⟩:∃g cg,ov=za (some ⟨g,0,none⟩) i cg:=by
    have ho:=M1.o;rw[HO.X]at ho;rcases zm3 ho with e|e
    ·obtain⟨_,⟨_,h3⟩|⟨g,ac,az,h2,_⟩⟩:=ho
     ·omega
     ·exact⟨g,ac,h2⟩
    ·exact e
   have Q1:Zb _:=M1.toQ HO.X;clear M1
   go_wp2_with fail
   refine(zk6 q p2 c 2 a bs wr R2.X (by omega) (by omega)).mono ?_;rintro e w3 ⟨v,p3,rfl,hr,hg⟩;have Q3:Zb _:=Q1.read hr hg;have R3:=za4 hr;clear hr hg Q1 R2;cases v
   ·go_wp2_with fail
    refine(zk6 q p3 c 3 a bs w3 R3.X (by omega) (by omega)).mono ?_;rintro e w4 ⟨v,p4,rfl,hr,hg⟩;have Q4:Zb _:=Q3.read hr hg;have R4:=za4 hr;clear hr hg;cases v
    ·go_wp2_with fail
     refine(zk6 q p4 c 40 a bs w4 R4.X (by omega) (by omega)).mono ?_;rintro e w5 ⟨v,p5,rfl,hr,hg⟩;have Q5:Zb _:=Q4.read hr hg;have R5:Zb (RD w5.drew q a bs c p5):=hr.below (y5 _ _).drew;clear hr hg;obtain⟨fy,uR⟩:=za1 Q5.b1;cases v
     ·obtain⟨FZ,E5⟩:=za1 Q5.b0
      have f0:=fun k=>yZ _ _ k _ _ Q5.b0;go_wp2;exact Q5.done HM.X _ (by rfl) (by rfl)
     ·go_wp2_with fail
      go_region_with (first
       |(go_at_call 31
         with_reducible refine(zc5 q p5 c (i:Nat) a bs w5.drew R5.X (by omega)).mono ?_
         rintro e wa ⟨xa,pa,rfl,dp,ci,hr,hg⟩;obtain⟨xa,rfl⟩:=xp dp;have sg:xa<i:=by omega
         have QA:Zb _:=(Q5.below (y5 _ _).drew).read hr hg;have RA:=za4 hr;obtain⟨G9,Ee⟩:=za1 QA.b1;clear hr hg dp ci)
       |(go_at_call 30
         with_reducible refine(zn5 q pa c 0 10000 a bs wa RA.X (by omega) (by omega) (by omega) (by omega)).mono ?_
         rintro e wb ⟨zb,pb,rfl,bR,ba,hr,hg⟩;have QB:Zb _:=QA.read hr hg;obtain⟨FI,mB⟩:=za1 QB.b1;have cx:wb.cell? ⟨g,xa,none⟩=some (ze zd (O.getD xa 0)):=by
          obtain⟨_,_,e,h⟩:=QB.o.ints xa (by rw[HO.X];exact sg);simp at e;obtain⟨rfl,rfl⟩:=e;rw[yb]at h;exact h
         have fx:=QB.o.frozen xa;have QC:Zb _:=QB.set xa zb;clear hr hg))
      all_goals
       generalize wb.setCell ⟨g,xa,none⟩ _=WC at*;obtain⟨FU,Gf⟩:=za1 QC.b1;obtain⟨Fm,EB⟩:=za1 QC.b0;have f0:=fun k=>yZ _ _ k _ _ QC.b0;go_wp2;exact QC.done HM.X _ (by rfl) (by rfl)
    ·obtain⟨Mg,Pt⟩:=za1 Q4.b1
     have Eu:Zb _:=yv5 aZ h_ (HO.trans HM.symm) mT.X;have jO:Zb (Zc zh 110 #[.agg #[ze zd n,za (some ⟨g,0,none⟩) i cg]] w4 fun e w'=>∃g c r,w4.heap.size<=g/\e=.returned (.agg #[ze zd n,za (some ⟨g,0,none⟩) i c])/\i<=c/\Za w4.heap.size w4 w'/\w'.heap[g]? =some (.cells (cellsOf (clo n O++r)) 2 (0,0))):=by
      have:=z04 n (some ⟨g,0,none⟩) cg O w4 Q4.o.ints Eu.X;rw[HO.X,HM.X]at this;exact this
     go_wp2_with fail
     refine jO.mono ?_;rintro e w6 ⟨g6,c6,r6,rY,rfl,AO,iy,i9⟩;have tH:Zb ((clo n O).length=i):=by show _=_;unfold clo;rw[zr7];exact HO.X
     have Q6:Zb _:=Q4.below iy;obtain⟨LJ,Nk⟩:=za1 Q6.b1;have lf:=fun k=>yZ _ _ k _ _ Q6.b1;have Q7:Zb _:=Q6.swap (xj Q4.size rY) tH.X AO (zq6.of_cells i9);obtain⟨p7,wN⟩:=Q7.r;have R7:=za4 wN;clear wN rY AO iy i9 jO Q6;obtain⟨O7,uA⟩:=nmd (clo n O);rw[uA.X]at tH Q7
     go_wp2_with fail
     refine(zk6 q p7 c 40 a bs _ R7.X (by omega) (by omega)).mono ?_;rintro e w5 ⟨v,p5,rfl,hr,hg⟩;have Q5:Zb _:=Q7.read hr hg;have R5:Zb (RD w5.drew q a bs c p5):=hr.below (y5 _ _).drew;clear hr hg;obtain⟨fy,uR⟩:=za1 Q5.b1;cases v
     ·obtain⟨FZ,E5⟩:=za1 Q5.b0
      have f0:=fun k=>yZ _ _ k _ _ Q5.b0;go_wp2;exact Q5.done HM.X _ (by rfl) (by rfl)
     ·go_wp2_with fail
      go_region_with (first
       |(go_at_call 31
         with_reducible refine(zc5 q p5 c (i:Nat) a bs w5.drew R5.X (by omega)).mono ?_
         rintro e wa ⟨xa,pa,rfl,dp,ci,hr,hg⟩;obtain⟨xa,rfl⟩:=xp dp;have sg:xa<i:=by omega
         have QA:Zb _:=(Q5.below (y5 _ _).drew).read hr hg;have RA:=za4 hr;obtain⟨G9,Ee⟩:=za1 QA.b1;clear hr hg dp ci)
       |(go_at_call 30
         with_reducible refine(zn5 q pa c 0 10000 a bs wa RA.X (by omega) (by omega) (by omega) (by omega)).mono ?_
         rintro e wb ⟨zb,pb,rfl,bR,ba,hr,hg⟩;have QB:Zb _:=QA.read hr hg;obtain⟨FI,mB⟩:=za1 QB.b1;have cx:wb.cell? ⟨g6,xa,none⟩=some (ze zd (O7.getD xa 0)):=by
          obtain⟨_,_,e,h⟩:=QB.o.ints xa (by rw[tH.X];exact sg);simp at e;obtain⟨rfl,rfl⟩:=e;rw[yb]at h;exact h
         have fx:=QB.o.frozen xa;have QC:Zb _:=QB.set xa zb;clear hr hg))
      all_goals
       generalize wb.setCell ⟨g6,xa,none⟩ _=WC at*;obtain⟨FU,Gf⟩:=za1 QC.b1;obtain⟨Fm,EB⟩:=za1 QC.b0;have f0:=fun k=>yZ _ _ k _ _ QC.b0;go_wp2;exact QC.done HM.X _ (by rfl) (by rfl)
   ·go_wp2_with fail
    go_loopw[8,9] (fun t _ wr=>∃(x:Nat) (O:List Int),O.length=i/\x<=n/\t=ze zd x/\y29 n O/\QL w wr q a bs c n g i cg O) (fun t _ _=>n - (intOf t).toNat)
    case atStart=>exact⟨0,O,HO.X,xi _,rfl,mT.X,Q3.X⟩
    case round=>
     clear Q3 R3 HO mT;obtain⟨x,O,hO,hx,rfl,rU,vw⟩:=hrel;have Q3:Zb _:=vw;have HO:=za4 hO;have mT:=za4 rU;clear vw hO rU;by_cases tz:x<n
     ·go_wp2_with fail
      go_loopw[9] (fun t wr=>∃(y:Nat) (O:List Int),O.length=i/\y<=x/\t=ze zd y/\y29 n O/\QL w wr q a bs c n g i cg O) (fun t _=>x - (intOf t).toNat)
      case atStart=>exact⟨0,O,HO.X,xi _,rfl,mT.X,Q3.X⟩
      case round=>
       clear Q3 HO mT;obtain⟨y,O,hO,hy,rfl,rU,vw⟩:=hrel;have Q3:Zb _:=vw;have HO:=za4 hO;have mT:=za4 rU;clear vw hO rU;by_cases Fu:y<x
       ·have Cg:=yu0 (show y<n by omega) tz
        rw[HM.X]at Cg;have vY:Zb (y29 n (O.set (y*n+x) (O.getD (x*n+y) 0))):=yu6 mT.X (HO.trans HM.symm) Fu tz;have cL:(y:Int)*(n:Int)=((y*n:Nat):Int):=by simp
        obtain⟨yn,Nc⟩:=nmd (y*n);rw[Nc.X]at Cg vY cL;obtain⟨v,HV⟩:=nmd (O.getD (x*n+y) 0);rw[HV.X]at vY;have HC:∀s:Kin wr,Zc zh 109 #[.agg #[ze zd n,za (some ⟨g,0,none⟩) i cg],ze zd x,ze zd y] s.w fun e w'=>e=.returned (ze zd v)/\Za s.w.heap.size s.w w':=fun s=>by
         have:=z74 n x y (some ⟨g,0,none⟩) i cg O s.w (by omega) tz (by omega) (HO.trans HM.symm) HM.symm (Q3.o.ints.below s.below);rw[HV.X]at this;exact this
        obtain⟨fy,uR⟩:=za1 Q3.b1;have e1:=fun s:Kin wr=>s.cell fy;have e2:=fun s:Kin wr=>s.cell uR;have aV:=Kin.there wr;have HW:=y13 (yF8 cL Cg e_)
        go_wp2_with fail
        obtain⟨a1,a2,a3,a4,a5,a6,a7⟩:=HW.X;refine zm5 12 (by kernel_rfl) (by kernel_rfl) ?_;simp only[List.take_succ_cons,List.take_zero,List.drop_succ_cons,List.drop_zero]
        repeat(go_big_quiet_step ((go_at_call 109;exact Kin.call (HC _))))
        refine xA ?_;rintro _ ⟨s,rfl⟩;have Q4:Zb _:=Q3.below s.below;clear e1 e2 aV HC fy uR a1 a2 a3 a4;generalize s.w=w2 at*;have cx:w2.cell? ⟨g,yn+x,none⟩=some (ze zd (O.getD (yn+x) 0)):=by
         obtain⟨_,_,e,h⟩:=Q4.o.ints (yn+x) (by rw[HO.X];exact Cg);simp at e;obtain⟨rfl,rfl⟩:=e;rw[yb]at h;exact h
        have fx:=Q4.o.frozen (yn+x);obtain⟨cv,Dy⟩:=nmd (O.getD (yn+x) 0);rw[Dy.X]at cx;have Q5:Zb _:=Q4.set (yn+x) v;go_wp2;refine⟨⟨y+1,O.set (yn+x) v,by rw[List.length_set];exact HO.X,by omega,by go_num,vY.X,Q5.X⟩,by simp[intOf];omega⟩
       ·go_wp2
        refine⟨⟨x+1,O,HO.X,by omega,by go_num,mT.X,Q3.X⟩,by simp[intOf];omega⟩
     ·obtain⟨p3,IB⟩:=Q3.r
      have R3:=za4 IB;clear IB
      go_wp2_with fail
      refine(zk6 q p3 c 3 a bs wr R3.X (by omega) (by omega)).mono ?_;rintro e w4 ⟨v,p4,rfl,hr,hg⟩;have Q4:Zb _:=Q3.read hr hg;have R4:=za4 hr;clear hr hg;cases v
      ·go_wp2_with fail
       refine(zk6 q p4 c 40 a bs w4 R4.X (by omega) (by omega)).mono ?_;rintro e w5 ⟨v,p5,rfl,hr,hg⟩;have Q5:Zb _:=Q4.read hr hg;have R5:Zb (RD w5.drew q a bs c p5):=hr.below (y5 _ _).drew;clear hr hg;obtain⟨fy,uR⟩:=za1 Q5.b1;cases v
       ·obtain⟨FZ,E5⟩:=za1 Q5.b0
        have f0:=fun k=>yZ _ _ k _ _ Q5.b0;go_wp2;exact Q5.done HM.X _ (by rfl) (by rfl)
       ·go_wp2_with fail
        go_region_with (first
         |(go_at_call 31
           with_reducible refine(zc5 q p5 c (i:Nat) a bs w5.drew R5.X (by omega)).mono ?_
           rintro e wa ⟨xa,pa,rfl,dp,ci,hr,hg⟩;obtain⟨xa,rfl⟩:=xp dp;have sg:xa<i:=by omega
           have QA:Zb _:=(Q5.below (y5 _ _).drew).read hr hg;have RA:=za4 hr;obtain⟨G9,Ee⟩:=za1 QA.b1;clear hr hg dp ci)
         |(go_at_call 30
           with_reducible refine(zn5 q pa c 0 10000 a bs wa RA.X (by omega) (by omega) (by omega) (by omega)).mono ?_
           rintro e wb ⟨zb,pb,rfl,bR,ba,hr,hg⟩;have QB:Zb _:=QA.read hr hg;obtain⟨FI,mB⟩:=za1 QB.b1;have cx:wb.cell? ⟨g,xa,none⟩=some (ze zd (O.getD xa 0)):=by
            obtain⟨_,_,e,h⟩:=QB.o.ints xa (by rw[HO.X];exact sg);simp at e;obtain⟨rfl,rfl⟩:=e;rw[yb]at h;exact h
           have fx:=QB.o.frozen xa;have QC:Zb _:=QB.set xa zb;clear hr hg))
        all_goals
         generalize wb.setCell ⟨g,xa,none⟩ _=WC at*;obtain⟨FU,Gf⟩:=za1 QC.b1;obtain⟨Fm,EB⟩:=za1 QC.b0;have f0:=fun k=>yZ _ _ k _ _ QC.b0;go_wp2;exact QC.done HM.X _ (by rfl) (by rfl)
      ·obtain⟨Mg,Pt⟩:=za1 Q4.b1
       have Eu:Zb _:=yv5 aZ h_ (HO.trans HM.symm) mT.X;have jO:Zb (Zc zh 110 #[.agg #[ze zd n,za (some ⟨g,0,none⟩) i cg]] w4 fun e w'=>∃g c r,w4.heap.size<=g/\e=.returned (.agg #[ze zd n,za (some ⟨g,0,none⟩) i c])/\i<=c/\Za w4.heap.size w4 w'/\w'.heap[g]? =some (.cells (cellsOf (clo n O++r)) 2 (0,0))):=by
        have:=z04 n (some ⟨g,0,none⟩) cg O w4 Q4.o.ints Eu.X;rw[HO.X,HM.X]at this;exact this
       go_wp2_with fail
       refine jO.mono ?_;rintro e w6 ⟨g6,c6,r6,rY,rfl,AO,iy,i9⟩;have tH:Zb ((clo n O).length=i):=by show _=_;unfold clo;rw[zr7];exact HO.X
       have Q6:Zb _:=Q4.below iy;obtain⟨LJ,Nk⟩:=za1 Q6.b1;have lf:=fun k=>yZ _ _ k _ _ Q6.b1;have Q7:Zb _:=Q6.swap (xj Q4.size rY) tH.X AO (zq6.of_cells i9);obtain⟨p7,wN⟩:=Q7.r;have R7:=za4 wN;clear wN rY AO iy i9 jO Q6;obtain⟨O7,uA⟩:=nmd (clo n O);rw[uA.X]at tH Q7
       go_wp2_with fail
       refine(zk6 q p7 c 40 a bs _ R7.X (by omega) (by omega)).mono ?_;rintro e w5 ⟨v,p5,rfl,hr,hg⟩;have Q5:Zb _:=Q7.read hr hg;have R5:Zb (RD w5.drew q a bs c p5):=hr.below (y5 _ _).drew;clear hr hg;obtain⟨fy,uR⟩:=za1 Q5.b1;cases v
       ·obtain⟨FZ,E5⟩:=za1 Q5.b0
        have f0:=fun k=>yZ _ _ k _ _ Q5.b0;go_wp2;exact Q5.done HM.X _ (by rfl) (by rfl)
       ·go_wp2_with fail
        go_region_with (first
         |(go_at_call 31
           with_reducible refine(zc5 q p5 c (i:Nat) a bs w5.drew R5.X (by omega)).mono ?_
           rintro e wa ⟨xa,pa,rfl,dp,ci,hr,hg⟩;obtain⟨xa,rfl⟩:=xp dp;have sg:xa<i:=by omega
           have QA:Zb _:=(Q5.below (y5 _ _).drew).read hr hg;have RA:=za4 hr;obtain⟨G9,Ee⟩:=za1 QA.b1;clear hr hg dp ci)
         |(go_at_call 30
           with_reducible refine(zn5 q pa c 0 10000 a bs wa RA.X (by omega) (by omega) (by omega) (by omega)).mono ?_
           rintro e wb ⟨zb,pb,rfl,bR,ba,hr,hg⟩;have QB:Zb _:=QA.read hr hg;obtain⟨FI,mB⟩:=za1 QB.b1;have cx:wb.cell? ⟨g6,xa,none⟩=some (ze zd (O7.getD xa 0)):=by
            obtain⟨_,_,e,h⟩:=QB.o.ints xa (by rw[tH.X];exact sg);simp at e;obtain⟨rfl,rfl⟩:=e;rw[yb]at h;exact h
           have fx:=QB.o.frozen xa;have QC:Zb _:=QB.set xa zb;clear hr hg))
        all_goals
         generalize wb.setCell ⟨g6,xa,none⟩ _=WC at*;obtain⟨FU,Gf⟩:=za1 QC.b1;obtain⟨Fm,EB⟩:=za1 QC.b0;have f0:=fun k=>yZ _ _ k _ _ QC.b0;go_wp2;exact QC.done HM.X _ (by rfl) (by rfl)
theorem zg0{W W':zi}{g q:Nat}{xs:List Int}(h:za3 W (some ⟨g,0,none⟩) xs)(hg:W.grownBy W' (some q))(aq:g≠q):za3 W' (some ⟨g,0,none⟩) xs:=by
 intro j hj;obtain⟨b,off,e,hc⟩:=h j hj;simp at e;obtain⟨rfl,rfl⟩:=e;exact⟨g,0,rfl,hg.cell hc (fun e=>by injection e with e;exact aq e)⟩
theorem yB9(ids:List Int)(i:Nat)(id:Int):(ids.take i++[id])++ids.drop i=insL ids i id:=by simp[insL]
theorem zp1(n fine ab:Int)(a ao av:Option Zd)(b off:Nat)(ac ko co kv cv c2:Nat)(zs os vs ids:List Int)(w:zi)(hA:za3 w a zs)(hO:za3 w ao os)(hV:za3 w av vs)(hI:za3 w (some ⟨b,off,none⟩) ids)(an:os.length=ko*6)(au:vs.length=kv*5)(aA:ko<=9223372036854775807)(aB:kv<=9223372036854775807)(eX:ids.length<=9223372036854775807)(cw:ids.length<=c2)(id x:Int)(ch:Bool)(gm:chB (zd0 n zs os vs ko kv fine) n zs os vs ko kv ab ids (inB x 0 (ids.length:Int)) (insL ids x.toNat id)=ch)(D:Int)(hD:chD ch n zs os vs ko kv ab ids (insL ids x.toNat id)=D)(xs:List Int)(jA:chL ch (insL ids x.toNat id)=xs):
 Zc zh 71 #[.agg #[ze zd n,za a zs.length ac,za ao ko co,za av kv cv,ze zd fine],.agg #[ze zd ab,za (some ⟨b,off,none⟩) ids.length c2],ze zd id,ze zd x] w (ye5 w ch ab D xs):=by
 have HA:=za4 hA;have HO:=za4 hO;have HV:=za4 hV;have HI:=za4 hI;have aF:Zb _:=an;have aE:Zb _:=au;clear hA hO hV hI an au;have iD:Zb _:=gm;have HD:Zb _:=hD;have iB:Zb _:=jA;clear gm hD jA;have C0:Zb (CRR w (((w.alloc (zg #[ze zd n,za a zs.length ac,za ao ko co,za av kv cv,ze zd fine] 30)).alloc (zg #[ze zd ab,za (some ⟨b,off,none⟩) ids.length c2] 80)).alloc (zg #[ze zd 0,za none 0 0] 80)) _ _ _):=CRR.new w _ _ _;obtain⟨o1,fq⟩:=nmd (decide (codeV (zd0 n zs os vs ko kv fine) n zs os vs ko kv ab ids=0));obtain⟨v1,cm⟩:=nmd (inB x 0 (ids.length:Int));go_enter Tryz.func71,Tryz.ntmps71;obtain⟨c0,c1,bZ,c3,c4⟩:=za7 C0.X.1.2.1;obtain⟨d0,d1⟩:=za1 C0.X.1.2.2
 go_wp2_with fail
 clear c0 c1 bZ c3 c4 d0 d1;refine(z38 n fine ab a ao av (some ⟨b,off,none⟩) ac ko co kv cv c2 zs os vs ids _ (HA.X.below C0.X.b) (HO.X.below C0.X.b) (HV.X.below C0.X.b) (HI.X.below C0.X.b) aF.X aE.X aA aB eX cw o1 fq.X).mono ?_;rintro e w1 ⟨rfl,hb⟩;have C1:=za4 (C0.X.below hb);clear hb C0;cases o1
 ·have bL:Zb (ch=false):=iD.X.symm.trans (yg9 (of_decide_eq_false fq.X) _ _)
  have HX:Zb (xs=[]):=iB.X.symm.trans (by rw[bL.X];rfl);have bk:Zb (D=0):=HD.X.symm.trans (by rw[bL.X];rfl);obtain⟨t0,t1⟩:=za1 C1.X.2;have tf:=fun i=>yZ _ _ i _ _ C1.X.2;go_wp2;refine xe (v:=.tuple #[.agg #[ze zd 0,za none 0 0],ze zd 0,.bool false]) (by simp[results,qE,go_sem,t0,t1]) rfl ⟨?_,none,0,?_,?_⟩
  ·repeat(first|with_reducible exact C1.X.b|refine xq ?_ (by simp<;>omega) _)
  ·rw[bL.X,bk.X,HX.X];rfl
  ·rw[HX.X];exact xZ _ _ _ _
 ·have ba:=zZ fq.X
  have l9:Zb _:=ba;have bJ:=zk2 ba;clear ba;obtain⟨d0,d1⟩:=za1 C1.X.1.2.2;cases v1
  ·have bL:Zb (ch=false):=iD.X.symm.trans (ye1 cm.X _)
   have HX:Zb (xs=[]):=iB.X.symm.trans (by rw[bL.X];rfl);have bk:Zb (D=0):=HD.X.symm.trans (by rw[bL.X];rfl);obtain⟨t0,t1⟩:=za1 C1.X.2;have tf:=fun i=>yZ _ _ i _ _ C1.X.2
   go_wp2_with(first|(go_at_call 39;refine(zc0 x 0 (ids.length:Int) w1).mono ?_;rintro e Ao ⟨rfl,rfl⟩;rw[cm.X]))
   refine xe (v:=.tuple #[.agg #[ze zd 0,za none 0 0],ze zd 0,.bool false]) (by simp[results,qE,go_sem,t0,t1]) rfl ⟨?_,none,0,?_,?_⟩
   ·repeat(first|with_reducible exact C1.X.b|refine xq ?_ (by simp<;>omega) _)
   ·rw[bL.X,bk.X,HX.X];rfl
   ·rw[HX.X];exact xZ _ _ _ _
  ·have h1:=zc8 cm.X
   obtain⟨i,rfl⟩:∃i:Nat,x=i:=⟨x.toNat,by omega⟩;have hi:i<=ids.length:=by omega
   rw[show((i:Int)).toNat=i by omega]at iD HD iB
   go_wp2_with(first|(go_at_call 39;refine(zc0 i 0 (ids.length:Int) w1).mono ?_;rintro e Ao ⟨rfl,rfl⟩;rw[cm.X]))
   generalize Ao=w1 at*;rename_i Kx hKx;have kE:(ids.take i).length=i:=by simp;omega
   have dQ:Zb _:=kE;clear kE
   have key:∀(gb g cg kb:Nat) (W:zi),OX w W w1.heap.size kb #[ze zd n,za a zs.length ac,za ao ko co,za av kv cv,ze zd fine] #[ze zd ab,za (some ⟨b,off,none⟩) ids.length c2] #[ze zd 0,za none 0 0] ab (za (some ⟨g,0,none⟩) i cg) (ids.take i)->Kx {tmps:=#[.agg #[ze zd n,za a zs.length ac,za ao ko co,za av kv cv,ze zd fine],.agg #[ze zd ab,za (some ⟨b,off,none⟩) ids.length c2],ze zd id,ze zd (i:Int),.pointer (some ⟨w.heap.size,0,none⟩),.pointer (some ⟨w.heap.size+1,0,none⟩),undef,undef,.pointer (some ⟨w.heap.size+1+1,0,none⟩),ze zd 0,.bool false,.pointer (some ⟨kb,0,none⟩),.agg #[ze zd n,za a zs.length ac,za ao ko co,za av kv cv,ze zd fine],.agg #[ze zd ab,za (some ⟨b,off,none⟩) ids.length c2],.bool true,.bool false,.bool false,ze zd (i:Int),.pointer (some ⟨w.heap.size+1,1,none⟩),za (some ⟨b,off,none⟩) ids.length c2,ze zd (ids.length:Int),.bool true,.bool false,.bool false,undef,.pointer (some ⟨w.heap.size+1,0,none⟩),ze zd ab,za (some ⟨gb,0,none⟩) 0 0,.pointer (some ⟨w.heap.size+1,1,none⟩),za (some ⟨b,off,none⟩) ids.length c2,ze zd (i:Int),za (some ⟨b,off,none⟩) i c2,za (some ⟨g,0,none⟩) i cg,.agg #[ze zd ab,za (some ⟨g,0,none⟩) i cg],undef,undef,undef,undef,undef,undef,undef,undef,undef,undef,undef,undef,undef,undef,undef,undef,undef,undef,undef,undef,undef,undef,undef,undef,undef,undef,undef],defers:=[]} W:=by
    intro gb g cg kb W hT;have T0:=za4 hT;clear hT d0 d1 C1;apply hKx;clear hKx;obtain⟨e0,e1⟩:=za1 T0.X.2.1;obtain⟨d0,d1⟩:=za1 T0.X.c.1.2.2;have ef:=fun i=>yZ _ _ i _ _ T0.X.2.1;have eA:(W.alloc (zg #[ze zd id] 2)).heap[W.heap.size]? =some (zg #[ze zd id] 2 (0,0)):=zS _ _;have TA:Zb (OX w (W.alloc (zg #[ze zd id] 2)) w1.heap.size kb _ _ _ ab (za (some ⟨g,0,none⟩) i cg) (ids.take i)):=T0.X.below (zP _)
    go_wp2_with(first
     |(at_builtin
       refine zF1 _ rfl _ _ rfl w1.heap.size (za (some ⟨g,0,none⟩) i cg) i (ids.take i) rfl (y28 TA.X.o dQ.X) W.heap.size 1 id rfl (zU _ _ 0 _ _ _ eA) (by omega) TA.X.size ?_;intro v' w2 ho hg hn;obtain⟨g1,fj,rfl⟩:∃g cg,v'=za (some ⟨g,0,none⟩) (i+1) cg:=zB0 ho (fun e=>by simpa using(hn.1 e).1) rfl;have T1:Zb (OX w (w2.setCell ⟨kb,1,none⟩ (za (some ⟨g1,0,none⟩) (i+1) fj)) w1.heap.size kb _ _ _ ab (za (some ⟨g1,0,none⟩) (i+1) fj) (ids.take i++[id])):=TA.X.grow hg (zD0 ho dQ.X rfl);obtain⟨kS,f1,ff⟩:=TA.X.keep hg;clear ho hg hn e0 e1 ef))
    clear kS f1 ff eA TA T0 d0 d1;generalize(w2.setCell ⟨kb,1,none⟩ _)=W1 at*;have AZ:(ids.take i++[id]).length=i+1:=by rw[xY,dQ.X];rfl
    obtain⟨e0,e1⟩:=za1 T1.X.2.1;obtain⟨d0,d1⟩:=za1 T1.X.c.1.2.2;have ef:=fun i=>yZ _ _ i _ _ T1.X.2.1;have sn:(0:Int)<=(i:Int):=by omega
    have jJ:(i:Int)<=(ids.length:Int):=by omega
    have MQ:(ids.length:Int)<=(c2:Int):=by omega
    have IW:=za4 (HI.X.below T1.X.b);have aq:w.heap.size+1≠kb:=by have:=T1.X.2.2.1;have:=T1.X.2.2.2.1;omega
    go_region_law ((first
     |(refine z08 rfl (.tmp 41) (.tmp 45) rfl w1.heap.size (za (some ⟨g1,0,none⟩) (i+1) fj) (ids.take i++[id]) (i+1) rfl (y28 T1.X.drew.o AZ) _ _ _ (ids.drop i) rfl (yl7 _ _ _ _) (by simp) (yj6 (IW.X.below (y5 _ _).drew) _ _ cw) (by omega) (by omega) T1.X.drew.size ?_
       intro v' w2 ho hg hn;obtain⟨g2,kP,rfl⟩:∃g cg,v'=za (some ⟨g,0,none⟩) (insL ids i id).length cg:=zB0 ho (fun e=>by simpa using(hn.1 e).1) (by rw[zr2 id hi];omega);have fd:=zD0 ho AZ (by simp);rw[yB9]at fd;have T2:Zb (OX w (w2.setCell ⟨kb,1,none⟩ (za (some ⟨g2,0,none⟩) (insL ids i id).length kP)) w1.heap.size kb _ _ _ ab (za (some ⟨g2,0,none⟩) (insL ids i id).length kP) (insL ids i id)):=T1.X.drew.grow hg fd;obtain⟨kS,f1,ff⟩:=T1.X.drew.keep hg;clear ho hg hn fd)))
    all_goals
     clear kS f1 ff e0 e1 d0 d1 ef sn jJ MQ T1 IW;generalize(if c2=i then some (⟨b,off,none⟩:Zd)else some ⟨b,off+i,none⟩)=adx at*;generalize(w2.setCell ⟨kb,1,none⟩ _)=W2 at*;generalize insL ids i id=aK at*;obtain⟨o2,ee⟩:=nmd (decide (codeV (zd0 n zs os vs ko kv fine) n zs os vs ko kv ab aK=0));obtain⟨sF,j6⟩:=y10 T2.X.o;obtain⟨c0,c1,bZ,c3,c4⟩:=za7 T2.X.c.1.2.1;obtain⟨e0,e1⟩:=za1 T2.X.2.1
     go_wp2_with fail
     clear c0 c1 bZ c3 c4 e0 e1;refine(z38 n fine ab a ao av (some ⟨g2,0,none⟩) ac ko co kv cv kP zs os vs aK _ (HA.X.below T2.X.b) (HO.X.below T2.X.b) (HV.X.below T2.X.b) (zd4 T2.X.o) aF.X aE.X aA aB j6 sF o2 ee.X).mono ?_;rintro e w3 ⟨rfl,hb⟩;have T3:=za4 (T2.X.below hb);have C3:Zb (CRR w w3 _ _ _):=T3.X.c;clear hb T2;cases o2
     ·have bL:Zb (ch=false):=iD.X.symm.trans (yg2 _ (of_decide_eq_false ee.X))
      have HX:Zb (xs=[]):=iB.X.symm.trans (by rw[bL.X];rfl);have bk:Zb (D=0):=HD.X.symm.trans (by rw[bL.X];rfl);obtain⟨t0,t1⟩:=za1 C3.X.2;have tf:=fun i=>yZ _ _ i _ _ C3.X.2;go_wp2;refine xe (v:=.tuple #[.agg #[ze zd 0,za none 0 0],ze zd 0,.bool false]) (by simp[results,qE,go_sem,t0,t1]) rfl ⟨?_,none,0,?_,?_⟩
      ·repeat(first|with_reducible exact C3.X.b|refine xq ?_ (by simp<;>omega) _)
      ·rw[bL.X,bk.X,HX.X];rfl
      ·rw[HX.X];exact xZ _ _ _ _
     ·have bS:=zZ ee.X
      have G_:Zb _:=bS;have bL:Zb (ch=true):=iD.X.symm.trans (yd1 l9.X cm.X bS);have HX:Zb (xs=aK):=iB.X.symm.trans (by rw[bL.X];rfl);have cC:=(zb2 (zF3 bS)).1;have jD:=zu8 cC (zd6 os ko ids) ids.length (zk2 l9.X) (zc4 vs kv ab 1);have og:=zu8 cC (zd6 os ko aK) aK.length (zk2 bS) (zc4 vs kv ab 1);have bk:=HD.X.symm.trans (yx0 bL.X l9.X bS);obtain⟨q1,gI⟩:=nmd (zq7 n zs (zd6 os ko ids) ids.length (zc4 vs kv ab 1));obtain⟨q2,kL⟩:=nmd (zq7 n zs (zd6 os ko aK) aK.length (zc4 vs kv ab 1));rw[gI.X]at jD bk;rw[kL.X]at og bk;have EU:=za4 bk;have EC:IntKind.i64.wrap (q2 - q1)=q2 - q1:=xz _ (by omega);clear bS cC bk jD og;have Ef:Zb (∀W,Za w3.heap.size w3 W->Zc zh 89 #[.agg #[ze zd n,za a zs.length ac,za ao ko co,za av kv cv,ze zd fine],.agg #[ze zd ab,za (some ⟨b,off,none⟩) ids.length c2]] W fun e w'=>e=.returned (ze zd q1)/\Za W.heap.size W w'):=fun W hW=>
       gI.X▸zs8 n fine ab a ao av _ ac ko co kv cv c2 zs os vs ids W ((HA.X.below C3.X.b).below hW) ((HO.X.below C3.X.b).below hW) ((HV.X.below C3.X.b).below hW) ((HI.X.below C3.X.b).below hW) aF.X aE.X aA aB eX l9.X
      have H':Zb (∀W,Za w3.heap.size w3 W->Zc zh 89 #[.agg #[ze zd n,za a zs.length ac,za ao ko co,za av kv cv,ze zd fine],.agg #[ze zd ab,za (some ⟨g2,0,none⟩) aK.length kP]] W fun e w'=>e=.returned (ze zd q2)/\Za W.heap.size W w'):=fun W hW=>
       kL.X▸zs8 n fine ab a ao av _ ac ko co kv cv kP zs os vs aK W ((HA.X.below C3.X.b).below hW) ((HO.X.below C3.X.b).below hW) ((HV.X.below C3.X.b).below hW) ((zd4 T3.X.o).below hW) aF.X aE.X aA aB j6 G_.X
      go_wp2_with fail
      have kS:=ox9 T3.X.drew
      go_region_held3 (fun W=>W.cell? ⟨w.heap.size,0,none⟩=some (ze zd n)/\W.cell? ⟨w.heap.size,1,none⟩=some (za a zs.length ac)/\W.cell? ⟨w.heap.size,2,none⟩=some (za ao ko co)/\W.cell? ⟨w.heap.size,3,none⟩=some (za av kv cv)/\W.cell? ⟨w.heap.size,4,none⟩=some (ze zd fine)/\W.cell? ⟨w.heap.size+1,0,none⟩=some (ze zd ab)/\W.cell? ⟨w.heap.size+1,1,none⟩=some (za (some ⟨b,off,none⟩) ids.length c2)/\W.cell? ⟨kb,0,none⟩=some (ze zd ab)/\W.cell? ⟨kb,1,none⟩=some (za (some ⟨g2,0,none⟩) aK.length kP)) (first|with_reducible exact kS|with_reducible exact yM7 T6.X _ _) ((first
       |(go_at_call 89
         with_reducible refine(H'.X w3.drew (y5 _ _).drew).mono ?_
         rintro e w5 ⟨rfl,hb⟩;have T5:=za4 (T3.X.drew.below hb);have B5:Zb (Za w3.heap.size w3 w5):=(y5 _ _).drew.trans (hb.mono (zT _));have kS:=ox9 T5.X;clear hb)
       |(go_at_call 89
         with_reducible refine(Ef.X w5 B5.X).mono ?_
         rintro e w6 ⟨rfl,hb⟩;have T6:=za4 (T5.X.below hb);have kS:=ox9 T6.X;obtain⟨t0,t1⟩:=za1 T6.X.c.2;have tf:=fun i=>yZ _ _ i _ _ T6.X.c.2;clear hb)))
      all_goals
       clear kS;go_wp2;refine xe (v:=.tuple #[.agg #[ze zd ab,za (some ⟨g2,0,none⟩) aK.length kP],ze zd (q2 - q1),.bool true]) (by simp[results,qE,go_sem,t0,t1]) rfl ⟨?_,some ⟨g2,0,none⟩,kP,?_,?_⟩
       ·repeat(first|with_reducible exact T6.X.b|refine xq ?_ (by simp<;>omega) _)
       ·rw[bL.X,EU.X,HX.X];rfl
       ·rw[HX.X];exact zb5 (zg1 (zg1 T6.X.o T6.X.2.2.2.1) T6.X.2.2.2.1) (by have:=T6.X.2.2.2.1;omega)
   have sn:(0:Int)<=(i:Int):=by omega
   have jJ:(i:Int)<=(c2:Int):=by omega
   have IT:=za4 (yb0 (HI.X.below C1.X.b) i);have pY:w.heap.size+1≠w1.heap.size:=by have:=C1.X.big;omega
   have q_:w.heap.size+1≠w1.heap.size+1:=by have:=C1.X.big;omega
   go_region_held3 (fun W=>W.cell? ⟨w.heap.size+1,0,none⟩=some (ze zd ab)/\W.cell? ⟨w.heap.size+1,1,none⟩=some (za (some ⟨b,off,none⟩) ids.length c2)) (first
    |with_reducible exact kS
    |exact⟨za5 (za5 kS.1 q_) q_,za5 (za5 kS.2 q_) q_⟩
    |exact⟨za5 (za5 kS.1 pY) pY,za5 (za5 kS.2 pY) pY⟩
    |exact⟨zY3 kS.1 (by repeat(first|with_reducible exact y5 _ _|with_reducible refine qD ?_|with_reducible refine xG ?_ (by simp<;>omega) _|with_reducible refine xq ?_ (by simp<;>omega) _)),zY3 kS.2 (by repeat(first|with_reducible exact y5 _ _|with_reducible refine qD ?_|with_reducible refine xG ?_ (by simp<;>omega) _|with_reducible refine xq ?_ (by simp<;>omega) _))⟩
    |exact⟨zY3 d0 (by repeat(first|with_reducible exact y5 _ _|with_reducible refine qD ?_|with_reducible refine xG ?_ (by simp<;>omega) _|with_reducible refine xq ?_ (by simp<;>omega) _)),zY3 d1 (by repeat(first|with_reducible exact y5 _ _|with_reducible refine qD ?_|with_reducible refine xG ?_ (by simp<;>omega) _|with_reducible refine xq ?_ (by simp<;>omega) _))⟩) ((first
    |(refine zd7 rfl (.tmp 27) (.tmp 31) rfl w1.heap.size (za (some ⟨w1.heap.size,0,none⟩) 0 0) [] 0 rfl (yI2 w1) b off i c2 (ids.take i) rfl dQ.X (IT.X.below (zP _).drew) (by omega) (by omega) (by simp) ?_
      intro v' w2 ho hg hn;obtain⟨g,cg,rfl⟩:∃g cg,v'=za (some ⟨g,0,none⟩) i cg:=zB0 ho (fun e=>by simpa using(hn.1 e).1) (by omega);have kS:w2.cell? ⟨w.heap.size+1,0,none⟩=some (ze zd ab)/\w2.cell? ⟨w.heap.size+1,1,none⟩=some (za (some ⟨b,off,none⟩) ids.length c2):=zn2 hg (C1.X.alloc _).drew (fun q e=>by have:=C1.X.big;simp[zm]at e;omega);have fL:=za4 hg;have ee:=za4 (yg7 ho dQ.X);clear hg ho hn)
    |(refine zd7 rfl (.tmp 27) (.tmp 31) rfl w1.heap.size (za (some ⟨w1.heap.size,0,none⟩) 0 0) [] 0 rfl (yK3 w1 _) b off i c2 (ids.take i) rfl dQ.X (IT.X.below ((zP _).alloc (by simp) _).drew) (by omega) (by omega) (by simp;omega) ?_
      intro v' w2 ho hg hn;obtain⟨g,cg,rfl⟩:∃g cg,v'=za (some ⟨g,0,none⟩) i cg:=zB0 ho (fun e=>by simpa using(hn.1 e).1) (by omega);have kS:w2.cell? ⟨w.heap.size+1,0,none⟩=some (ze zd ab)/\w2.cell? ⟨w.heap.size+1,1,none⟩=some (za (some ⟨b,off,none⟩) ids.length c2):=zn2 hg ((C1.X.alloc _).alloc _).drew (fun q e=>by have:=C1.X.big;simp[zm]at e;omega);have fL:=za4 hg;obtain⟨z0,z1⟩:=za1 (yK8 hg);have zf:=fun i=>yZ _ _ i _ _ (yK8 hg);have ee:=za4 (yg7 ho dQ.X);clear hg ho hn)
    |(refine zd7 rfl (.tmp 27) (.tmp 31) rfl w1.heap.size (za (some ⟨w1.heap.size+1,0,none⟩) 0 0) [] 0 rfl (yJ2 w1 _) b off i c2 (ids.take i) rfl dQ.X (IT.X.below ((zP _).alloc (by simp) _).drew) (by omega) (by omega) (by simp;omega) ?_
      intro v' w2 ho hg hn;obtain⟨g,cg,rfl⟩:∃g cg,v'=za (some ⟨g,0,none⟩) i cg:=zB0 ho (fun e=>by simpa using(hn.1 e).1) (by omega);have kS:w2.cell? ⟨w.heap.size+1,0,none⟩=some (ze zd ab)/\w2.cell? ⟨w.heap.size+1,1,none⟩=some (za (some ⟨b,off,none⟩) ids.length c2):=zn2 hg ((C1.X.alloc _).alloc _).drew (fun q e=>by have:=C1.X.big;simp[zm]at e;omega);have fL:=za4 hg;obtain⟨z0,z1⟩:=za1 (yK9 hg);have zf:=fun i=>yZ _ _ i _ _ (yK9 hg);have ee:=za4 (yg7 ho dQ.X);clear hg ho hn)))
   ·exact key _ _ _ _ _ (OX.newa C1.X fL.X ee.X)
   ·exact key _ _ _ _ _ (OX.newb C1.X fL.X ee.X)
   ·exact key _ _ _ _ _ (OX.newc C1.X fL.X ee.X)
theorem zQ2(w:zi)(ty:TypeId)(g n c:Nat)(h:n<=c):(zu #[24,24] ty #[za (some ⟨g,0,none⟩) n c,za none 0 0]).run zh w=.ok (za (some ⟨g,0,none⟩) n c) w:=by
 obtain⟨i0,hi,bR,ba,bS⟩:=zr4;simp[zu,xI qb,sizeOf,typeInfo,hi,Builtin.lenOf,h,run_firstCells_none,storeCells]
theorem zn8{ap:Array Oper}{o:Oper}{a:Act}{w:zi}{K:Act->zi->Prop}{Q:Exit->Act->zi->Prop}{E:Prop}
 (hg:o.guard=none) (s x:Operand) (du:o.op=Op.call {callee:=Callee.builtin Builtin.append,args:=#[s,x],argTypes:=#[24,24]})
 (g n c:Nat) (hs:a.eval s=za (some ⟨g,0,none⟩) n c) (hx:a.eval x=za none 0 0) (h:n<=c) (hK:∀w',w'=w->K (a.put o.dst (za (some ⟨g,0,none⟩) n c)) w'):
 if zn o (yielded ap a.tmps)=true then Oper.wp zh o a w K Q else E:=by
 have hw:zn o (yielded ap a.tmps)=true:=by simp[zn,hg]
 rw[z7 hw];unfold Oper.wp;simp[execOp,du,resolve,invoke,builtin,hs,hx,zQ2 w o.type g n c h,Result.andThen];exact hK _ rfl
theorem zo9(n fine ab:Int)(a ao av:Option Zd)(ac ko co kv cv:Nat)(zs os vs:List Int)(w:zi)(hA:za3 w a zs)(hO:za3 w ao os)(hV:za3 w av vs)(an:os.length=ko*6)(au:vs.length=kv*5)(aA:ko<=9223372036854775807)(aB:kv<=9223372036854775807)(id x:Int)(ch:Bool)(gm:chB (zd0 n zs os vs ko kv fine) n zs os vs ko kv ab ([]:List Int) (inB x 0 0) (insL ([]:List Int) x.toNat id)=ch)(D:Int)(hD:chD ch n zs os vs ko kv ab ([]:List Int) (insL ([]:List Int) x.toNat id)=D)(xs:List Int)(jA:chL ch (insL ([]:List Int) x.toNat id)=xs):
 Zc zh 71 #[.agg #[ze zd n,za a zs.length ac,za ao ko co,za av kv cv,ze zd fine],.agg #[ze zd ab,za none 0 0],ze zd id,ze zd x] w (ye5 w ch ab D xs):=by
 have HA:=za4 hA;have HO:=za4 hO;have HV:=za4 hV;have HI:Zb (za3 w none ([]:List Int)):=fun j hj=>by simp at hj
 have eX:([]:List Int).length<=9223372036854775807:=by simp
 have cw:([]:List Int).length<=0:=by simp
 have aF:Zb _:=an;have aE:Zb _:=au;clear hA hO hV an au;have iD:Zb _:=gm;have HD:Zb _:=hD;have iB:Zb _:=jA;clear gm hD jA;have C0:Zb (CRR w (((w.alloc (zg #[ze zd n,za a zs.length ac,za ao ko co,za av kv cv,ze zd fine] 30)).alloc (zg #[ze zd ab,za none 0 0] 80)).alloc (zg #[ze zd 0,za none 0 0] 80)) _ _ _):=CRR.new w _ _ _;obtain⟨o1,fq⟩:=nmd (decide (codeV (zd0 n zs os vs ko kv fine) n zs os vs ko kv ab ([]:List Int)=0));obtain⟨v1,cm⟩:=nmd (inB x 0 0);go_enter Tryz.func71,Tryz.ntmps71;obtain⟨c0,c1,bZ,c3,c4⟩:=za7 C0.X.1.2.1;obtain⟨d0,d1⟩:=za1 C0.X.1.2.2
 go_wp2_with fail
 clear c0 c1 bZ c3 c4 d0 d1;refine(z38 n fine ab a ao av none ac ko co kv cv 0 zs os vs [] _ (HA.X.below C0.X.b) (HO.X.below C0.X.b) (HV.X.below C0.X.b) (HI.X.below C0.X.b) aF.X aE.X aA aB eX cw o1 fq.X).mono ?_;rintro e w1 ⟨rfl,hb⟩;have C1:=za4 (C0.X.below hb);clear hb C0;cases o1
 ·have bL:Zb (ch=false):=iD.X.symm.trans (yg9 (of_decide_eq_false fq.X) _ _)
  have HX:Zb (xs=[]):=iB.X.symm.trans (by rw[bL.X];rfl);have bk:Zb (D=0):=HD.X.symm.trans (by rw[bL.X];rfl);obtain⟨t0,t1⟩:=za1 C1.X.2;have tf:=fun i=>yZ _ _ i _ _ C1.X.2;go_wp2;refine xe (v:=.tuple #[.agg #[ze zd 0,za none 0 0],ze zd 0,.bool false]) (by simp[results,qE,go_sem,t0,t1]) rfl ⟨?_,none,0,?_,?_⟩
  ·repeat(first|with_reducible exact C1.X.b|refine xq ?_ (by simp<;>omega) _)
  ·rw[bL.X,bk.X,HX.X];rfl
  ·rw[HX.X];exact xZ _ _ _ _
 ·have ba:=zZ fq.X
  have l9:Zb _:=ba;have bJ:=zk2 ba;clear ba;obtain⟨d0,d1⟩:=za1 C1.X.1.2.2;cases v1
  ·have bL:Zb (ch=false):=iD.X.symm.trans (ye1 cm.X _)
   have HX:Zb (xs=[]):=iB.X.symm.trans (by rw[bL.X];rfl);have bk:Zb (D=0):=HD.X.symm.trans (by rw[bL.X];rfl);obtain⟨t0,t1⟩:=za1 C1.X.2;have tf:=fun i=>yZ _ _ i _ _ C1.X.2
   go_wp2_with(first|(go_at_call 39;refine(zc0 x 0 0 w1).mono ?_;rintro e Ao ⟨rfl,rfl⟩;rw[cm.X]))
   refine xe (v:=.tuple #[.agg #[ze zd 0,za none 0 0],ze zd 0,.bool false]) (by simp[results,qE,go_sem,t0,t1]) rfl ⟨?_,none,0,?_,?_⟩
   ·repeat(first|with_reducible exact C1.X.b|refine xq ?_ (by simp<;>omega) _)
   ·rw[bL.X,bk.X,HX.X];rfl
   ·rw[HX.X];exact xZ _ _ _ _
  ·have h1:=zc8 cm.X
   obtain rfl:x=0:=by omega
   go_wp2_with(first|(go_at_call 39;refine(zc0 0 0 0 w1).mono ?_;rintro e Ao ⟨rfl,rfl⟩;rw[cm.X]))
   generalize Ao=w1 at*;rename_i Kx hKx;have kE:([]:List Int).length=0:=rfl;have dQ:Zb _:=kE;clear kE
   have key:∀(gb g cg kb:Nat) (W:zi),OX w W w1.heap.size kb #[ze zd n,za a zs.length ac,za ao ko co,za av kv cv,ze zd fine] #[ze zd ab,za none 0 0] #[ze zd 0,za none 0 0] ab (za (some ⟨g,0,none⟩) 0 cg) ([]:List Int)->Kx {tmps:=#[.agg #[ze zd n,za a zs.length ac,za ao ko co,za av kv cv,ze zd fine],.agg #[ze zd ab,za none 0 0],ze zd id,ze zd 0,.pointer (some ⟨w.heap.size,0,none⟩),.pointer (some ⟨w.heap.size+1,0,none⟩),undef,undef,.pointer (some ⟨w.heap.size+1+1,0,none⟩),ze zd 0,.bool false,.pointer (some ⟨kb,0,none⟩),.agg #[ze zd n,za a zs.length ac,za ao ko co,za av kv cv,ze zd fine],.agg #[ze zd ab,za none 0 0],.bool true,.bool false,.bool false,ze zd 0,.pointer (some ⟨w.heap.size+1,1,none⟩),za none 0 0,ze zd 0,.bool true,.bool false,.bool false,undef,.pointer (some ⟨w.heap.size+1,0,none⟩),ze zd ab,za (some ⟨gb,0,none⟩) 0 0,.pointer (some ⟨w.heap.size+1,1,none⟩),za none 0 0,ze zd 0,za none 0 0,za (some ⟨g,0,none⟩) 0 cg,.agg #[ze zd ab,za (some ⟨g,0,none⟩) 0 cg],undef,undef,undef,undef,undef,undef,undef,undef,undef,undef,undef,undef,undef,undef,undef,undef,undef,undef,undef,undef,undef,undef,undef,undef,undef,undef,undef],defers:=[]} W:=by
    intro gb g cg kb W hT;have T0:=za4 hT;clear hT d0 d1 C1;apply hKx;clear hKx;obtain⟨e0,e1⟩:=za1 T0.X.2.1;obtain⟨d0,d1⟩:=za1 T0.X.c.1.2.2;have ef:=fun i=>yZ _ _ i _ _ T0.X.2.1;have eA:(W.alloc (zg #[ze zd id] 2)).heap[W.heap.size]? =some (zg #[ze zd id] 2 (0,0)):=zS _ _;have TA:Zb (OX w (W.alloc (zg #[ze zd id] 2)) w1.heap.size kb _ _ _ ab (za (some ⟨g,0,none⟩) 0 cg) ([]:List Int)):=T0.X.below (zP _)
    go_wp2_with(first
     |(at_builtin
       refine zF1 _ rfl _ _ rfl w1.heap.size (za (some ⟨g,0,none⟩) 0 cg) 0 ([]:List Int) rfl (y28 TA.X.o dQ.X) W.heap.size 1 id rfl (zU _ _ 0 _ _ _ eA) (by omega) TA.X.size ?_;intro v' w2 ho hg hn;obtain⟨g1,fj,rfl⟩:∃g cg,v'=za (some ⟨g,0,none⟩) 1 cg:=zB0 ho (fun e=>by simpa using(hn.1 e).1) rfl;have T1:Zb (OX w (w2.setCell ⟨kb,1,none⟩ (za (some ⟨g1,0,none⟩) 1 fj)) w1.heap.size kb _ _ _ ab (za (some ⟨g1,0,none⟩) 1 fj) [id]):=TA.X.grow hg ho;obtain⟨kS,f1,ff⟩:=TA.X.keep hg;clear ho hg hn e0 e1 ef))
    clear kS f1 ff eA TA T0 d0 d1;generalize(w2.setCell ⟨kb,1,none⟩ _)=W1 at*;have wG:Zb (chB (zd0 n zs os vs ko kv fine) n zs os vs ko kv ab [] (inB 0 0 0) [id]=ch):=iD.X;have JX:Zb (chD ch n zs os vs ko kv ab [] [id]=D):=HD.X;have AU:Zb (chL ch [id]=xs):=iB.X;clear iD HD iB;obtain⟨Ge,_⟩:=y10 T1.X.o;obtain⟨e0,e1⟩:=za1 T1.X.2.1;obtain⟨d0,d1⟩:=za1 T1.X.c.1.2.2;have ef:=fun i=>yZ _ _ i _ _ T1.X.2.1;have aq:w.heap.size+1≠kb:=by have:=T1.X.2.2.1;have:=T1.X.2.2.2.1;omega
    go_region_law ((first
     |(refine zn8 (w:=W1.drew) rfl (.tmp 41) (.tmp 45) rfl g1 1 fj rfl rfl Ge ?_
       intro w2 dX;have oX:World.grownBy W1.drew w2 (za (some ⟨g1,0,none⟩) 1 fj).ownBlock:=dX▸World.grownBy.refl _ _;have lE:=dX▸T1.X.drew.o;clear dX;have T2:Zb (OX w (w2.setCell ⟨kb,1,none⟩ (za (some ⟨g1,0,none⟩) 1 fj)) w1.heap.size kb _ _ _ ab (za (some ⟨g1,0,none⟩) 1 fj) [id]):=T1.X.drew.grow oX lE;obtain⟨kS,f1,ff⟩:=T1.X.drew.keep oX;clear oX lE)))
    all_goals
     clear kS f1 ff e0 e1 d0 d1 ef T1;have iD:Zb _:=wG.X;have HD:Zb _:=JX.X;have iB:Zb _:=AU.X;clear wG JX AU;generalize(w2.setCell ⟨kb,1,none⟩ _)=W2 at*;obtain⟨o2,ee⟩:=nmd (decide (codeV (zd0 n zs os vs ko kv fine) n zs os vs ko kv ab ([id]:List Int)=0));obtain⟨sF,j6⟩:=y10 T2.X.o;obtain⟨c0,c1,bZ,c3,c4⟩:=za7 T2.X.c.1.2.1;obtain⟨e0,e1⟩:=za1 T2.X.2.1
     go_wp2_with fail
     clear c0 c1 bZ c3 c4 e0 e1;refine(z38 n fine ab a ao av (some ⟨g1,0,none⟩) ac ko co kv cv fj zs os vs ([id]:List Int) _ (HA.X.below T2.X.b) (HO.X.below T2.X.b) (HV.X.below T2.X.b) (zd4 T2.X.o) aF.X aE.X aA aB j6 sF o2 ee.X).mono ?_;rintro e w3 ⟨rfl,hb⟩;have T3:=za4 (T2.X.below hb);have C3:Zb (CRR w w3 _ _ _):=T3.X.c;clear hb T2;cases o2
     ·have bL:Zb (ch=false):=iD.X.symm.trans (yg2 _ (of_decide_eq_false ee.X))
      have HX:Zb (xs=[]):=iB.X.symm.trans (by rw[bL.X];rfl);have bk:Zb (D=0):=HD.X.symm.trans (by rw[bL.X];rfl);obtain⟨t0,t1⟩:=za1 C3.X.2;have tf:=fun i=>yZ _ _ i _ _ C3.X.2;go_wp2;refine xe (v:=.tuple #[.agg #[ze zd 0,za none 0 0],ze zd 0,.bool false]) (by simp[results,qE,go_sem,t0,t1]) rfl ⟨?_,none,0,?_,?_⟩
      ·repeat(first|with_reducible exact C3.X.b|refine xq ?_ (by simp<;>omega) _)
      ·rw[bL.X,bk.X,HX.X];rfl
      ·rw[HX.X];exact xZ _ _ _ _
     ·have bS:=zZ ee.X
      have G_:Zb _:=bS;have bL:Zb (ch=true):=iD.X.symm.trans (yd1 l9.X cm.X bS);have HX:Zb (xs=([id]:List Int)):=iB.X.symm.trans (by rw[bL.X];rfl);have cC:=(zb2 (zF3 bS)).1;have jD:=zu8 cC (zd6 os ko ([]:List Int)) ([]:List Int).length (zk2 l9.X) (zc4 vs kv ab 1);have og:=zu8 cC (zd6 os ko ([id]:List Int)) ([id]:List Int).length (zk2 bS) (zc4 vs kv ab 1);have bk:=HD.X.symm.trans (yx0 bL.X l9.X bS);obtain⟨q1,gI⟩:=nmd (zq7 n zs (zd6 os ko ([]:List Int)) ([]:List Int).length (zc4 vs kv ab 1));obtain⟨q2,kL⟩:=nmd (zq7 n zs (zd6 os ko ([id]:List Int)) ([id]:List Int).length (zc4 vs kv ab 1));rw[gI.X]at jD bk;rw[kL.X]at og bk;have EU:=za4 bk;have EC:IntKind.i64.wrap (q2 - q1)=q2 - q1:=xz _ (by omega);clear bS cC bk jD og;have Ef:Zb (∀W,Za w3.heap.size w3 W->Zc zh 89 #[.agg #[ze zd n,za a zs.length ac,za ao ko co,za av kv cv,ze zd fine],.agg #[ze zd ab,za none 0 0]] W fun e w'=>e=.returned (ze zd q1)/\Za W.heap.size W w'):=fun W hW=>
       gI.X▸zs8 n fine ab a ao av _ ac ko co kv cv 0 zs os vs [] W ((HA.X.below C3.X.b).below hW) ((HO.X.below C3.X.b).below hW) ((HV.X.below C3.X.b).below hW) ((HI.X.below C3.X.b).below hW) aF.X aE.X aA aB eX l9.X
      have H':Zb (∀W,Za w3.heap.size w3 W->Zc zh 89 #[.agg #[ze zd n,za a zs.length ac,za ao ko co,za av kv cv,ze zd fine],.agg #[ze zd ab,za (some ⟨g1,0,none⟩) 1 fj]] W fun e w'=>e=.returned (ze zd q2)/\Za W.heap.size W w'):=fun W hW=>
       by
        have:=zs8 n fine ab a ao av _ ac ko co kv cv fj zs os vs ([id]:List Int) W ((HA.X.below C3.X.b).below hW) ((HO.X.below C3.X.b).below hW) ((HV.X.below C3.X.b).below hW) ((zd4 T3.X.o).below hW) aF.X aE.X aA aB j6 G_.X;rw[kL.X]at this;exact this
      go_wp2_with fail
      have kS:=ox9 T3.X.drew
      go_region_held3 (fun W=>W.cell? ⟨w.heap.size,0,none⟩=some (ze zd n)/\W.cell? ⟨w.heap.size,1,none⟩=some (za a zs.length ac)/\W.cell? ⟨w.heap.size,2,none⟩=some (za ao ko co)/\W.cell? ⟨w.heap.size,3,none⟩=some (za av kv cv)/\W.cell? ⟨w.heap.size,4,none⟩=some (ze zd fine)/\W.cell? ⟨w.heap.size+1,0,none⟩=some (ze zd ab)/\W.cell? ⟨w.heap.size+1,1,none⟩=some (za none 0 0)/\W.cell? ⟨kb,0,none⟩=some (ze zd ab)/\W.cell? ⟨kb,1,none⟩=some (za (some ⟨g1,0,none⟩) 1 fj)) (first|with_reducible exact kS|with_reducible exact yM7 T6.X _ _) ((first
       |(go_at_call 89
         with_reducible refine(H'.X w3.drew (y5 _ _).drew).mono ?_
         rintro e w5 ⟨rfl,hb⟩;have T5:=za4 (T3.X.drew.below hb);have B5:Zb (Za w3.heap.size w3 w5):=(y5 _ _).drew.trans (hb.mono (zT _));have kS:=ox9 T5.X;clear hb)
       |(go_at_call 89
         with_reducible refine(Ef.X w5 B5.X).mono ?_
         rintro e w6 ⟨rfl,hb⟩;have T6:=za4 (T5.X.below hb);have kS:=ox9 T6.X;obtain⟨t0,t1⟩:=za1 T6.X.c.2;have tf:=fun i=>yZ _ _ i _ _ T6.X.c.2;clear hb)))
      all_goals
       clear kS;go_wp2;refine xe (v:=.tuple #[.agg #[ze zd ab,za (some ⟨g1,0,none⟩) 1 fj],ze zd (q2 - q1),.bool true]) (by simp[results,qE,go_sem,t0,t1]) rfl ⟨?_,some ⟨g1,0,none⟩,fj,?_,?_⟩
       ·repeat(first|with_reducible exact T6.X.b|refine xq ?_ (by simp<;>omega) _)
       ·rw[bL.X,EU.X,HX.X];rfl
       ·rw[HX.X];exact zb5 (zg1 (zg1 T6.X.o T6.X.2.2.2.1) T6.X.2.2.2.1) (by have:=T6.X.2.2.2.1;omega)
   have pY:w.heap.size+1≠w1.heap.size:=by have:=C1.X.big;omega
   have q_:w.heap.size+1≠w1.heap.size+1:=by have:=C1.X.big;omega
   go_region_held3 (fun W=>W.cell? ⟨w.heap.size+1,0,none⟩=some (ze zd ab)/\W.cell? ⟨w.heap.size+1,1,none⟩=some (za none 0 0)) (first
    |with_reducible exact kS
    |with_reducible exact⟨za5 (za5 kS.1 q_) q_,za5 (za5 kS.2 q_) q_⟩
    |with_reducible exact⟨za5 (za5 kS.1 pY) pY,za5 (za5 kS.2 pY) pY⟩
    |with_reducible exact⟨zY3 kS.1 (by repeat(first|with_reducible exact y5 _ _|with_reducible refine qD ?_|with_reducible refine xG ?_ (by simp<;>omega) _|with_reducible refine xq ?_ (by simp<;>omega) _)),zY3 kS.2 (by repeat(first|with_reducible exact y5 _ _|with_reducible refine qD ?_|with_reducible refine xG ?_ (by simp<;>omega) _|with_reducible refine xq ?_ (by simp<;>omega) _))⟩
    |with_reducible exact⟨zY3 d0 (by repeat(first|with_reducible exact y5 _ _|with_reducible refine qD ?_|with_reducible refine xG ?_ (by simp<;>omega) _|with_reducible refine xq ?_ (by simp<;>omega) _)),zY3 d1 (by repeat(first|with_reducible exact y5 _ _|with_reducible refine qD ?_|with_reducible refine xG ?_ (by simp<;>omega) _|with_reducible refine xq ?_ (by simp<;>omega) _))⟩) ((first
    |(refine zn8 (w:=(w1.alloc (zg #[] 2)).drew) rfl (.tmp 27) (.tmp 31) rfl w1.heap.size 0 0 rfl rfl (zT _) ?_
      intro w2 dX;have fL:Zb (World.grownBy (w1.alloc (zg #[] 2)).drew w2 (some w1.heap.size)):=dX▸World.grownBy.refl _ _;have ee:Zb (zk w2 w1.heap.size 2 1 (za (some ⟨w1.heap.size,0,none⟩) 0 0) ([]:List Int).length (([]:List Int).map (ze zd))):=dX▸(yI2 w1);clear dX;have kS:=zn2 fL.X (C1.X.alloc _).drew (fun q e=>by have:=C1.X.big;simp at e;omega))
    |(refine zn8 (w:=((w1.alloc (zg #[] 2)).alloc (zg #[ze zd 0,za none 0 0] 80)).drew) rfl (.tmp 27) (.tmp 31) rfl w1.heap.size 0 0 rfl rfl (zT _) ?_
      intro w2 dX;have fL:Zb (World.grownBy ((w1.alloc (zg #[] 2)).alloc (zg #[ze zd 0,za none 0 0] 80)).drew w2 (some w1.heap.size)):=dX▸World.grownBy.refl _ _;have ee:Zb (zk w2 w1.heap.size 2 1 (za (some ⟨w1.heap.size,0,none⟩) 0 0) ([]:List Int).length (([]:List Int).map (ze zd))):=dX▸(yK3 w1 _);clear dX;have kS:=zn2 fL.X ((C1.X.alloc _).alloc _).drew (fun q e=>by have:=C1.X.big;simp at e;omega);obtain⟨z0,z1⟩:=za1 (yK8 fL.X);have zf:=fun i=>yZ _ _ i _ _ (yK8 fL.X))
    |(refine zn8 (w:=((w1.alloc (zg #[ze zd 0,za none 0 0] 80)).alloc (zg #[] 2)).drew) rfl (.tmp 27) (.tmp 31) rfl (w1.heap.size+1) 0 0 rfl rfl (zT _) ?_
      intro w2 dX;have fL:Zb (World.grownBy ((w1.alloc (zg #[ze zd 0,za none 0 0] 80)).alloc (zg #[] 2)).drew w2 (some (w1.heap.size+1))):=dX▸World.grownBy.refl _ _;have ee:Zb (zk w2 w1.heap.size 2 1 (za (some ⟨(w1.heap.size+1),0,none⟩) 0 0) ([]:List Int).length (([]:List Int).map (ze zd))):=dX▸(yJ2 w1 _);clear dX;have kS:=zn2 fL.X ((C1.X.alloc _).alloc _).drew (fun q e=>by have:=C1.X.big;simp at e;omega);obtain⟨z0,z1⟩:=za1 (yK9 fL.X);have zf:=fun i=>yZ _ _ i _ _ (yK9 fL.X))))
   ·exact key _ _ _ _ _ (OX.newa C1.X fL.X ee.X)
   ·exact key _ _ _ _ _ (OX.newb C1.X fL.X ee.X)
   ·exact key _ _ _ _ _ (OX.newc C1.X fL.X ee.X)
theorem zB5(n fine ab:Int)(a ao av:Option Zd)(bi:Option Zd)(ac ko co kv cv c2:Nat)(zs os vs ids:List Int)(w:zi)(hA:za3 w a zs)(hO:za3 w ao os)(hV:za3 w av vs)(hI:za3 w bi ids)(an:os.length=ko*6)(au:vs.length=kv*5)(aA:ko<=9223372036854775807)(aB:kv<=9223372036854775807)(eX:ids.length<=9223372036854775807)(cw:ids.length<=c2)(mY:(bi=none/\ids=[]/\c2=0)∨∃g,bi=some ⟨g,0,none⟩)(id x:Int)(ch:Bool)(gm:chB (zd0 n zs os vs ko kv fine) n zs os vs ko kv ab ids (inB x 0 (ids.length:Int)) (insL ids x.toNat id)=ch)(D:Int)(hD:chD ch n zs os vs ko kv ab ids (insL ids x.toNat id)=D)(xs:List Int)(jA:chL ch (insL ids x.toNat id)=xs):
 Zc zh 71 #[.agg #[ze zd n,za a zs.length ac,za ao ko co,za av kv cv,ze zd fine],.agg #[ze zd ab,za bi ids.length c2],ze zd id,ze zd x] w (ye5 w ch ab D xs):=by
 rcases mY with⟨rfl,rfl,rfl⟩|⟨g,rfl⟩
 ·exact zo9 n fine ab a ao av ac ko co kv cv zs os vs w hA hO hV an au aA aB id x ch gm D hD xs jA
 ·exact zp1 n fine ab a ao av g 0 ac ko co kv cv c2 zs os vs ids w hA hO hV hI an au aA aB eX cw id x ch gm D hD xs jA
