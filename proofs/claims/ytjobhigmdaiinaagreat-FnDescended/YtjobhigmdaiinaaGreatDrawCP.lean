import Derived.Test.YtjobhigmdaiinaaGreatPack1
import Derived.Test.YtjobhigmdaiinaaGreatPack2
import Derived.Test.YtjobhigmdaiinaaGreatPack4
import Derived.Test.YtjobhigmdaiinaaGreatDrawPlan
import Derived.Test.YtjobhigmdaiinaaGreatDrawCase
namespace Go.Proofs.YtjobhigmdaiinaaGreat
open Go.RowKit
structure CPX(w W:World)(q:Nat)(zc zp cs ps:Array Value)(kc kp g go gv:Nat)(zs O V:List Int)(rs ls:Value)(R:List RT)(L:List Int):Prop where
 b:Below w.heap.size w W
 z1:W.heap[w.heap.size]? =some (.cells zc 30 (0,0))
 z2:W.heap[w.heap.size+1]? =some (.cells zp 33 (0,0))
 k1:W.heap[kc]? =some (.cells cs 30 (0,0))
 k2:W.heap[kp]? =some (.cells ps 33 (0,0))
 i1:za0 W (some ⟨g,0,none⟩) zs
 i2:za0 W (some ⟨go,0,none⟩) O
 i3:za0 W (some ⟨gv,0,none⟩) V
 po:∃b3,q<b3/\w.heap.size+2<=b3/\PO W b3 rs R ls L
 n:w.heap.size+1<q/\w.heap.size+1<kc/\w.heap.size+1<kp/\kc≠q/\kp≠q
 m:(g≠q/\w.heap.size+1<g)/\(go≠q/\w.heap.size+1<go)/\gv≠q/\w.heap.size+1<gv
section
variable {w W W':World} {q:Nat} {zc zp cs ps:Array Value} {kc kp g go gv:Nat} {zs O V:List Int} {rs ls:Value} {R:List RT} {L:List Int}
theorem CPX.read(h:CPX w W q zc zp cs ps kc kp g go gv zs O V rs ls R L)(hg:W.grownBy W' (some q)):CPX w W' q zc zp cs ps kc kp g go gv zs O V rs ls R L:=by
 have hn:=h.n;have hm:=h.m;obtain⟨b3,hb3,hb4,ho⟩:=h.po;exact⟨zq9 h.b (by omega) hg,za5 hg h.z1 (fun e=>by injection e with e;omega),za5 hg h.z2 (fun e=>by injection e with e;omega),za5 hg h.k1 (fun e=>by injection e with e;omega),za5 hg h.k2 (fun e=>by injection e with e;omega),ze8 h.i1 hg hm.1.1,ze8 h.i2 hg hm.2.1.1,ze8 h.i3 hg hm.2.2.1,⟨b3,hb3,hb4,ho.other hg (.inl hb3)⟩,h.n,h.m⟩
theorem CPX.below(h:CPX w W q zc zp cs ps kc kp g go gv zs O V rs ls R L)(hb:Below W.heap.size W W'):CPX w W' q zc zp cs ps kc kp g go gv zs O V rs ls R L:=by
 obtain⟨b3,hb3,hb4,ho⟩:=h.po;exact⟨h.b.trans (hb.mono h.b.size),za1 hb (za3 h.z1) h.z1,za1 hb (za3 h.z2) h.z2,za1 hb (za3 h.k1) h.k1,za1 hb (za3 h.k2) h.k2,h.i1.below hb,h.i2.below hb,h.i3.below hb,⟨b3,hb3,hb4,ho.below hb⟩,h.n,h.m⟩
theorem CPX.step{k:Nat}{zc' zp':Array Value}(h:CPX w W q zc zp cs ps kc kp g go gv zs O V rs ls R L)(hg:W.grownBy W' (some k))(hk:k=w.heap.size∨k=w.heap.size+1)(h1:W'.heap[w.heap.size]? =some (.cells zc' 30 (0,0)))(h2:W'.heap[w.heap.size+1]? =some (.cells zp' 33 (0,0))):CPX w W' q zc' zp' cs ps kc kp g go gv zs O V rs ls R L:=by
 have hn:=h.n;have hm:=h.m;obtain⟨b3,hb3,hb4,ho⟩:=h.po;have hc:=h.b.size;exact⟨zq9 h.b (by omega) hg,h1,h2,za5 hg h.k1 (fun e=>by injection e with e;omega),za5 hg h.k2 (fun e=>by injection e with e;omega),ze8 h.i1 hg (by omega),ze8 h.i2 hg (by omega),ze8 h.i3 hg (by omega),⟨b3,hb3,hb4,ho.other hg (.inl (by omega))⟩,h.n,h.m⟩
theorem CPX.putC{z0 z1 z2 z3 z4:Value}(h:CPX w W q #[z0,z1,z2,z3,z4] zp cs ps kc kp g go gv zs O V rs ls R L)(v0 v1 v2 v3 v4:Value):CPX w (((((W.setCell ⟨w.heap.size,0,none⟩ v0).setCell ⟨w.heap.size,1,none⟩ v1).setCell ⟨w.heap.size,2,none⟩ v2).setCell ⟨w.heap.size,3,none⟩ v3).setCell ⟨w.heap.size,4,none⟩ v4) q #[v0,v1,v2,v3,v4] zp cs ps kc kp g go gv zs O V rs ls R L:=by
 have hg:W.grownBy (((((W.setCell ⟨w.heap.size,0,none⟩ v0).setCell ⟨w.heap.size,1,none⟩ v1).setCell ⟨w.heap.size,2,none⟩ v2).setCell ⟨w.heap.size,3,none⟩ v3).setCell ⟨w.heap.size,4,none⟩ v4) (some w.heap.size):=zb4 (zb4 (zb4 (zb4 (zb3 _ _ _ _) (zb3 _ _ _ _)) (zb3 _ _ _ _)) (zb3 _ _ _ _)) (zb3 _ _ _ _);refine h.step hg (.inl rfl) ?_ (za5 hg h.z2 (fun e=>by injection e with e;omega));have:=ze0 (i:=4) v4 (ze0 (i:=3) v3 (ze0 (i:=2) v2 (ze0 (i:=1) v1 (ze0 (i:=0) v0 h.z1))));simpa using this
theorem CPX.putP{z0 z1:Value}(h:CPX w W q zc #[z0,z1] cs ps kc kp g go gv zs O V rs ls R L)(v0 v1:Value):CPX w ((W.setCell ⟨w.heap.size+1,0,none⟩ v0).setCell ⟨w.heap.size+1,1,none⟩ v1) q zc #[v0,v1] cs ps kc kp g go gv zs O V rs ls R L:=by
 have hg:W.grownBy ((W.setCell ⟨w.heap.size+1,0,none⟩ v0).setCell ⟨w.heap.size+1,1,none⟩ v1) (some (w.heap.size+1)):=zb4 (zb3 _ _ _ _) (zb3 _ _ _ _);refine h.step hg (.inr rfl) (za5 hg h.z1 (fun e=>by injection e with e;omega)) ?_;have:=ze0 (i:=1) v1 (ze0 (i:=0) v0 h.z2);simpa using this
theorem CPX.keep2{c0 c1 c2 c3 c4 p0 p1:Value}(h:CPX w W q zc zp #[c0,c1,c2,c3,c4] #[p0,p1] kc kp g go gv zs O V rs ls R L):(W.cell? ⟨kc,0,none⟩=some c0/\W.cell? ⟨kc,1,none⟩=some c1/\W.cell? ⟨kc,2,none⟩=some c2/\W.cell? ⟨kc,3,none⟩=some c3/\W.cell? ⟨kc,4,none⟩=some c4)/\W.cell? ⟨kp,0,none⟩=some p0/\W.cell? ⟨kp,1,none⟩=some p1:=⟨zb8 h.k1,za2 h.k2⟩
end
theorem CPX.new{w W w5:World}{q:Nat}{zc zp cs:Array Value}{kc g go gv:Nat}{zs O V:List Int}{rs ls:Value}{R:List RT}{L:List Int}(hb:Below w.heap.size w W)(h1:W.heap[w.heap.size]? =some (.cells zc 30 (0,0)))(h2:W.heap[w.heap.size+1]? =some (.cells zp 33 (0,0)))(h3:W.heap[kc]? =some (.cells cs 30 (0,0)))(i1:za0 W (some ⟨g,0,none⟩) zs/\g≠q/\w.heap.size+1<g)(i2:za0 W (some ⟨go,0,none⟩) O/\go≠q/\w.heap.size+1<go)(i3:za0 W (some ⟨gv,0,none⟩) V/\gv≠q/\w.heap.size+1<gv)(hq:w.heap.size+1<q/\q<W.heap.size)(hk:w.heap.size+1<kc/\kc≠q)(hg:W.grownBy w5 (some q))(ho:PO w5 W.heap.size rs R ls L):CPX w (w5.alloc (.cells #[rs,ls] 33)) q zc zp cs #[rs,ls] kc w5.heap.size g go gv zs O V rs ls R L:=by
 have hA:Below w5.heap.size w5 (w5.alloc (.cells #[rs,ls] 33)):=(Below.refl _ _).alloc (Nat.le_refl _) _;have b5:Below w.heap.size w w5:=zq9 hb (by omega) hg;have g5:=za5 hg h1 (fun e=>by injection e with e;omega);have g6:=za5 hg h2 (fun e=>by injection e with e;omega);have k5:=za5 hg h3 (fun e=>hk.2 (by injection e));have hz:=za3 h3;have hz5:=hg.size;exact⟨b5.trans (hA.mono b5.size),za1 hA (za3 g5) g5,za1 hA (za3 g6) g6,za1 hA (za3 k5) k5,heap_alloc_new _ _,(ze8 i1.1 hg i1.2.1).below hA,(ze8 i2.1 hg i2.2.1).below hA,(ze8 i3.1 hg i3.2.1).below hA,⟨W.heap.size,hq.2,by omega,ho.below hA⟩,⟨hq.1,hk.1,by omega,hk.2,by omega⟩,i1.2,i2.2,i3.2⟩
end Go.Proofs.YtjobhigmdaiinaaGreat
