import Derived.Test.YtkchnomkiboihaaGreatPack24
import Derived.Lib.SmallJoins
set_option linter.unusedSimpArgs false
set_option maxHeartbeats 1000000
namespace Go.Proofs.YtkchnomkiboihaaGreat
theorem jg:type_of% @List.length_eq_zero_iff:=@List.length_eq_zero_iff
open Value renaming slice→za,int→ze
open IntKind renaming i64→zd
open Obj renaming cells→zg
open Proofs.Tryz renaming prog→zh
open Go renaming World→zi
open Go.RowKit
open Q
theorem yn9(c:Nat)(w:zi):
 Calls zh 83 #[za none 0 c] w fun e w'=>e=.returned (za none 0 0)/\w'=w:=by
 have aX:=fun(W:zi)=>Lib.run_eql_slice_nil (P:=zh) W 24 _ none 0 c 0 0 qb;go_enter Tryz.func83,Tryz.ntmps83;go_wp2;go_ret;exact⟨rfl,rfl⟩
theorem z45(bi:Option Addr)(c n:Nat)(ids:List Int)(w:zi)(hI:za3 w bi ids)(hn:ids.length=n)(hl:n<=1048576)(mY:(bi=none/\n=0)∨∃b off,bi=some ⟨b,off,none⟩):
 Calls zh 83 #[za bi n c] w fun e w'=>∃sl,e=.returned sl/\Below w.heap.size w w'/\w'.ownsRow w.heap.size 2 1 sl n (ids.map (ze zd)):=by
 subst hn;rcases mY with⟨rfl,h0⟩|⟨b,off,rfl⟩
 ·have h1:ids=[]:=jg.1 h0
  subst h1;refine(yn9 c w).mono ?_;rintro e w' ⟨rfl,rfl⟩;exact⟨_,rfl,y5 _ _,xZ _ _ _ _⟩
 ·refine(z73 b off c ids w hI hl).mono ?_
  rintro e w' ⟨g,cg,rfl,h1,h2⟩;exact⟨_,rfl,h1,h2⟩
def RB2(w W:zi)(rs:Array Value):Prop:=Below w.heap.size w W/\W.heap[w.heap.size]? =some (.cells rs 80 (0,0))/\W.heap[w.heap.size+1]? =some (zg #[ze zd 0,za none 0 0] 80 (0,0))
theorem RB2.new(w:zi)(rs:Array Value):RB2 w ((w.alloc (.cells rs 80)).alloc (zg #[ze zd 0,za none 0 0] 80)) rs:=⟨(zP _).alloc (by simp) _,xm _ _ _,xh _ _ _⟩
theorem RB2.below{w W W':zi}{rs:Array Value}(h:RB2 w W rs)(hb:Below W.heap.size W W'):RB2 w W' rs:=⟨h.1.trans (hb.mono h.1.size),za0 hb (za2 h.2.1) h.2.1,za0 hb (za2 h.2.2) h.2.2⟩
theorem RB2.b{w W:zi}{rs:Array Value}(h:RB2 w W rs):Below w.heap.size w W:=h.1
theorem RB2.cells{w W:zi}{r0 r1:Value}(h:RB2 w W #[r0,r1]):W.cell? ⟨w.heap.size,0,none⟩=some r0/\W.cell? ⟨w.heap.size,1,none⟩=some r1:=za1 h.2.1
theorem RB2.cellss{w W:zi}{r0 r1:Value}(h:RB2 w W #[r0,r1])(u v:Value):
 (fun X:zi=>X.cell? ⟨w.heap.size,0,none⟩=some r0/\X.cell? ⟨w.heap.size,1,none⟩=some r1) ((W.setCell ⟨w.heap.size+1,0,none⟩ u).setCell ⟨w.heap.size+1,1,none⟩ v):=
 ⟨za5 (za5 h.cells.1 (by omega)) (by omega),za5 (za5 h.cells.2 (by omega)) (by omega)⟩
theorem zE7(ab:Int)(b off cc:Nat)(xs:List Int)(w:zi)(hI:za3 w (some ⟨b,off,none⟩) xs)(hl:xs.length<=12):
 Calls zh 84 #[.agg #[ze zd ab,za (some ⟨b,off,none⟩) xs.length cc]] w fun e w'=>∃g c,e=.returned (.agg #[ze zd ab,za (some ⟨g,0,none⟩) xs.length c])/\Below w.heap.size w w'/\w'.ownsRow w.heap.size 2 1 (za (some ⟨g,0,none⟩) xs.length c) xs.length (xs.map (ze zd)):=by
 have HI:Hid (za3 w (some ⟨b,off,none⟩) xs):=hI;clear hI;have C0:Hid (RB2 w ((w.alloc (zg #[ze zd ab,za (some ⟨b,off,none⟩) xs.length cc] 80)).alloc (zg #[ze zd 0,za none 0 0] 80)) #[ze zd ab,za (some ⟨b,off,none⟩) xs.length cc]):=RB2.new w _;go_enter Tryz.func84,Tryz.ntmps84
 go_wp2_with fail
 generalize((w.alloc _).alloc _)=W0 at*;have kS:=(C0.X.below (y5 _ _).drew).cells
 go_region_held3 (fun W=>W.cell? ⟨w.heap.size,0,none⟩=some (ze zd ab)/\W.cell? ⟨w.heap.size,1,none⟩=some (za (some ⟨b,off,none⟩) xs.length cc)) (first|with_reducible exact kS|with_reducible exact RB2.cellss C1.X _ _) ((first
  |(go_at_call 83
    with_reducible refine(z73 b off cc xs W0.drew ((HI.X.below C0.X.b).below (y5 _ _).drew) (by omega)).mono ?_
    rintro e w1 ⟨g,cg,rfl,hb,ho⟩;have C1:Hid (RB2 w w1 #[ze zd ab,za (some ⟨b,off,none⟩) xs.length cc]):=C0.X.below ((y5 _ _).drew.trans (hb.mono (zT _)));have O1:Hid (w1.ownsRow W0.heap.size 2 1 (za (some ⟨g,0,none⟩) xs.length cg) xs.length (xs.map (ze zd))):=ho;have kS:=C1.X.cells;obtain⟨u0,u1⟩:=za1 C1.X.2.2;have uf:=fun i=>yZ _ _ i _ _ C1.X.2.2;clear hb ho)))
 all_goals
  clear kS;have LG:Hid _:=za2 C0.X.2.2;go_wp2;refine xe (v:=.agg #[ze zd ab,za (some ⟨g,0,none⟩) xs.length cg]) (by simp[results,Tryz.results84,go_sem,u0,u1]) rfl ⟨g,cg,rfl,?_,?_⟩
  ·repeat(first|with_reducible exact C1.X.b|refine xq ?_ (by simp<;>omega) _)
  ·exact zb5 (zg1 (zg1 O1.X LG.X) LG.X) (by have:=LG.X;omega)
