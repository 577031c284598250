import Derived.Test.YtjobhigmdaiinaaGreatPack1
import Derived.Test.YtjobhigmdaiinaaGreatPack4
import Derived.Test.YtjobhigmdaiinaaGreatPack22
import Derived.Lib.SmallJoins
import Derived.Deep.RegionHeld3
namespace Go.Proofs.YtjobhigmdaiinaaGreat
open Go.RowKit
set_option maxHeartbeats 1000000 in
theorem zT8(c:Nat)(w:World):
 Calls Tryz.prog 53 #[.slice none 0 c] w fun e w'=>e=.returned (.slice none 0 0)/\w'=w:=by
 have hnl:=fun(W:World)=>Lib.run_eql_slice_nil (P:=Tryz.prog) W 24 _ none 0 c 0 0 Tryz.underlying24;go_enter Tryz.func53,Tryz.ntmps53;go_wp2;go_ret;exact⟨rfl,rfl⟩
theorem z68(bi:Option Addr)(c n:Nat)(ids:List Int)(w:World)(hI:za0 w bi ids)(hn:ids.length=n)(hl:n<=1048576)(hbi:(bi=none/\n=0)∨∃b off,bi=some ⟨b,off,none⟩):
 Calls Tryz.prog 53 #[.slice bi n c] w fun e w'=>∃sl,e=.returned sl/\Below w.heap.size w w'/\w'.ownsRow w.heap.size 2 1 sl n (ids.map (Value.int .i64)):=by
 subst hn;rcases hbi with⟨rfl,h0⟩|⟨b,off,rfl⟩
 ·have h1:ids=[]:=List.length_eq_zero_iff.1 h0
  subst h1;refine(zT8 c w).mono ?_;rintro e w' ⟨rfl,rfl⟩;exact⟨_,rfl,Below.refl _ _,World.ownsRow_nil _ _ _ _⟩
 ·refine(z98 b off c ids w hI hl).mono ?_
  rintro e w' ⟨g,cg,rfl,h1,h2⟩;exact⟨_,rfl,h1,h2⟩
def RB2(w W:World)(rs:Array Value):Prop:=Below w.heap.size w W/\W.heap[w.heap.size]? =some (.cells rs 43 (0,0))/\W.heap[w.heap.size+1]? =some (.cells #[Value.int .i64 0,Value.slice none 0 0] 43 (0,0))
theorem RB2.new(w:World)(rs:Array Value):RB2 w ((w.alloc (.cells rs 43)).alloc (.cells #[Value.int .i64 0,Value.slice none 0 0] 43)) rs:=⟨((Below.refl _ _).alloc (Nat.le_refl _) _).alloc (by simp) _,heap_alloc2_old _ _ _,heap_alloc2_new _ _ _⟩
theorem RB2.below{w W W':World}{rs:Array Value}(h:RB2 w W rs)(hb:Below W.heap.size W W'):RB2 w W' rs:=⟨h.1.trans (hb.mono h.1.size),za1 hb (za3 h.2.1) h.2.1,za1 hb (za3 h.2.2) h.2.2⟩
theorem RB2.b{w W:World}{rs:Array Value}(h:RB2 w W rs):Below w.heap.size w W:=h.1
theorem RB2.cells{w W:World}{r0 r1:Value}(h:RB2 w W #[r0,r1]):W.cell? ⟨w.heap.size,0,none⟩=some r0/\W.cell? ⟨w.heap.size,1,none⟩=some r1:=za2 h.2.1
theorem RB2.cellss{w W:World}{r0 r1:Value}(h:RB2 w W #[r0,r1])(u v:Value):
 (fun X:World=>X.cell? ⟨w.heap.size,0,none⟩=some r0/\X.cell? ⟨w.heap.size,1,none⟩=some r1) ((W.setCell ⟨w.heap.size+1,0,none⟩ u).setCell ⟨w.heap.size+1,1,none⟩ v):=
 ⟨za4 (za4 h.cells.1 (by omega)) (by omega),za4 (za4 h.cells.2 (by omega)) (by omega)⟩
set_option maxHeartbeats 1000000 in
theorem z77(veh:Int)(b off cc:Nat)(xs:List Int)(w:World)(hI:za0 w (some ⟨b,off,none⟩) xs)(hl:xs.length<=12):
 Calls Tryz.prog 54 #[.agg #[.int .i64 veh,.slice (some ⟨b,off,none⟩) xs.length cc]] w fun e w'=>∃g c,e=.returned (.agg #[.int .i64 veh,.slice (some ⟨g,0,none⟩) xs.length c])/\Below w.heap.size w w'/\w'.ownsRow w.heap.size 2 1 (.slice (some ⟨g,0,none⟩) xs.length c) xs.length (xs.map (Value.int .i64)):=by
 have HI:Hid (za0 w (some ⟨b,off,none⟩) xs):=hI;clear hI;have C0:Hid (RB2 w ((w.alloc (.cells #[Value.int .i64 veh,Value.slice (some ⟨b,off,none⟩) xs.length cc] 43)).alloc (.cells #[Value.int .i64 0,Value.slice none 0 0] 43)) #[Value.int .i64 veh,Value.slice (some ⟨b,off,none⟩) xs.length cc]):=RB2.new w _;go_enter Tryz.func54,Tryz.ntmps54
 go_wp2_with fail
 generalize((w.alloc (.cells #[Value.int .i64 veh,Value.slice (some ⟨b,off,none⟩) xs.length cc] 43)).alloc (.cells #[Value.int .i64 0,Value.slice none 0 0] 43))=W0 at*;have kS:=(C0.out.below (Below.refl _ _).drew).cells
 go_region_held3 (fun W=>W.cell? ⟨w.heap.size,0,none⟩=some (.int .i64 veh)/\W.cell? ⟨w.heap.size,1,none⟩=some (.slice (some ⟨b,off,none⟩) xs.length cc)) (first|with_reducible exact kS|with_reducible exact RB2.cellss C1.out _ _) ((first
  |(go_at_call 53
    with_reducible refine(z98 b off cc xs W0.drew ((HI.out.below C0.out.b).below (Below.refl _ _).drew) (by omega)).mono ?_
    rintro e w1 ⟨g,cg,rfl,hb,ho⟩;have C1:Hid (RB2 w w1 #[Value.int .i64 veh,Value.slice (some ⟨b,off,none⟩) xs.length cc]):=C0.out.below ((Below.refl _ _).drew.trans (hb.mono (Nat.le_refl _)));have O1:Hid (w1.ownsRow W0.heap.size 2 1 (.slice (some ⟨g,0,none⟩) xs.length cg) xs.length (xs.map (Value.int .i64))):=ho;have kS:=C1.out.cells;obtain⟨u0,u1⟩:=za2 C1.out.2.2;have uf:=fun i=>frozen_of_row _ _ i _ _ C1.out.2.2;clear hb ho)))
 all_goals
  clear kS;have LG:Hid _:=za3 C0.out.2.2;go_wp2;refine bodyPost_ret (v:=.agg #[.int .i64 veh,.slice (some ⟨g,0,none⟩) xs.length cg]) (by simp[results,Tryz.results54,go_sem,u0,u1]) rfl ⟨g,cg,rfl,?_,?_⟩
  ·repeat(first|with_reducible exact C1.out.b|refine Below.setCell ?_ (by simp<;>omega) _)
  ·exact zb7 (ze5 (ze5 O1.out LG.out) LG.out) (by have:=LG.out;omega)
end Go.Proofs.YtjobhigmdaiinaaGreat
