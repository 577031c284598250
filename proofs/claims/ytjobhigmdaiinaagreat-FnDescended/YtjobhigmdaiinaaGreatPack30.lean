import Derived.Test.YtjobhigmdaiinaaGreatPack1
import Derived.Shelf.SlicesE.Compact
import Derived.Lib.OwnBridge
namespace Go.Proofs.YtjobhigmdaiinaaGreat
open Go.Shelf
def Tryz.lCompact_ren:Go.Shelf.Ren:=⟨fun|43=>128|n=>n,fun|0=>0|3=>3|4=>4|22=>24|23=>2|n=>n,fun|n=>n⟩
theorem Tryz.lCompact:SlLaysE.n43 Tryz.prog Tryz.lCompact_ren:={
 mixed:=by kernel_rfl
 f43:=⟨Tryz.f128.name,by decide,Tryz.func128.trans (congrArg some (by kernel_rfl))⟩
 t0:=Tryz.underlying0
 a0:=Tryz.isAgg0
 z0:=Tryz.sizeOf0
 v0:=Tryz.zeroValue0
 t3:=Tryz.underlying3
 a3:=Tryz.isAgg3
 z3:=Tryz.sizeOf3
 v3:=Tryz.zeroValue3
 t4:=Tryz.underlying4
 a4:=Tryz.isAgg4
 z4:=Tryz.sizeOf4
 v4:=Tryz.zeroValue4
 t22:=Tryz.underlying24
 a22:=Tryz.isAgg24
 z22:=Tryz.sizeOf24
 v22:=Tryz.zeroValue24
 a23:=Tryz.isAgg2
 z23:=Tryz.sizeOf2}
end Go.Proofs.YtjobhigmdaiinaaGreat
namespace Go.Proofs.YtjobhigmdaiinaaGreat
open Go.RowKit Go.Sort Go.Lib
def z06(x y:Int):List Int:=if x=y then [x]else [x,y]
theorem zT7(x y:Int):compactUpTo #[x,y] 2=z06 x y:=by
 unfold z06;by_cases h:x=y
 ·subst h;simp[compactUpTo,keeps,List.range_succ]
 ·simp[compactUpTo,keeps,List.range_succ,h,Ne.symm h]
theorem zK5(x y:Int)(g cap base:Nat)(w:World)(ho:w.ownsRow base 2 1 (.slice (some ⟨g,0,none⟩) 2 cap) 2 ([x,y].map (Value.int .i64))):
 Calls Tryz.prog 128 #[.slice (some ⟨g,0,none⟩) 2 cap] w fun e w'=>e=.returned (.slice (some ⟨g,0,none⟩) (z06 x y).length cap)/\Below base w w'/\w'.ownsRow base 2 1 (.slice (some ⟨g,0,none⟩) (z06 x y).length cap) (z06 x y).length ((z06 x y).map (Value.int .i64)):=by
 obtain⟨g',cap',e1,hb,hlt,hn,hm,_,hH⟩:=holds_of_ownsRow (enc:=Value.int .i64) (zs:=[x,y]) ho (by simp);simp at e1;obtain⟨rfl,rfl⟩:=e1;have hc:=AnyE.slices_Compact Tryz.lCompact (Value.int .i64) (fun _=>rfl) (EqlAt.intD _ _ _) (NeqAt.intD _ _ _) 0 Tryz.zeroValue2 g 0 cap #[x,y] w hH (by simp) (by simpa using hn);have e2:compactUpTo #[x,y] (#[x,y]:Array Int).size=z06 x y:=zT7 x y;rw[e2]at hc;refine hc.mono ?_;rintro e w' ⟨rfl,q,rfl⟩;have hl:(z06 x y).length<=2:=by unfold z06;split<;>simp
 refine⟨rfl,below_putRow (Below.refl _ _) hb,?_⟩;have hh:=ownsRow_putRow (q:=q) (k:=(z06 x y).length) (ys:=z06 x y++List.replicate (2 - (z06 x y).length) 0) ho (by simp;omega) (by simpa using hl);have e3:(z06 x y++List.replicate (2 - (z06 x y).length) (0:Int)).take (z06 x y).length=z06 x y:=by simp
 rw[e3]at hh;exact hh
end Go.Proofs.YtjobhigmdaiinaaGreat
