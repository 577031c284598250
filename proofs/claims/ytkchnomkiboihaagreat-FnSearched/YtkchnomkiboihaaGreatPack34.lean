import Derived.Test.YtkchnomkiboihaaGreatPack1
import Derived.Shelf.SlicesE.Compact
import Derived.Lib.OwnBridge
set_option linter.unusedSimpArgs false
namespace Go.Proofs.YtkchnomkiboihaaGreat
open Go.Shelf
open Q
def Tryz.lCompact_ren:Go.Shelf.Ren:=⟨fun|43=>181|n=>n,fun|0=>0|3=>3|4=>4|22=>24|23=>2|n=>n,fun|n=>n⟩
theorem Tryz.lCompact:SlLaysE.n43 Tryz.prog Tryz.lCompact_ren:={
 mixed:=by kernel_rfl
 f43:=⟨Tryz.f181.name,by decide,Tryz.func181.trans (congrArg some (by kernel_rfl))⟩
 t0:=Tryz.underlying0
 a0:=Tryz.isAgg0
 z0:=Tryz.sizeOf0
 v0:=Tryz.zeroValue0
 t3:=Tryz.underlying3
 a3:=Tryz.isAgg3
 z3:=Tryz.sizeOf3
 v3:=Tryz.zeroValue3
 t4:=Tryz.underlying4
 a4:=Tryz.isAgg4
 z4:=Tryz.sizeOf4
 v4:=Tryz.zeroValue4
 t22:=Tryz.underlying24
 a22:=Tryz.isAgg24
 z22:=Tryz.sizeOf24
 v22:=Tryz.zeroValue24
 a23:=Tryz.isAgg2
 z23:=Tryz.sizeOf2}
end Go.Proofs.YtkchnomkiboihaaGreat
namespace Go.Proofs.YtkchnomkiboihaaGreat
open Value renaming slice→za,int→ze
open IntKind renaming i64→zd
open List renaming replicate→zE
open Go.RowKit Go.Sort Go.Lib
open Q
def z67(x y:Int):List Int:=if x=y then [x]else [x,y]
theorem ye7(x y:Int):compactUpTo #[x,y] 2=z67 x y:=by
 unfold z67;by_cases h:x=y
 ·subst h;simp[compactUpTo,keeps,yN]
 ·simp[compactUpTo,keeps,yN,h,Ne.symm h]
theorem zV8(x y:Int)(g ac base:Nat)(w:World)(ho:w.ownsRow base 2 1 (za (some ⟨g,0,none⟩) 2 ac) 2 ([x,y].map (ze zd))):
 Calls Tryz.prog 181 #[za (some ⟨g,0,none⟩) 2 ac] w fun e w'=>e=.returned (za (some ⟨g,0,none⟩) (z67 x y).length ac)/\Below base w w'/\w'.ownsRow base 2 1 (za (some ⟨g,0,none⟩) (z67 x y).length ac) (z67 x y).length ((z67 x y).map (ze zd)):=by
 obtain⟨g',t',e1,hb,ah,hn,hm,_,hH⟩:=holds_of_ownsRow (enc:=ze zd) (zs:=[x,y]) ho (by simp);simp at e1;obtain⟨rfl,rfl⟩:=e1;have hc:=AnyE.slices_Compact Tryz.lCompact (ze zd) (fun _=>rfl) (EqlAt.intD _ _ _) (NeqAt.intD _ _ _) 0 Tryz.zeroValue2 g 0 ac #[x,y] w hH (by simp) (by simpa using hn);have e2:compactUpTo #[x,y] (#[x,y]:Array Int).size=z67 x y:=ye7 x y;rw[e2]at hc;refine hc.mono ?_;rintro e w' ⟨rfl,q,rfl⟩;have hl:(z67 x y).length<=2:=by unfold z67;split<;>simp
 refine⟨rfl,below_putRow (y5 _ _) hb,?_⟩;have hh:=ownsRow_putRow (q:=q) (k:=(z67 x y).length) (ys:=z67 x y++zE (2 - (z67 x y).length) 0) ho (by simp;omega) (by simpa using hl);have e3:(z67 x y++zE (2 - (z67 x y).length) (0:Int)).take (z67 x y).length=z67 x y:=by simp
 rw[e3]at hh;exact hh
