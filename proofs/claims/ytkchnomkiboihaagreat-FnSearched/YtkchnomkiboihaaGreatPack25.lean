import Derived.Test.YtkchnomkiboihaaGreatPack1
import Derived.Shelf.SlicesE.Delete
import Derived.Lib.OwnBridge
set_option linter.unusedSimpArgs false
namespace Go.Proofs.YtkchnomkiboihaaGreat
theorem jf:type_of% @Option.some.injEq:=@Option.some.injEq
open Go.Shelf
open Q
def Tryz.lDelete_ren:Go.Shelf.Ren:=⟨fun|45=>142|n=>n,fun|0=>0|3=>3|4=>4|22=>24|23=>2|n=>n,fun|n=>n⟩
theorem Tryz.lDelete:SlLaysE.n45 Tryz.prog Tryz.lDelete_ren:={
 mixed:=by kernel_rfl
 f45:=⟨Tryz.f142.name,by decide,Tryz.func142.trans (congrArg some (by kernel_rfl))⟩
 t0:=Tryz.underlying0
 a0:=Tryz.isAgg0
 z0:=Tryz.sizeOf0
 v0:=Tryz.zeroValue0
 t3:=Tryz.underlying3
 a3:=Tryz.isAgg3
 z3:=Tryz.sizeOf3
 v3:=Tryz.zeroValue3
 t4:=Tryz.underlying4
 a4:=Tryz.isAgg4
 z4:=Tryz.sizeOf4
 v4:=Tryz.zeroValue4
 t22:=Tryz.underlying24
 a22:=Tryz.isAgg24
 z22:=Tryz.sizeOf24
 v22:=Tryz.zeroValue24
 a23:=Tryz.isAgg2
 z23:=Tryz.sizeOf2}
end Go.Proofs.YtkchnomkiboihaaGreat
namespace Go.Proofs.YtkchnomkiboihaaGreat
open Value renaming slice→za,int→ze
open IntKind renaming i64→zd
open List renaming replicate→zE
open Go.RowKit Go.Sort Go.Lib
open Q
theorem yc5(g ac i base:Nat)(ids:List Int)(w:World)(ho:w.ownsRow base 2 1 (za (some ⟨g,0,none⟩) ids.length ac) ids.length (ids.map (ze zd)))(hi:i<ids.length):
 Calls Tryz.prog 142 #[za (some ⟨g,0,none⟩) ids.length ac,ze zd (i:Nat),ze zd ((i+1:Nat):Int)] w fun e w'=>e=.returned (za (some ⟨g,0,none⟩) (ids.length - 1) ac)/\Below base w w'/\w'.ownsRow base 2 1 (za (some ⟨g,0,none⟩) (ids.length - 1) ac) (ids.length - 1) ((zl2 ids i).map (ze zd)):=by
 obtain⟨g',t',e1,hb,ah,hn,hm,_,hH⟩:=holds_of_ownsRow (enc:=ze zd) ho (by simp);simp at e1;obtain⟨rfl,rfl⟩:=e1;have d9:=yh7;cases hq:Tryz.prog.info? 2 with
 |none=>rw[hq]at d9;simp at d9
 |some i0=>
  rw[hq]at d9;simp only[yG,jf,Prod.mk.injEq]at d9;have hc:=AnyE.slices_Delete Tryz.lDelete (ze zd) (fun _=>rfl) 0 Tryz.zeroValue2 i0 hq d9.2.1 g 0 ac i (i+1) ids.toArray w hH (by simpa using hn) (by unfold maxLen at hm;omega) (by omega) (by simp;omega);have e:ids.toArray.size=ids.length:=by simp
  rw[e]at hc;refine hc.mono ?_;rintro e w' ⟨rfl,q,rfl⟩;have e2:ids.length - (i+1 - i)=ids.length - 1:=by omega
  refine⟨by rw[e2],below_putRow (y5 _ _) hb,?_⟩;have hh:=ownsRow_putRow (q:=q) (k:=ids.length - 1) (ys:=ids.take i++ids.drop (i+1)++zE (i+1 - i) 0) ho (by simp;omega) (by omega);have e3:(ids.take i++ids.drop (i+1)++zE (i+1 - i) (0:Int)).take (ids.length - 1)=zl2 ids i:=by
   unfold zl2;rw[List.take_append_of_le_length (by simp;omega),xF (by simp;omega)]
  rw[e3]at hh;exact hh
theorem ya1(g ac i base:Nat)(ids:List Int)(w:World)(ho:w.ownsRow base 2 1 (za (some ⟨g,0,none⟩) ids.length ac) ids.length (ids.map (ze zd)))(hi:i<ids.length):
 Calls Tryz.prog 142 #[za (some ⟨g,0,none⟩) ids.length ac,ze zd (i:Nat),ze zd ((i+1:Nat):Int)] w fun e w'=>e=.returned (za (some ⟨g,0,none⟩) (ids.length - 1) ac)/\w.grownBy w' (some g)/\w'.ownsRow base 2 1 (za (some ⟨g,0,none⟩) (ids.length - 1) ac) (ids.length - 1) ((zl2 ids i).map (ze zd)):=by
 obtain⟨g',t',e1,hb,ah,hn,hm,_,hH⟩:=holds_of_ownsRow (enc:=ze zd) ho (by simp);simp at e1;obtain⟨rfl,rfl⟩:=e1;have d9:=yh7;cases hq:Tryz.prog.info? 2 with
 |none=>rw[hq]at d9;simp at d9
 |some i0=>
  rw[hq]at d9;simp only[yG,jf,Prod.mk.injEq]at d9;have hc:=AnyE.slices_Delete Tryz.lDelete (ze zd) (fun _=>rfl) 0 Tryz.zeroValue2 i0 hq d9.2.1 g 0 ac i (i+1) ids.toArray w hH (by simpa using hn) (by unfold maxLen at hm;omega) (by omega) (by simp;omega);have e:ids.toArray.size=ids.length:=by simp
  rw[e]at hc;refine hc.mono ?_;rintro e w' ⟨rfl,q,rfl⟩;have e2:ids.length - (i+1 - i)=ids.length - 1:=by omega
  refine⟨by rw[e2],⟨rfl,rfl,rfl,by simp[putRow,mapBlock,Sort.ahead],fun k hk aq=>by simp[putRow,mapBlock,Sort.ahead,Array.getElem?_modify,show g≠k by intro e;exact aq (by rw[e])]⟩,?_⟩;have hh:=ownsRow_putRow (q:=q) (k:=ids.length - 1) (ys:=ids.take i++ids.drop (i+1)++zE (i+1 - i) 0) ho (by simp;omega) (by omega);have e3:(ids.take i++ids.drop (i+1)++zE (i+1 - i) (0:Int)).take (ids.length - 1)=zl2 ids i:=by
   unfold zl2;rw[List.take_append_of_le_length (by simp;omega),xF (by simp;omega)]
  rw[e3]at hh;exact hh
