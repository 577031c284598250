import Derived.Test.YtjobhigmdaiinaaGreatPack0
import Derived.Test.YtjobhigmdaiinaaGreatPack1
import Derived.Shelf.SlicesE.Delete
import Derived.Lib.OwnBridge
namespace Go.Proofs.YtjobhigmdaiinaaGreat
open Go.Shelf
def Tryz.lDelete_ren:Go.Shelf.Ren:=⟨fun|45=>127|n=>n,fun|0=>0|3=>3|4=>4|22=>24|23=>2|n=>n,fun|n=>n⟩
theorem Tryz.lDelete:SlLaysE.n45 Tryz.prog Tryz.lDelete_ren:={
 mixed:=by kernel_rfl
 f45:=⟨Tryz.f127.name,by decide,Tryz.func127.trans (congrArg some (by kernel_rfl))⟩
 t0:=Tryz.underlying0
 a0:=Tryz.isAgg0
 z0:=Tryz.sizeOf0
 v0:=Tryz.zeroValue0
 t3:=Tryz.underlying3
 a3:=Tryz.isAgg3
 z3:=Tryz.sizeOf3
 v3:=Tryz.zeroValue3
 t4:=Tryz.underlying4
 a4:=Tryz.isAgg4
 z4:=Tryz.sizeOf4
 v4:=Tryz.zeroValue4
 t22:=Tryz.underlying24
 a22:=Tryz.isAgg24
 z22:=Tryz.sizeOf24
 v22:=Tryz.zeroValue24
 a23:=Tryz.isAgg2
 z23:=Tryz.sizeOf2}
end Go.Proofs.YtjobhigmdaiinaaGreat
namespace Go.Proofs.YtjobhigmdaiinaaGreat
open Go.RowKit Go.Sort Go.Lib
theorem zT3(g cap i base:Nat)(ids:List Int)(w:World)(ho:w.ownsRow base 2 1 (.slice (some ⟨g,0,none⟩) ids.length cap) ids.length (ids.map (Value.int .i64)))(hi:i<ids.length):
 Calls Tryz.prog 127 #[.slice (some ⟨g,0,none⟩) ids.length cap,.int .i64 (i:Nat),.int .i64 ((i+1:Nat):Int)] w fun e w'=>e=.returned (.slice (some ⟨g,0,none⟩) (ids.length - 1) cap)/\Below base w w'/\w'.ownsRow base 2 1 (.slice (some ⟨g,0,none⟩) (ids.length - 1) cap) (ids.length - 1) ((zB2 ids i).map (Value.int .i64)):=by
 obtain⟨g',cap',e1,hb,hlt,hn,hm,_,hH⟩:=holds_of_ownsRow (enc:=Value.int .i64) ho (by simp);simp at e1;obtain⟨rfl,rfl⟩:=e1;have hinf:=yj2;cases hq:Tryz.prog.info? 2 with
 |none=>rw[hq]at hinf;simp at hinf
 |some i0=>
  rw[hq]at hinf;simp only[Option.map_some,Option.some.injEq,Prod.mk.injEq]at hinf;have hc:=AnyE.slices_Delete Tryz.lDelete (Value.int .i64) (fun _=>rfl) 0 Tryz.zeroValue2 i0 hq hinf.2.1 g 0 cap i (i+1) ids.toArray w hH (by simpa using hn) (by unfold maxLen at hm;omega) (by omega) (by simp;omega);have e:ids.toArray.size=ids.length:=by simp
  rw[e]at hc;refine hc.mono ?_;rintro e w' ⟨rfl,q,rfl⟩;have e2:ids.length - (i+1 - i)=ids.length - 1:=by omega
  refine⟨by rw[e2],below_putRow (Below.refl _ _) hb,?_⟩;have hh:=ownsRow_putRow (q:=q) (k:=ids.length - 1) (ys:=ids.take i++ids.drop (i+1)++List.replicate (i+1 - i) 0) ho (by simp;omega) (by omega);have e3:(ids.take i++ids.drop (i+1)++List.replicate (i+1 - i) (0:Int)).take (ids.length - 1)=zB2 ids i:=by
   unfold zB2;rw[List.take_append_of_le_length (by simp;omega),List.take_of_length_le (by simp;omega)]
  rw[e3]at hh;exact hh
end Go.Proofs.YtjobhigmdaiinaaGreat
