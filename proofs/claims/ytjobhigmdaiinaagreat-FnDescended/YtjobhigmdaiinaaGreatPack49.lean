import Derived.Test.YtjobhigmdaiinaaGreatPack1
import Derived.Test.YtjobhigmdaiinaaGreatPack4
import Derived.Test.YtjobhigmdaiinaaGreatPack19
import Derived.Test.YtjobhigmdaiinaaGreatPack35
namespace Go.Proofs.YtjobhigmdaiinaaGreat
end Go.Proofs.YtjobhigmdaiinaaGreat
namespace Go.Proofs.YtjobhigmdaiinaaGreat
open Go.RowKit
def zJ9(k:Nat):List Int:=(List.range k).map (fun i:Nat=>(i:Int))
theorem zT0(k:Nat):(zJ9 k).length=k:=by simp[zJ9]
theorem yi6(k:Nat):zJ9 (k+1)=zJ9 k++[(k:Int)]:=by simp[zJ9,List.range_succ]
theorem yx0{m k:Nat}(h:k<m):(zJ9 m).getD k 0=(k:Int):=by simp[zJ9,List.getD,h]
def PWF(w W:World)(rs:Array Value)(sl:Value)(k:Nat)(xs:List Value):Prop:=Below w.heap.size w W/\W.heap[w.heap.size]? =some (.cells rs 43 (0,0))/\W.ownsRow (w.heap.size+1) 2 1 sl k xs
theorem PWF.b{w W:World}{rs:Array Value}{sl:Value}{k:Nat}{xs:List Value}(h:PWF w W rs sl k xs):Below w.heap.size w W:=h.1
theorem PWF.o{w W:World}{rs:Array Value}{sl:Value}{k:Nat}{xs:List Value}(h:PWF w W rs sl k xs):W.ownsRow (w.heap.size+1) 2 1 sl k xs:=h.2.2
theorem PWF.r{w W:World}{rs:Array Value}{sl:Value}{k:Nat}{xs:List Value}(h:PWF w W rs sl k xs):W.heap[w.heap.size]? =some (.cells rs 43 (0,0)):=h.2.1
theorem PWF.size{w W:World}{rs:Array Value}{sl:Value}{k:Nat}{xs:List Value}(h:PWF w W rs sl k xs):w.heap.size+1<=W.heap.size:=za3 h.2.1
theorem PWF.grown{w W W':World}{rs:Array Value}{sl sl':Value}{k k':Nat}{xs xs':List Value}{o:Obj}(h:PWF w W rs sl k xs)(hg:(W.alloc o).grownBy W' sl.ownBlock)(ho:W'.ownsRow (w.heap.size+1) 2 1 sl' k' xs'):PWF w W' rs sl' k' xs':=by
 have hA:Below w.heap.size w (W.alloc o):=h.1.alloc h.1.size _;have hr:(W.alloc o).heap[w.heap.size]? =some (.cells rs 43 (0,0)):=(heap_alloc_old _ _ (za3 h.2.1)).trans h.2.1;refine⟨hA.grown hg hA.size (fun k e=>by have:=(h.o.lt k e).1;omega),?_,ho⟩;exact(hg.block _ (za3 hr) (fun e=>by have:=(h.o.lt _ e.symm).1;omega)).trans hr
theorem yt6(k:Nat):(zJ9 (k+1)).map (Value.int .i64)=(zJ9 k).map (Value.int .i64)++[.int .i64 (k:Int)]:=by rw[yi6,List.map_append];rfl
set_option maxHeartbeats 1000000 in
theorem zF1(veh:Int)(bi:Option Addr)(c2 m:Nat)(w:World)(h12:m<=12):
 Calls Tryz.prog 34 #[.agg #[.int .i64 veh,.slice bi m c2]] w fun e w'=>∃g c,e=.returned (.slice (some ⟨g,0,none⟩) (m+1) c)/\Below w.heap.size w w'/\za0 w' (some ⟨g,0,none⟩) (zJ9 (m+1))/\w.heap.size<=g:=by
 have R0:Hid ((w.alloc (.cells #[Value.int .i64 veh,Value.slice bi m c2] 43)).heap[w.heap.size]? =some (.cells #[Value.int .i64 veh,Value.slice bi m c2] 43 (0,0))):=heap_alloc_new _ _;have hwr:IntKind.i64.wrap ((m:Int)+1)=(m:Int)+1:=IntWalk.i64_in _ (by omega);go_enter Tryz.func34,Tryz.ntmps34;obtain⟨d0,d1⟩:=za2 R0.out
 go_wp2_with(first
  |(refine yn0 _ rfl _ _ rfl (w.heap.size+1) _ _ ((m:Int)+1) (m+1) rfl rfl (by omega) (by omega) (by simp) ?_
    intro w1 hown hg;have O1:Hid (PWF w w1 #[Value.int .i64 veh,Value.slice bi m c2] (.slice (some ⟨(w.alloc (Obj.cells #[Value.int .i64 veh,Value.slice bi m c2] 43)).heap.size,0,none⟩) 0 (m+1)) 0 []):=⟨((Below.refl w.heap.size w).alloc (Nat.le_refl _) _).grown hg (by simp) (fun k e=>by cases e),(hg.block _ (by simp) (by simp)).trans (heap_alloc_new _ _),hown⟩;clear hown hg d0 d1;obtain⟨d0,d1⟩:=za2 O1.r))
 go_loopw[3,14] (fun sl t wr=>∃k:Nat,k<=m+1/\t=.int .i64 k/\PWF w wr #[Value.int .i64 veh,Value.slice bi m c2] sl k ((zJ9 k).map (Value.int .i64))/\sl≠.slice none 0 0) (fun _ t _=>m+1 - (intOf t).toNat)
 case atStart=>exact⟨0,Nat.zero_le _,rfl,by simpa[zJ9]using O1.out,by simp⟩
 case round=>
  clear O1 R0 d0 d1;obtain⟨k,hk,rfl,ho,hne⟩:=hrel;have HO:Hid (PWF w wr #[Value.int .i64 veh,Value.slice bi m c2] u3 k ((zJ9 k).map (Value.int .i64))):=ho;clear ho;by_cases hlt:k<m+1
  ·have hlt':(k:Int)<(m:Int)+1:=by omega
   have hwk:IntKind.i64.wrap ((k:Int)+1)=((k+1:Nat):Int):=by rw[IntWalk.i64_in _ (by omega)];omega
   have HNE:Hid (u3≠.slice none 0 0):=hne;clear hne
   go_wp2_with(first
    |(at_builtin
      refine zZ8 _ rfl _ _ rfl (w.heap.size+1) u3 k _ rfl (HO.o.alloc _) _ _ (.int .i64 (k:Int)) rfl (zn7 _ _ _ _ (by simp)) rfl (by omega) (Nat.le_trans HO.size (by simp)) ?_;intro v' w4 hown hg;have NE4:Hid (v'≠.slice none 0 0):=by
       intro e;rw[e]at hown;have hz:=hown.2;rcases hz with⟨_,h0⟩|⟨_,_,_,e2,_⟩
       ·simp at h0
       ·cases e2
      have O4:Hid (PWF w w4 #[Value.int .i64 veh,Value.slice bi m c2] v' (k+1) ((zJ9 (k+1)).map (Value.int .i64))):=HO.grown hg (by rw[yt6];exact hown);clear hown hg))
   go_roundw
   case rel=>exact⟨k+1,by omega,by first|rfl|go_num,O4.out,NE4.out⟩
   case measure=>simp[intOf];omega
  ·have hkn:k=m+1:=by omega
   subst hkn;have hlt':¬((m:Int)+1<(m:Int)+1):=by omega
   obtain⟨g,c,rfl⟩:∃g c,u3=.slice (some ⟨g,0,none⟩) (m+1) c:=by
    rcases zk0 HO.o with h|h
    ·exact absurd h hne
    ·exact h
   clear hne;go_wp2;go_ret;exact⟨g,⟨c,rfl⟩,HO.b,zd6 HO.o,by have:=(HO.o.lt g rfl).1;omega⟩
end Go.Proofs.YtjobhigmdaiinaaGreat
