import Derived.Test.YtjobhigmdaiinaaGreatPack1
import Derived.Test.YtjobhigmdaiinaaGreatPack4
import Derived.Test.YtjobhigmdaiinaaGreatPack5
import Derived.Shelf.SlicesE.DeleteFunc
import Derived.Lib.OwnBridge
namespace Go.Proofs.YtjobhigmdaiinaaGreat
open Go.Shelf Go.RowKit Go.Lib Go.Sort
def Tryz.lDelF_ren:Go.Shelf.Ren:=⟨fun|6=>106|10=>64|n=>n,fun|0=>0|3=>3|4=>4|22=>24|23=>2|25=>105|n=>n,fun|n=>n⟩
theorem Tryz.lDelF:SlLaysH.n10 Tryz.prog Tryz.lDelF_ren:={
 mixed:=by kernel_rfl
 f6:=⟨Tryz.f106.name,by decide,Tryz.func106.trans (congrArg some (by kernel_rfl))⟩
 f10:=⟨Tryz.f64.name,by decide,Tryz.func64.trans (congrArg some (by kernel_rfl))⟩
 t0:=Tryz.underlying0
 a0:=Tryz.isAgg0
 z0:=Tryz.sizeOf0
 v0:=Tryz.zeroValue0
 t3:=Tryz.underlying3
 a3:=Tryz.isAgg3
 z3:=Tryz.sizeOf3
 v3:=Tryz.zeroValue3
 t4:=Tryz.underlying4
 a4:=Tryz.isAgg4
 z4:=Tryz.sizeOf4
 v4:=Tryz.zeroValue4
 t22:=Tryz.underlying24
 a22:=Tryz.isAgg24
 z22:=Tryz.sizeOf24
 v22:=Tryz.zeroValue24
 a23:=Tryz.isAgg2
 z23:=Tryz.sizeOf2
 t25:=Tryz.underlying105
 a25:=Tryz.isAgg105
 z25:=Tryz.sizeOf105
 v25:=Tryz.zeroValue105}
theorem zW8(x id:Int)(ps:Nat)(w:World)(h:w.cell? ⟨ps,0,none⟩=some (.int .i64 id)):Calls Tryz.prog 65 #[.int .i64 x,.pointer (some ⟨ps,0,none⟩)] w fun e w'=>e=.returned (.bool (x==id))/\w'=w:=by
 go_enter Tryz.func65,Tryz.ntmps65;go_wp2;go_ret;exact⟨by first|rfl|simp,rfl⟩
theorem zE0:∀args w,(callFunc 65 args).run Tryz.prog w=.ok (.enter 65 args) w:=enters_of Tryz.func65 (by decide) (c:=_) rfl
theorem zM8(v:Value)(m base ps:Nat)(L:List Int)(id:Int)(w:World)(ho:w.ownsRow base 2 1 v m (L.map (Value.int .i64)))(hm:L.length=m)(hl:m<=1000)(hb:base<=w.heap.size)(hps:w.cell? ⟨ps,0,none⟩=some (.int .i64 id))(hpb:ps<base):
 Calls Tryz.prog 64 #[v,.func (.func 65) #[] #[.pointer (some ⟨ps,0,none⟩)]] w fun e w'=>∃sl,e=.returned sl/\Below base w w'/\w'.ownsRow base 2 1 sl (zh7 L id).length ((zh7 L id).map (Value.int .i64)):=by
 have hcut:(L.filter fun x=> !(x==id))=zh7 L id:=by
  unfold zh7
  congr 1
  funext x;by_cases h:x=id
  ·simp[h]
  ·simp[h]
 rcases own_kinds ho with⟨rfl,h0⟩|⟨g,c,rfl,hbg,hgl⟩
 ·subst h0
  have e:L=[]:=List.length_eq_zero_iff.1 hm;subst e;have hIF:=AnyE.slices_IndexFunc_empty (P:=Tryz.prog) (ρ:=Tryz.lDelF_ren) {Tryz.lDelF with} none 0 (.func (.func 65) #[] #[.pointer (some ⟨ps,0,none⟩)]) w;go_enter Tryz.func64,Tryz.ntmps64
  go_wp2_with(go_at_call 106;refine hIF.mono ?_;rintro e w' ⟨rfl,hw⟩;subst hw)
  go_ret;exact⟨_,rfl,Below.refl _ _,⟨rfl,.inl ⟨rfl,rfl⟩⟩⟩
 ·obtain⟨g',cap',e1,_,_,hn,hm9,_,hH⟩:=holds_of_ownsRow (enc:=Value.int .i64) ho (by simp)
  simp at e1;obtain⟨rfl,rfl⟩:=e1;have hsp:∀(W:World),Below base w W->∀x:Int,FnGives Tryz.prog 65 #[.pointer (some ⟨ps,0,none⟩)] #[Value.int .i64 x] (.bool (x==id)) W:=fun W hW x=>
   (zW8 x id ps W ((hW.cell (p:=⟨ps,0,none⟩) hpb).trans hps)).mono fun _ _ ⟨h1,h2⟩=>⟨h1,0,by rw[h2];rfl⟩
  have hD:=AnyE.slices_DeleteFunc Tryz.lDelF (Value.int .i64) (fun _=>rfl) (fun x=>x==id) 65 #[.pointer (some ⟨ps,0,none⟩)] zE0 0 Tryz.zeroValue2 g 0 c L.toArray w
   (fun W x hW=>hsp W (hW.mono hb) x)
   (fun n os dk x _=>hsp _ (by
     have h1:=below_putRow (enc:=Value.int .i64) (q:=n) (d:=dk) (Below.refl base w) hbg;unfold sortWorld;refine⟨h1.os,h1.tape,h1.output,Nat.le_trans h1.size (by simp[grow]),fun k hk=> ?_⟩;rw[<-h1.block k hk];have:k<(putRow (Value.int .i64) (Sort.ahead w n) g 0 dk).heap.size:=Nat.lt_of_lt_of_le hk (Nat.le_trans hb h1.size);simp only[grow];rw[Array.getElem?_append_left this]) x)
   hH (by simp;omega) (by simpa[hm]using hn)
  have e:L.toArray.size=m:=by simp[hm]
  rw[e]at hD;refine hD.mono ?_;rintro e w' ⟨rfl,q,rfl⟩;simp only[hcut];have hle:(zh7 L id).length<=m:=by rw[<-hm];exact z00 L id
  refine⟨_,rfl,below_putRow (Below.refl _ _) hbg,?_⟩;have hh:=ownsRow_putRow (q:=q) (k:=(zh7 L id).length) (ys:=zh7 L id++List.replicate (m - (zh7 L id).length) 0) ho (by simp;omega) hle;rw[List.take_left' rfl]at hh;exact hh
end Go.Proofs.YtjobhigmdaiinaaGreat
