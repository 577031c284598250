import Derived.Test.YtkchnomkiboihaaGreatPack5
import Derived.Shelf.SlicesE.DeleteFunc
import Derived.Lib.OwnBridge
namespace Go.Proofs.YtkchnomkiboihaaGreat
open IntKind renaming i64→zd
open Value renaming int→ze
open Proofs.Tryz renaming prog→zh
open Go.Shelf Go.RowKit Go.Lib Go.Sort
open Q
def Tryz.lDelF_ren:Go.Shelf.Ren:=⟨fun|6=>165|10=>160|n=>n,fun|0=>0|3=>3|4=>4|22=>24|23=>2|25=>67|n=>n,fun|n=>n⟩
theorem Tryz.lDelF:SlLaysH.n10 zh Tryz.lDelF_ren:={
 mixed:=by kernel_rfl
 f6:=⟨Tryz.f165.name,by decide,Tryz.func165.trans (congrArg some (by kernel_rfl))⟩
 f10:=⟨Tryz.f160.name,by decide,Tryz.func160.trans (congrArg some (by kernel_rfl))⟩
 t0:=Tryz.underlying0
 a0:=Tryz.isAgg0
 z0:=Tryz.sizeOf0
 v0:=Tryz.zeroValue0
 t3:=Tryz.underlying3
 a3:=Tryz.isAgg3
 z3:=Tryz.sizeOf3
 v3:=Tryz.zeroValue3
 t4:=Tryz.underlying4
 a4:=Tryz.isAgg4
 z4:=Tryz.sizeOf4
 v4:=Tryz.zeroValue4
 t22:=qb
 a22:=Tryz.isAgg24
 z22:=Tryz.sizeOf24
 v22:=Tryz.zeroValue24
 a23:=Tryz.isAgg2
 z23:=Tryz.sizeOf2
 t25:=Tryz.underlying67
 a25:=Tryz.isAgg67
 z25:=Tryz.sizeOf67
 v25:=Tryz.zeroValue67}
theorem yo7(x id:Int)(ps:Nat)(w:World)(h:w.cell? ⟨ps,0,none⟩=some (ze zd id)):Calls zh 161 #[ze zd x,.pointer (some ⟨ps,0,none⟩)] w fun e w'=>e=.returned (.bool (x==id))/\w'=w:=by
 go_enter Tryz.func161,Tryz.ntmps161;go_wp2;go_ret;exact⟨by first|rfl|simp,rfl⟩
theorem zP1:∀args w,(callFunc 161 args).run zh w=.ok (.enter 161 args) w:=enters_of Tryz.func161 (by decide) (c:=_) rfl
theorem yh0(v:Value)(m base ps:Nat)(L:List Int)(id:Int)(w:World)(ho:w.ownsRow base 2 1 v m (L.map (ze zd)))(hm:L.length=m)(hl:m<=1000)(hb:base<=w.heap.size)(fV:w.cell? ⟨ps,0,none⟩=some (ze zd id))(Oo:ps<base):
 Calls zh 160 #[v,.func (.func 161) #[] #[.pointer (some ⟨ps,0,none⟩)]] w fun e w'=>∃sl,e=.returned sl/\Below base w w'/\w'.ownsRow base 2 1 sl (zl5 L id).length ((zl5 L id).map (ze zd)):=by
 have hcut:(L.filter fun x=> !(x==id))=zl5 L id:=by
  unfold zl5
  congr 1
  funext x;by_cases h:x=id
  ·simp[h]
  ·simp[h]
 rcases own_kinds ho with⟨rfl,h0⟩|⟨g,c,rfl,dW,DQ⟩
 ·subst h0
  have e:L=[]:=List.length_eq_zero_iff.1 hm;subst e;have PZ:=AnyE.slices_IndexFunc_empty (P:=zh) (ρ:=Tryz.lDelF_ren) {Tryz.lDelF with} none 0 (.func (.func 161) #[] #[.pointer (some ⟨ps,0,none⟩)]) w;go_enter Tryz.func160,Tryz.ntmps160
  go_wp2_with(go_at_call 165;refine PZ.mono ?_;rintro e w' ⟨rfl,hw⟩;subst hw)
  go_ret;exact⟨_,rfl,y5 _ _,⟨rfl,.inl ⟨rfl,rfl⟩⟩⟩
 ·obtain⟨g',t',e1,_,_,hn,Cx,_,hH⟩:=holds_of_ownsRow (enc:=ze zd) ho (by simp)
  simp at e1;obtain⟨rfl,rfl⟩:=e1;have lj:∀(W:World),Below base w W->∀x:Int,FnGives zh 161 #[.pointer (some ⟨ps,0,none⟩)] #[ze zd x] (.bool (x==id)) W:=fun W hW x=>
   (yo7 x id ps W ((hW.cell (p:=⟨ps,0,none⟩) Oo).trans fV)).mono fun _ _ ⟨h1,h2⟩=>⟨h1,0,by rw[h2];rfl⟩
  have hD:=AnyE.slices_DeleteFunc Tryz.lDelF (ze zd) (fun _=>rfl) (fun x=>x==id) 161 #[.pointer (some ⟨ps,0,none⟩)] zP1 0 Tryz.zeroValue2 g 0 c L.toArray w
   (fun W x hW=>lj W (hW.mono hb) x)
   (fun n os dk x _=>lj _ (by
     have h1:=below_putRow (enc:=ze zd) (q:=n) (d:=dk) (y5 base w) dW;unfold sortWorld;refine⟨h1.os,h1.tape,h1.output,xj h1.size (by simp[grow]),fun k hk=> ?_⟩;rw[<-h1.block k hk];have:k<(putRow (ze zd) (Sort.ahead w n) g 0 dk).heap.size:=xw hk (xj hb h1.size);simp only[grow];rw[Array.getElem?_append_left this]) x)
   hH (by simp;omega) (by simpa[hm]using hn)
  have e:L.toArray.size=m:=by simp[hm]
  rw[e]at hD;refine hD.mono ?_;rintro e w' ⟨rfl,q,rfl⟩;simp only[hcut];have uB:(zl5 L id).length<=m:=by rw[<-hm];exact zH4 L id
  refine⟨_,rfl,below_putRow (y5 _ _) dW,?_⟩;have hh:=ownsRow_putRow (q:=q) (k:=(zl5 L id).length) (ys:=zl5 L id++List.replicate (m - (zl5 L id).length) 0) ho (by simp;omega) uB;rw[List.take_left' rfl]at hh;exact hh
