import Derived.Test.YtkchnomkiboihaaGreatPack7
import Derived.Shelf.SlicesE.DeleteFunc
import Derived.Lib.OwnBridge
namespace Go.Proofs.YtkchnomkiboihaaGreat
open IntKind renaming i64→zb
open Value renaming int→zc
open Proofs.Tryz renaming prog→ze
open Go.Shelf Go.RowKit Go.Lib Go.Sort
open Q
def Tryz.lDelF_ren:Go.Shelf.Ren:=⟨fun|6=>165|10=>160|n=>n,fun|0=>0|3=>3|4=>4|22=>24|23=>2|25=>67|n=>n,fun|n=>n⟩
theorem Tryz.lDelF:SlLaysH.n10 ze Tryz.lDelF_ren:={
 mixed:=by kernel_rfl
 f6:=⟨Tryz.f165.name,by decide,Tryz.func165.trans (congrArg some (by kernel_rfl))⟩
 f10:=⟨Tryz.f160.name,by decide,Tryz.func160.trans (congrArg some (by kernel_rfl))⟩
 t0:=Tryz.underlying0
 a0:=Tryz.isAgg0
 z0:=Tryz.sizeOf0
 v0:=Tryz.zeroValue0
 t3:=Tryz.underlying3
 a3:=Tryz.isAgg3
 z3:=Tryz.sizeOf3
 v3:=Tryz.zeroValue3
 t4:=Tryz.underlying4
 a4:=Tryz.isAgg4
 z4:=Tryz.sizeOf4
 v4:=Tryz.zeroValue4
 t22:=xi
 a22:=Tryz.isAgg24
 z22:=Tryz.sizeOf24
 v22:=Tryz.zeroValue24
 a23:=Tryz.isAgg2
 z23:=Tryz.sizeOf2
 t25:=Tryz.underlying67
 a25:=Tryz.isAgg67
 z25:=Tryz.sizeOf67
 v25:=Tryz.zeroValue67}
theorem yq2(x id:Int)(ps:Nat)(w:World)(h:w.cell? ⟨ps,0,none⟩=some (zc zb id)):Calls ze 161 #[zc zb x,.pointer (some ⟨ps,0,none⟩)] w fun e w'=>e=.returned (.bool (x==id))/\w'=w:=by
 go_enter Tryz.func161,Tryz.ntmps161;go_wp2;go_ret;exact⟨by first|rfl|simp,rfl⟩
theorem zS2:∀args w,(callFunc 161 args).run ze w=.ok (.enter 161 args) w:=enters_of Tryz.func161 (by decide) (c:=_) rfl
theorem yc0(v:Value)(m base ps:Nat)(L:List Int)(id:Int)(w:World)(ho:w.ownsRow base 2 1 v m (L.map (zc zb)))(hm:L.length=m)(hl:m<=1000)(hb:base<=w.heap.size)(hps:w.cell? ⟨ps,0,none⟩=some (zc zb id))(hpb:ps<base):
 Calls ze 160 #[v,.func (.func 161) #[] #[.pointer (some ⟨ps,0,none⟩)]] w fun e w'=>∃sl,e=.returned sl/\Below base w w'/\w'.ownsRow base 2 1 sl (zn1 L id).length ((zn1 L id).map (zc zb)):=by
 have hcut:(L.filter fun x=> !(x==id))=zn1 L id:=by
  unfold zn1
  congr 1
  funext x;by_cases h:x=id
  ·simp[h]
  ·simp[h]
 rcases own_kinds ho with⟨rfl,h0⟩|⟨g,c,rfl,hbg,hgl⟩
 ·subst h0
  have e:L=[]:=qj.1 hm;subst e;have hIF:=AnyE.slices_IndexFunc_empty (P:=ze) (ρ:=Tryz.lDelF_ren) {Tryz.lDelF with} none 0 (.func (.func 161) #[] #[.pointer (some ⟨ps,0,none⟩)]) w;go_enter Tryz.func160,Tryz.ntmps160
  go_wp2_with(go_at_call 165;refine hIF.mono ?_;rintro e w' ⟨rfl,hw⟩;subst hw)
  go_ret;exact⟨_,rfl,yV _ _,⟨rfl,.inl ⟨rfl,rfl⟩⟩⟩
 ·obtain⟨g',cap',e1,_,_,hn,hm9,_,hH⟩:=holds_of_ownsRow (enc:=zc zb) ho (by simp)
  simp at e1;obtain⟨rfl,rfl⟩:=e1;have hsp:∀(W:World),Below base w W->∀x:Int,FnGives ze 161 #[.pointer (some ⟨ps,0,none⟩)] #[zc zb x] (.bool (x==id)) W:=fun W hW x=>
   (yq2 x id ps W ((hW.cell (p:=⟨ps,0,none⟩) hpb).trans hps)).mono fun _ _ ⟨h1,h2⟩=>⟨h1,0,by rw[h2];rfl⟩
  have hD:=AnyE.slices_DeleteFunc Tryz.lDelF (zc zb) (fun _=>rfl) (fun x=>x==id) 161 #[.pointer (some ⟨ps,0,none⟩)] zS2 0 Tryz.zeroValue2 g 0 c L.toArray w
   (fun W x hW=>hsp W (hW.mono hb) x)
   (fun n os dk x _=>hsp _ (by
     have h1:=below_putRow (enc:=zc zb) (q:=n) (d:=dk) (yV base w) hbg;unfold sortWorld;refine⟨h1.os,h1.tape,h1.output,y7 h1.size (by simp[grow]),fun k hk=> ?_⟩;rw[<-h1.block k hk];have:k<(putRow (zc zb) (Sort.ahead w n) g 0 dk).heap.size:=xh hk (y7 hb h1.size);simp only[grow];rw[Array.getElem?_append_left this]) x)
   hH (by simp;omega) (by simpa[hm]using hn)
  have e:L.toArray.size=m:=by simp[hm]
  rw[e]at hD;refine hD.mono ?_;rintro e w' ⟨rfl,q,rfl⟩;simp only[hcut];have hle:(zn1 L id).length<=m:=by rw[<-hm];exact zR1 L id
  refine⟨_,rfl,below_putRow (yV _ _) hbg,?_⟩;have hh:=ownsRow_putRow (q:=q) (k:=(zn1 L id).length) (ys:=zn1 L id++List.replicate (m - (zn1 L id).length) 0) ho (by simp;omega) hle;rw[List.take_left' rfl]at hh;exact hh
