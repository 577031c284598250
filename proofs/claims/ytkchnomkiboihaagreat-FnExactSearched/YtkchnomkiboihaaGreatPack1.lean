import Derived.Test.YtkchnomkiboihaaGreatPack0
import Derived.Test.YtkchnomkiboihaaGreatRows
import Derived.WalkLawsBesides
import Derived.BigQuiet
import Derived.Deep.RegionHeld3
set_option linter.unusedSimpArgs false
set_option maxHeartbeats 2000000
namespace Go.Proofs.YtkchnomkiboihaaGreat
open Q
theorem yU:type_of% @Go.frozen_of_row:=@Go.frozen_of_row
theorem yV:type_of% @Go.RowKit.Below.refl:=@Go.RowKit.Below.refl
theorem yW:type_of% @Nat.ne_of_lt:=@Nat.ne_of_lt
theorem yX:type_of% @Go.bodyPost_ret:=@Go.bodyPost_ret
theorem yY:type_of% @Go.heap_alloc_old:=@Go.heap_alloc_old
theorem yZ:type_of% @Nat.zero_le:=@Nat.zero_le
theorem y7:type_of% @Nat.le_trans:=@Nat.le_trans
theorem y8:type_of% @Go.heap_alloc2_new:=@Go.heap_alloc2_new
theorem xb:type_of% @Go.heap_alloc2_old:=@Go.heap_alloc2_old
theorem xd:type_of% @Go.RowKit.Below.setCell:=@Go.RowKit.Below.setCell
theorem xe:type_of% @And.intro:=@And.intro
theorem xg:type_of% @Go.heap_setCell_other:=@Go.heap_setCell_other
theorem xh:type_of% @Nat.lt_of_lt_of_le:=@Nat.lt_of_lt_of_le
theorem xi:type_of% @Go.Proofs.Tryz.underlying24:=@Go.Proofs.Tryz.underlying24
theorem xj:type_of% @Go.wpQuiet_nil:=@Go.wpQuiet_nil
theorem xk:type_of% @Go.IntKind.wrap_i64:=@Go.IntKind.wrap_i64
theorem xm:type_of% @Int.eq_ofNat_of_zero_le:=@Int.eq_ofNat_of_zero_le
theorem xp:type_of% @Go.below_drewN:=@Go.below_drewN
theorem xq:type_of% @Int.natCast_mul:=@Int.natCast_mul
theorem xr:type_of% @Go.IntWalk.wrap64_in:=@Go.IntWalk.wrap64_in
theorem xt:type_of% @List.eq_nil_of_length_eq_zero:=@List.eq_nil_of_length_eq_zero
theorem xu:type_of% @List.take_of_length_le:=@List.take_of_length_le
theorem xw:type_of% @List.map_cons:=@List.map_cons
theorem xy:type_of% @Go.RowKit.Below.alloc:=@Go.RowKit.Below.alloc
theorem xz:type_of% @Go.wpList_store_row:=@Go.wpList_store_row
theorem xA:type_of% @Go.run_underlying:=@Go.run_underlying
end Go.Proofs.YtkchnomkiboihaaGreat
namespace Go.Proofs.YtkchnomkiboihaaGreat
open Value renaming slice→za,int→zc,cells→zD
open IntKind renaming i64→zb
open Obj renaming cells→zd
open Proofs.Tryz renaming prog→ze
open Go renaming World→zg
open World renaming setCell→zh
open List renaming replicate→zn,range→zo
open Builtin renaming append_→zt
open Go.RowKit
open Q
theorem za1{w:zg}{k:Nat}{c0 c1:Value}{T:TypeId}(r:w.heap[k]? =some (zd #[c0,c1] T (0,0))):
 w.cell? ⟨k,0,none⟩=some c0/\w.cell? ⟨k,1,none⟩=some c1:=by
 refine⟨?_,?_⟩
 ·rw[zR _ _ 0 _ _ _ r];simp
 ·rw[zR _ _ 1 _ _ _ r];simp
def Kin(wr:zg):Type:={x:zg // Below wr.heap.size wr x}
def Kin.w{wr:zg}(s:Kin wr):zg:=s.1
theorem Kin.there(wr:zg):Nonempty (Kin wr):=⟨⟨wr,yV _ _⟩⟩
theorem Kin.below{wr:zg}(s:Kin wr):Below wr.heap.size wr s.w:=s.2
theorem Kin.cell{wr:zg}(s:Kin wr){b o:Nat}{v:Value}(h:wr.cell? ⟨b,o,none⟩=some v):s.w.cell? ⟨b,o,none⟩=some v:=by
 rw[s.below.cell (p:=⟨b,o,none⟩) (zT h)];exact h
theorem zb0{P:Program}{id:Nat}{Q:Exit->Act->zg->Prop}{a:Act}{w:zg}{l:List Oper}(hm:P.follows .mixedOrders=true)(hB:Region.lexB .any l.toArray=true)
 (h:wpQuiet P l.toArray (fun w'=>∃s:Kin w,w'=s.w) (fun a'=>∀w',(∃s:Kin w,w'=s.w)->Q .normal a' w') l a):(Code.region id l.toArray true).wp P Q a w:=
 wp_region_quiet (C:=fun w'=>∃s:Kin w,w'=s.w) hm hB ⟨⟨_,(yV _ _).drew⟩,rfl⟩ (by simpa using h)
theorem Kin.call{P:Program}{f:FuncId}{args:Array Value}{wr:zg}{s:Kin wr}{v:Value}
 (h:Calls P f args s.w fun e w'=>e=.returned v/\Below s.w.heap.size s.w w'):Calls P f args s.w fun e w''=>e=.returned v/\∃s':Kin wr,w''=s'.w:=
 h.mono fun _ w' ⟨he,hb⟩=>⟨he,⟨w',s.below.trans (hb.mono s.below.size)⟩,rfl⟩
theorem Kin.call_same{P:Program}{f:FuncId}{args:Array Value}{wr:zg}{s:Kin wr}{v:Value}
 (h:Calls P f args s.w fun e w'=>e=.returned v/\w'=s.w):Calls P f args s.w fun e w''=>e=.returned v/\∃s':Kin wr,w''=s'.w:=
 h.mono fun _ _ ⟨he,hb⟩=>⟨he,s,hb⟩
theorem Tryz.info2:(Tryz.prog.info? 2).map (fun i=>(i.zero,i.size,i.bytes))=some (some (zc zb 0),1,8):=by kernel_rfl
theorem yx0(W:zg)(len:Nat)(hlen:len<=1048576):
 (Instr.makeSlice 24 (zc zb len) (zc zb len)).run ze W=.ok (za (some ⟨W.heap.size,0,none⟩) len len) (W.alloc (.cells (cellsOf (zn len 0)) 2)):=by
 have h:=Tryz.info2;cases hq:Tryz.prog.info? 2 with
 |none=>simp[hq]at h
 |some i=>
  simp[hq]at h;obtain⟨hz,hs,hb⟩:=h;have:=run_make (P:=ze) W 24 2 i (zc zb 0) xi hq hz zb zb len len (by omega) (by omega) (by rw[hb];omega) (by omega);rw[this,hs];simp only[yk,yz0]
theorem zt7(a:Option Addr)(len cap:Nat)(left:Int)(w:zg)(h0:0<=left)(h1:left<=1048576)(hlen:len<=9223372036854775807):
 Calls ze 52 #[za a len cap,zc zb left] w fun e w'=>e=.returned (zc zb (if left<len then -1 else left - len))/\w'=w:=by
 by_cases hlt:left<len
 ·rw[zV hlt]
  go_enter Tryz.func52,Tryz.ntmps52;go_wp2;go_ret;exact⟨by simp,rfl⟩
 ·rw[zW hlt]
  go_enter Tryz.func52,Tryz.ntmps52;go_wp2;go_ret;exact⟨by simp,rfl⟩
theorem yd4(n:Int)(a:Option Addr)(len cap:Nat)(left:Int)(w:zg)(h0:0<=left)(h1:left<=1048576)(hlen:len<=9223372036854775807):
 Calls ze 102 #[.agg #[zc zb n,za a len cap],zc zb left] w fun e w'=>e=.returned (zc zb (if left<len then -1 else left - len))/\Below w.heap.size w w':=by
 by_cases hlt:left<len
 ·rw[zV hlt]
  go_enter Tryz.func102,Tryz.ntmps102
  go_wp2_with(go_at_call 52;refine(zt7 _ _ _ _ _ h0 h1 hlen).mono ?_;rintro e w' ⟨rfl,rfl⟩)
  go_ret;exact⟨by simp,zK _⟩
 ·rw[zW hlt]
  go_enter Tryz.func102,Tryz.ntmps102
  go_wp2_with(go_at_call 52;refine(zt7 _ _ _ _ _ h0 h1 hlen).mono ?_;rintro e w' ⟨rfl,rfl⟩)
  go_ret;exact⟨by simp,zK _⟩
theorem z74(a:Option Addr)(cap:Nat)(zs:List Int)(w:zg)(hA:za3 w a zs)(hlen:zs.length<=1048576):
 Calls ze 57 #[za a zs.length cap] w fun e w'=>e=.returned (za (some ⟨w.heap.size,0,none⟩) zs.length zs.length)/\Below w.heap.size w w'/\w'.heap.size=w.heap.size+1/\w'.heap[w.heap.size]? =some (.cells (cellsOf zs) 2 (0,0)):=by
 have HA:=za4 hA;clear hA;have hmk:=fun W=>yx0 W zs.length hlen;go_enter Tryz.func57,Tryz.ntmps57
 go_wp2_with fail
 clear hmk;go_loopw[4] (fun t wr=>∃k:Nat,k<=zs.length/\t=zc zb k/\Below w.heap.size w wr/\wr.heap.size=w.heap.size+1/\wr.heap[w.heap.size]? =some (.cells (cellsOf (zs.take k++zn (zs.length - k) 0)) 2 (0,0))) (fun t _=>zs.length - (intOf t).toNat)
 case atStart=>
  refine⟨0,yZ _,rfl,zK _,by simp,?_⟩;simpa using zN w _
 case round=>
  obtain⟨k,hk,rfl,hb,hsz,hg⟩:=hrel;by_cases hlt:k<zs.length
  ·obtain⟨bb,off,rfl,hcs⟩:=za3.some (za3.below HA.X hb) hlt
   have ct:=hcs k hlt;clear hcs;generalize htt:zs.getD k 0=t at ct;have HT:=za4 htt;clear htt;have cg:=zR _ _ k _ _ _ hg;rw[zd7 _ _ (by simp;omega)]at cg;have fg:=yU _ _ k _ _ hg;have HG:Hid _:=hg;have HZ:Hid _:=hsz;have HB:Hid _:=hb;clear hg hsz hb;go_wp2;refine⟨⟨k+1,by omega,by go_num,HB.X.setCell (zQ _) _,?_,?_⟩,by simp[intOf];omega⟩
   ·have:=HZ.X
    simpa[zh]using this
   ·rw[zP _ _ _ _ _ _ HG.X,z15,<-HT.X,yz8 zs k hlt]
  ·have hkz:k=zs.length:=by omega
   have HG:Hid (wr.heap[w.heap.size]? =some (.cells (cellsOf zs) 2 (0,0))):=by
    show _=_;rw[hg,hkz];simp
   have HZ:Hid _:=hsz;clear hg hsz hkz;go_wp2;go_ret;exact⟨rfl,hb,HZ.X,HG.X⟩
theorem ye2(n:Int)(a:Option Addr)(cap:Nat)(zs:List Int)(w:zg)(hA:za3 w a zs)(hlen:zs.length<=1048576):
 Calls ze 105 #[.agg #[zc zb n,za a zs.length cap]] w fun e w'=>∃g,w.heap.size<=g/\e=.returned (.agg #[zc zb n,za (some ⟨g,0,none⟩) zs.length zs.length])/\Below w.heap.size w w'/\w'.heap[g]? =some (.cells (cellsOf zs) 2 (0,0)):=by
 have HA:=za4 hA;clear hA;go_enter Tryz.func105,Tryz.ntmps105
 go_wp2_with fail
 have HB0:Hid (Below w.heap.size w (((w.alloc (zd #[zc zb n,za a zs.length cap] 150)).alloc (zd #[zc zb 0,za none 0 0] 80)).alloc (zd #[zc zb n,za none 0 0] 80))):=
  ((zK _).alloc (by simp) _).alloc (by simp;omega) _
 refine(z74 a cap zs _ (HA.X.below HB0.X) hlen).mono ?_;rintro e w1 ⟨rfl,hb,hsz,hg⟩;obtain⟨hc,hf⟩:=yJ3 hb;have HB1:Hid _:=hb;have HG:Hid _:=hg;clear hb hg;simp at hsz;go_wp2;refine yX (v:=.agg #[zc zb n,za (some ⟨w.heap.size+1+1+1,0,none⟩) zs.length zs.length]) (by simp[results,Tryz.results105,go_sem,hc]) rfl ⟨w.heap.size+1+1+1,by omega,rfl,?_,?_⟩
 ·exact(((HB0.X.trans (HB1.X.mono (by simp;omega))).setCell (by simp;omega) _).setCell (by simp) _).setCell (by simp) _
 ·rw[xg _ _ _ _ (by simp<;>omega),xg _ _ _ _ (by simp<;>omega),xg _ _ _ _ (by simp<;>omega)]
  simpa using HG.X
theorem zp8(a b:Option Addr)(c1 c2:Nat)(xs ys:List Int)(w:zg)(hA:za3 w a xs)(hB:za3 w b ys)(hl1:xs.length<=1125899906842624):
 Calls ze 18 #[za a xs.length c1,za b ys.length c2] w fun e w'=>e=.returned (.bool (decide (xs=ys)))/\Below w.heap.size w w':=by
 by_cases hl:xs.length=ys.length
 ·have HA:Hid (za3 w a xs):=hA
  have HB:=za4 hB;have HL:=za4 hl;rw[hl]at hl1⊢;clear hA hB hl;go_enter Tryz.func18,Tryz.ntmps18
  go_wp2_with fail
  go_loopw[5] (fun t wr=>∃k:Nat,k<=ys.length/\t=zc zb k/\Below w.heap.size w wr/\xs.take k=ys.take k) (fun t _=>ys.length - (intOf t).toNat)
  case atStart=>exact⟨0,yZ _,rfl,yV _ _,by simp⟩
  case round=>
   obtain⟨k,hk,rfl,hb,he⟩:=hrel;have HE:=za4 he;clear he;by_cases hlt:k<ys.length
   ·have hxk:k<xs.length:=by rw[HL.X];exact hlt
    obtain⟨b1,o1,rfl,hc1⟩:=za3.some (za3.below HA.X hb) hxk;obtain⟨b2,o2,rfl,hc2⟩:=za3.some (za3.below HB.X hb) hlt;have ct1:=hc1 k hxk;have ct2:=hc2 k hlt;clear hc1 hc2;generalize ht1:xs.getD k 0=t1 at ct1;generalize ht2:ys.getD k 0=t2 at ct2;have H1:=za4 ht1;have H2:=za4 ht2;clear ht1 ht2;by_cases ht:t1=t2
    ·have htb:(t1 !=t2)=false:=by simp[ht]
     have HT:=za4 ht;clear ht;go_wp2
     go_quiet (fail)
     go_wp2;refine⟨⟨k+1,by omega,by go_num,xp hb _,?_⟩,by simp[intOf];omega⟩;rw[zg0 xs k hxk,zg0 ys k hlt,HE.X,H1.X,H2.X,HT.X]
    ·have htb:(t1 !=t2)=true:=by simp[ht]
     have HN:Hid (decide (xs=ys)=false):=by
      apply zU;intro e;exact ht (by rw[<-H1.X,<-H2.X,e])
     clear ht;go_wp2
     go_quiet (fail)
     go_wp2;go_ret;exact⟨zb4 HN.X.symm,xp hb _⟩
   ·have HN:Hid (decide (xs=ys)=true):=by
     apply zS;have h:=HE.X
     rwa [xu (by rw[HL.X];omega),xu (by omega)]at h
    go_wp2;go_ret;exact⟨zb4 HN.X.symm,hb⟩
 ·have HN:Hid (decide (xs=ys)=false):=zU fun e=>hl (by rw[e])
  have hne:((xs.length:Int)!=(ys.length:Int))=true:=by rw[bne_iff_ne];omega
  clear hA hB hl;go_enter Tryz.func18,Tryz.ntmps18;go_wp2;go_ret;exact⟨zb4 HN.X.symm,yV _ _⟩
theorem zV0(n:Int)(a b:Option Addr)(c1 c2:Nat)(xs:List Int)(w:zg)(hA:za3 w a xs)(hB:za3 w b xs)(hl1:xs.length<=1125899906842624):
 Calls ze 106 #[.agg #[zc zb n,za a xs.length c1],.agg #[zc zb n,za b xs.length c2]] w fun e w'=>e=.returned (.bool true)/\Below w.heap.size w w':=by
 have HB0:Hid (Below w.heap.size w ((w.alloc (zd #[zc zb n,za a xs.length c1] 80)).alloc (zd #[zc zb n,za b xs.length c2] 80))):=
  (zK _).alloc (by simp) _
 have HA:=za4 hA;have HB:=za4 hB;clear hA hB;have hnn:(n !=n)=false:=by simp
 go_enter Tryz.func106,Tryz.ntmps106
 go_wp2_with fail
 refine(zp8 a b c1 c2 xs xs _ (HA.X.below HB0.X) (HB.X.below HB0.X) hl1).mono ?_;rintro e w1 ⟨rfl,hb⟩;have HB1:Hid _:=hb;clear hb;have hd:decide (xs=xs)=true:=by simp
 rw[hd];clear hd;go_wp2;go_ret;exact⟨rfl,HB0.X.trans (HB1.X.mono (by simp<;>omega))⟩
theorem yr2(n:Int)(a b:Option Addr)(c1 c2:Nat)(xs:List Int)(w:zg)(hA:za3 w a xs)(hB:za3 w b xs)(hl1:xs.length<=1125899906842624):
 Calls ze 59 #[.agg #[zc zb n,za a xs.length c1],.agg #[zc zb n,za b xs.length c2]] w fun e w'=>e=.returned (.bool true)/\Below w.heap.size w w':=by
 have HB0:Hid (Below w.heap.size w ((w.alloc (zd #[zc zb n,za a xs.length c1] 26)).alloc (zd #[zc zb n,za b xs.length c2] 26))):=
  (zK _).alloc (by simp) _
 have HA:=za4 hA;have HB:=za4 hB;clear hA hB;have hnn:(n !=n)=false:=by simp
 go_enter Tryz.func59,Tryz.ntmps59
 go_wp2_with fail
 refine(zp8 a b c1 c2 xs xs _ (HA.X.below HB0.X) (HB.X.below HB0.X) hl1).mono ?_;rintro e w1 ⟨rfl,hb⟩;have HB1:Hid _:=hb;clear hb;have hd:decide (xs=xs)=true:=by simp
 rw[hd];clear hd;go_wp2;go_ret;exact⟨rfl,HB0.X.trans (HB1.X.mono (by simp<;>omega))⟩
theorem Tryz.infoOrder:(Tryz.prog.info? 103).map (fun i=>(i.zero,i.size,i.bytes))=some (some (.agg #[zc zb 0,zc zb 0,zc zb 0,zc zb 0,zc zb 0,zc zb 0]),6,48):=by kernel_rfl
theorem y75(n:Nat):madeCells (Value.agg #[zc zb 0,zc zb 0,zc zb 0,zc zb 0,zc zb 0,zc zb 0]).cells (n*6)=cellsOf (zn (n*6) 0):=by
 apply Array.ext
 ·simp[madeCells,cellsOf]
 ·intro i h1 h2
  have hm:i % 6<6:=Nat.mod_lt _ (by omega);simp only[madeCells,cellsOf,zD,Array.getElem_map,Array.getElem_range,List.map_replicate,List.getElem_toArray,List.getElem_replicate];generalize i % 6=j at hm;have:j=0∨j=1∨j=2∨j=3∨j=4∨j=5:=by omega
  rcases this with rfl|rfl|rfl|rfl|rfl|rfl<;>rfl
theorem y35(W:zg)(len:Nat)(hlen:len<=1048576):
 (Instr.makeSlice 27 (zc zb len) (zc zb len)).run ze W=.ok (za (some ⟨W.heap.size,0,none⟩) len len) (W.alloc (.cells (cellsOf (zn (len*6) 0)) 103)):=by
 have h:=Tryz.infoOrder;cases hq:Tryz.prog.info? 103 with
 |none=>simp[hq]at h
 |some i=>
  simp[hq]at h;obtain⟨hz,hs,hb⟩:=h;have:=run_make (P:=ze) W 27 103 i (.agg #[zc zb 0,zc zb 0,zc zb 0,zc zb 0,zc zb 0,zc zb 0]) Tryz.underlying27 hq hz zb zb len len (by omega) (by omega) (by rw[hb];omega) (by omega);rw[this,hs];simp only[yk,y75]
theorem zY4(o0 o1 o2 o3 o4 o5:Int)(w:zg):
 Calls ze 107 #[.agg #[zc zb o0,zc zb o1,zc zb o2,zc zb o3,zc zb o4,zc zb o5],.agg #[zc zb o0,zc zb o1,zc zb o2,zc zb o3,zc zb o4,zc zb o5]] w fun e w'=>e=.returned (.bool true)/\Below w.heap.size w w':=by
 have n0:(o0 !=o0)=false:=by simp
 have n1:(o1 !=o1)=false:=by simp
 have n2:(o2 !=o2)=false:=by simp
 have n3:(o3 !=o3)=false:=by simp
 have n4:(o4 !=o4)=false:=by simp
 have n5:(o5 !=o5)=false:=by simp
 go_enter Tryz.func107,Tryz.ntmps107;go_wp2;go_ret;exact⟨rfl,(zK _).alloc (by simp) _⟩
theorem zO9(a a2:Option Addr)(n c1 c2:Nat)(zs:List Int)(w:zg)(hA:za3 w a zs)(hB:za3 w a2 zs)(hl:zs.length=n*6)(hlen:n<=9223372036854775807):
 Calls ze 60 #[za a n c1,za a2 n c2] w fun e w'=>e=.returned (.bool true)/\Below w.heap.size w w':=by
 have HA:=za4 hA;have HA2:=za4 hB;have HL:=za4 hl;have hnn:((n:Int)!=(n:Int))=false:=by simp
 clear hA hB hl;go_enter Tryz.func60,Tryz.ntmps60
 go_wp2_with fail
 go_loopw[5] (fun t wr=>∃k:Nat,k<=n/\t=zc zb k/\Below w.heap.size w wr) (fun t _=>n - (intOf t).toNat)
 case atStart=>exact⟨0,yZ _,rfl,yV _ _⟩
 case round=>
  obtain⟨k,hk,rfl,hb⟩:=hrel;have HB:Hid _:=hb;by_cases hlt:k<n
  ·obtain⟨b,off,rfl,hcs⟩:=za3.some (za3.below HA.X hb) (j:=k*6) (by rw[HL.X];omega)
   obtain⟨r0,r1,r2,r3,r4,r5⟩:=zq2 hcs HL.X k hlt;obtain⟨b2,off2,rfl,hcs2⟩:=za3.some (za3.below HA2.X hb) (j:=k*6) (by rw[HL.X];omega);obtain⟨p0,p1,p2,p3,p4,p5⟩:=zq2 hcs2 HL.X k hlt;clear hcs hcs2 hb;obtain⟨o0,H0⟩:=nmd (og6 zs k 0);obtain⟨o1,H1⟩:=nmd (og6 zs k 1);obtain⟨o2,H2⟩:=nmd (og6 zs k 2);obtain⟨o3,H3⟩:=nmd (og6 zs k 3);obtain⟨o4,H4⟩:=nmd (og6 zs k 4);obtain⟨o5,H5⟩:=nmd (og6 zs k 5);rw[H0.X]at r0;rw[H1.X]at r1;rw[H2.X]at r2;rw[H3.X]at r3;rw[H4.X]at r4;rw[H5.X]at r5;rw[H0.X]at p0;rw[H1.X]at p1;rw[H2.X]at p2;rw[H3.X]at p3;rw[H4.X]at p4;rw[H5.X]at p5;have t0:=fun s:Kin wr=>s.cell r0;have u0:=fun s:Kin wr=>s.cell p0;have t1:=fun s:Kin wr=>s.cell r1;have u1:=fun s:Kin wr=>s.cell p1;have t2:=fun s:Kin wr=>s.cell r2;have u2:=fun s:Kin wr=>s.cell p2;have t3:=fun s:Kin wr=>s.cell r3;have u3:=fun s:Kin wr=>s.cell p3;have t4:=fun s:Kin wr=>s.cell r4;have u4:=fun s:Kin wr=>s.cell p4;have t5:=fun s:Kin wr=>s.cell r5;have u5:=fun s:Kin wr=>s.cell p5;have hkin:=Kin.there wr
   go_wp2_with fail
   refine zb0 (by kernel_rfl) (by kernel_rfl) ?_
   repeat(go_big_quiet_step ((go_at_call 107;exact Kin.call (zY4 _ _ _ _ _ _ _))))
   refine xj ?_;rintro _ ⟨s,rfl⟩;have HS2:=HB.X.trans (s.below.mono HB.X.size);generalize s.w=w2 at*;go_wp2;refine⟨⟨k+1,by omega,by go_num,HS2⟩,by simp[intOf];omega⟩
  ·go_wp2
   go_ret;exact⟨rfl,HB.X⟩
theorem Tryz.infoVehicle:(Tryz.prog.info? 107).map (fun i=>(i.zero,i.size,i.bytes))=some (some (.agg #[zc zb 0,zc zb 0,zc zb 0,zc zb 0,zc zb 0]),5,40):=by kernel_rfl
theorem y56(n:Nat):madeCells (Value.agg #[zc zb 0,zc zb 0,zc zb 0,zc zb 0,zc zb 0]).cells (n*5)=cellsOf (zn (n*5) 0):=by
 apply Array.ext
 ·simp[madeCells,cellsOf]
 ·intro i h1 h2
  have hm:i % 5<5:=Nat.mod_lt _ (by omega);simp only[madeCells,cellsOf,zD,Array.getElem_map,Array.getElem_range,List.map_replicate,List.getElem_toArray,List.getElem_replicate];generalize i % 5=j at hm;have:j=0∨j=1∨j=2∨j=3∨j=4:=by omega
  rcases this with rfl|rfl|rfl|rfl|rfl<;>rfl
theorem y54(W:zg)(len:Nat)(hlen:len<=1048576):
 (Instr.makeSlice 28 (zc zb len) (zc zb len)).run ze W=.ok (za (some ⟨W.heap.size,0,none⟩) len len) (W.alloc (.cells (cellsOf (zn (len*5) 0)) 107)):=by
 have h:=Tryz.infoVehicle;cases hq:Tryz.prog.info? 107 with
 |none=>simp[hq]at h
 |some i=>
  simp[hq]at h;obtain⟨hz,hs,hb⟩:=h;have:=run_make (P:=ze) W 28 107 i (.agg #[zc zb 0,zc zb 0,zc zb 0,zc zb 0,zc zb 0]) Tryz.underlying28 hq hz zb zb len len (by omega) (by omega) (by rw[hb];omega) (by omega);rw[this,hs];simp only[yk,y56]
theorem zJ0(o0 o1 o2 o3 o4:Int)(w:zg):
 Calls ze 108 #[.agg #[zc zb o0,zc zb o1,zc zb o2,zc zb o3,zc zb o4],.agg #[zc zb o0,zc zb o1,zc zb o2,zc zb o3,zc zb o4]] w fun e w'=>e=.returned (.bool true)/\Below w.heap.size w w':=by
 have n0:(o0 !=o0)=false:=by simp
 have n1:(o1 !=o1)=false:=by simp
 have n2:(o2 !=o2)=false:=by simp
 have n3:(o3 !=o3)=false:=by simp
 have n4:(o4 !=o4)=false:=by simp
 go_enter Tryz.func108,Tryz.ntmps108;go_wp2;go_ret;exact⟨rfl,(zK _).alloc (by simp) _⟩
theorem zG9(a a2:Option Addr)(n c1 c2:Nat)(zs:List Int)(w:zg)(hA:za3 w a zs)(hB:za3 w a2 zs)(hl:zs.length=n*5)(hlen:n<=9223372036854775807):
 Calls ze 61 #[za a n c1,za a2 n c2] w fun e w'=>e=.returned (.bool true)/\Below w.heap.size w w':=by
 have HA:=za4 hA;have HA2:=za4 hB;have HL:=za4 hl;have hnn:((n:Int)!=(n:Int))=false:=by simp
 clear hA hB hl;go_enter Tryz.func61,Tryz.ntmps61
 go_wp2_with fail
 go_loopw[5] (fun t wr=>∃k:Nat,k<=n/\t=zc zb k/\Below w.heap.size w wr) (fun t _=>n - (intOf t).toNat)
 case atStart=>exact⟨0,yZ _,rfl,yV _ _⟩
 case round=>
  obtain⟨k,hk,rfl,hb⟩:=hrel;have HB:Hid _:=hb;by_cases hlt:k<n
  ·obtain⟨b,off,rfl,hcs⟩:=za3.some (za3.below HA.X hb) (j:=k*5) (by rw[HL.X];omega)
   obtain⟨r0,r1,r2,r3,r4⟩:=zy6 hcs HL.X k hlt;obtain⟨b2,off2,rfl,hcs2⟩:=za3.some (za3.below HA2.X hb) (j:=k*5) (by rw[HL.X];omega);obtain⟨p0,p1,p2,p3,p4⟩:=zy6 hcs2 HL.X k hlt;clear hcs hcs2 hb;obtain⟨o0,H0⟩:=nmd (og5 zs k 0);obtain⟨o1,H1⟩:=nmd (og5 zs k 1);obtain⟨o2,H2⟩:=nmd (og5 zs k 2);obtain⟨o3,H3⟩:=nmd (og5 zs k 3);obtain⟨o4,H4⟩:=nmd (og5 zs k 4);rw[H0.X]at r0;rw[H1.X]at r1;rw[H2.X]at r2;rw[H3.X]at r3;rw[H4.X]at r4;rw[H0.X]at p0;rw[H1.X]at p1;rw[H2.X]at p2;rw[H3.X]at p3;rw[H4.X]at p4;have t0:=fun s:Kin wr=>s.cell r0;have u0:=fun s:Kin wr=>s.cell p0;have t1:=fun s:Kin wr=>s.cell r1;have u1:=fun s:Kin wr=>s.cell p1;have t2:=fun s:Kin wr=>s.cell r2;have u2:=fun s:Kin wr=>s.cell p2;have t3:=fun s:Kin wr=>s.cell r3;have u3:=fun s:Kin wr=>s.cell p3;have t4:=fun s:Kin wr=>s.cell r4;have u4:=fun s:Kin wr=>s.cell p4;have hkin:=Kin.there wr
   go_wp2_with fail
   refine zb0 (by kernel_rfl) (by kernel_rfl) ?_
   repeat(go_big_quiet_step ((go_at_call 108;exact Kin.call (zJ0 _ _ _ _ _ _))))
   refine xj ?_;rintro _ ⟨s,rfl⟩;have HS2:=HB.X.trans (s.below.mono HB.X.size);generalize s.w=w2 at*;go_wp2;refine⟨⟨k+1,by omega,by go_num,HS2⟩,by simp[intOf];omega⟩
  ·go_wp2
   go_ret;exact⟨rfl,HB.X⟩
def szV(left:Int)(lt ko kv:Nat):Int:=if left<lt then -1 else if left - lt<ko then -1 else if left - lt - ko<kv then -1 else left - lt - ko - kv
theorem yC1{lt ko kv:Nat}(h:¬(lt+ko+kv<=1048576)):szV 1048576 lt ko kv= -1:=by
 unfold szV;split
 ·rfl
 ·split
  ·rfl
  ·split
   ·rfl
   ·omega
theorem yF7{lt ko kv:Nat}(h:lt+ko+kv<=1048576):szV 1048576 lt ko kv=1048576 - lt - ko - kv:=by
 unfold szV;rw[zW (by omega),zW (by omega),zW (by omega)]
def zo9(w:zg)(g go gv:Nat)(zs os vs:List Int):Prop:=
 w.heap[g]? =some (.cells (cellsOf zs) 2 (0,0))/\w.heap[go]? =some (.cells (cellsOf os) 103 (0,0))/\w.heap[gv]? =some (.cells (cellsOf vs) 107 (0,0))
theorem zo9.below{w w':zg}{g go gv:Nat}{zs os vs:List Int}(h:zo9 w g go gv zs os vs)(hb:Below w.heap.size w w'):zo9 w' g go gv zs os vs:=
 ⟨za0 hb (za2 h.1) h.1,za0 hb (za2 h.2.1) h.2.1,za0 hb (za2 h.2.2) h.2.2⟩
theorem zo9.t{w:zg}{g go gv:Nat}{zs os vs:List Int}(h:zo9 w g go gv zs os vs):za3 w (some ⟨g,0,none⟩) zs:=za3.of_row h.1
theorem zo9.o{w:zg}{g go gv:Nat}{zs os vs:List Int}(h:zo9 w g go gv zs os vs):za3 w (some ⟨go,0,none⟩) os:=za3.of_row h.2.1
theorem zo9.v{w:zg}{g go gv:Nat}{zs os vs:List Int}(h:zo9 w g go gv zs os vs):za3 w (some ⟨gv,0,none⟩) vs:=za3.of_row h.2.2
theorem z29{W:zg}{g k i:Nat}{o:Obj}{v:Value}(h:W.heap[g]? =some o)(hne:g≠k):(W.setCell ⟨k,i,none⟩ v).heap[g]? =some o:=by
 rw[xg _ _ _ _ (by simpa using hne)];exact h
theorem yf1(n fine:Int)(a ao av a' ao' av':Option Addr)(cap ko co kv cv cap' co' cv':Nat)(zs os vs:List Int)(w:zg)(hA:za3 w a zs)(hO:za3 w ao os)(hV:za3 w av vs)(hA':za3 w a' zs)(hO':za3 w ao' os)(hV':za3 w av' vs)(hlo:os.length=ko*6)(hlv:vs.length=kv*5)(hlt:zs.length<=1125899906842624)(hko:ko<=9223372036854775807)(hkv:kv<=9223372036854775807):
 Calls ze 19 #[.agg #[zc zb n,za a zs.length cap,za ao ko co,za av kv cv,zc zb fine],.agg #[zc zb n,za a' zs.length cap',za ao' ko co',za av' kv cv',zc zb fine]] w fun e w'=>e=.returned (.bool true)/\Below w.heap.size w w':=by
 have HA:=za4 hA;have HO:=za4 hO;have HV:=za4 hV;have HA':=za4 hA';have HO':=za4 hO';have HV':=za4 hV';have HLO:Hid _:=hlo;have HLV:Hid _:=hlv;clear hA hO hV hA' hO' hV' hlo hlv;have hff:(fine !=fine)=false:=by simp
 go_enter Tryz.func19,Tryz.ntmps19
 go_wp2_with fail
 have B0:Hid (Below w.heap.size w ((w.alloc (zd #[zc zb n,za a zs.length cap,za ao ko co,za av kv cv,zc zb fine] 30)).alloc (zd #[zc zb n,za a' zs.length cap',za ao' ko co',za av' kv cv',zc zb fine] 30))):=(zK _).alloc (by simp) _;have P0:Hid (((w.alloc (zd #[zc zb n,za a zs.length cap,za ao ko co,za av kv cv,zc zb fine] 30)).alloc (zd #[zc zb n,za a' zs.length cap',za ao' ko co',za av' kv cv',zc zb fine] 30)).heap[w.heap.size]? =_):=xb _ _ _;have Q0:Hid (((w.alloc (zd #[zc zb n,za a zs.length cap,za ao ko co,za av kv cv,zc zb fine] 30)).alloc (zd #[zc zb n,za a' zs.length cap',za ao' ko co',za av' kv cv',zc zb fine] 30)).heap[w.heap.size+1]? =_):=y8 _ _ _;generalize(w.alloc (zd #[zc zb n,za a zs.length cap,za ao ko co,za av kv cv,zc zb fine] 30)).alloc (zd #[zc zb n,za a' zs.length cap',za ao' ko co',za av' kv cv',zc zb fine] 30)=W0 at*;refine(yr2 n a a' cap cap' zs _ (HA.X.below B0.X) (HA'.X.below B0.X) hlt).mono ?_;rintro e w1 ⟨rfl,hb⟩;have B1:Hid (Below w.heap.size w w1):=B0.X.trans (hb.mono B0.X.size);have P1:Hid _:=za0 hb (za2 P0.X) P0.X;have Q1:Hid _:=za0 hb (za2 Q0.X) Q0.X;clear hb B0 P0 Q0;obtain⟨c0,c1,c2,c3,c4⟩:=za7 P1.X;obtain⟨d0,d1,d2,d3,d4⟩:=za7 Q1.X
 go_wp2_with fail
 refine(zO9 ao ao' ko co co' os _ (HO.X.below B1.X) (HO'.X.below B1.X) HLO.X hko).mono ?_;rintro e w2 ⟨rfl,hb⟩;have B2:Hid (Below w.heap.size w w2):=B1.X.trans (hb.mono B1.X.size);have P2:Hid _:=za0 hb (za2 P1.X) P1.X;have Q2:Hid _:=za0 hb (za2 Q1.X) Q1.X;clear hb B1 P1 Q1 c0 c1 c2 c3 c4 d0 d1 d2 d3 d4;obtain⟨c0,c1,c2,c3,c4⟩:=za7 P2.X;obtain⟨d0,d1,d2,d3,d4⟩:=za7 Q2.X
 go_wp2_with fail
 refine(zG9 av av' kv cv cv' vs _ (HV.X.below B2.X) (HV'.X.below B2.X) HLV.X hkv).mono ?_;rintro e w3 ⟨rfl,hb⟩;have B3:Hid (Below w.heap.size w w3):=B2.X.trans (hb.mono B2.X.size);have P3:Hid _:=za0 hb (za2 P2.X) P2.X;have Q3:Hid _:=za0 hb (za2 Q2.X) Q2.X;clear hb B2 P2 Q2 c0 c1 c2 c3 c4 d0 d1 d2 d3 d4;obtain⟨c0,c1,c2,c3,c4⟩:=za7 P3.X;obtain⟨d0,d1,d2,d3,d4⟩:=za7 Q3.X;go_wp2;go_ret;exact⟨rfl,B3.X⟩
theorem yt6(n:Int)(a:Option Addr)(len cap:Nat)(left:Int)(w:zg)(h0:0<=left)(h1:left<=1048576)(hlen:len<=9223372036854775807):
 Calls ze 48 #[.agg #[zc zb n,za a len cap],zc zb left] w fun e w'=>e=.returned (zc zb (if left<len then -1 else left - len))/\Below w.heap.size w w':=by
 by_cases hlt:left<len
 ·rw[zV hlt]
  go_enter Tryz.func48,Tryz.ntmps48
  go_wp2_with(go_at_call 52;refine(zt7 _ _ _ _ _ h0 h1 hlen).mono ?_;rintro e w' ⟨rfl,rfl⟩)
  go_ret;exact⟨by simp,zK _⟩
 ·rw[zW hlt]
  go_enter Tryz.func48,Tryz.ntmps48
  go_wp2_with(go_at_call 52;refine(zt7 _ _ _ _ _ h0 h1 hlen).mono ?_;rintro e w' ⟨rfl,rfl⟩)
  go_ret;exact⟨by simp,zK _⟩
theorem yz2(n:Int)(a:Option Addr)(cap:Nat)(zs:List Int)(w:zg)(hA:za3 w a zs)(hlen:zs.length<=1048576):
 Calls ze 53 #[.agg #[zc zb n,za a zs.length cap]] w fun e w'=>∃g,w.heap.size<=g/\e=.returned (.agg #[zc zb n,za (some ⟨g,0,none⟩) zs.length zs.length])/\Below w.heap.size w w'/\w'.heap[g]? =some (.cells (cellsOf zs) 2 (0,0)):=by
 have HA:=za4 hA;clear hA;go_enter Tryz.func53,Tryz.ntmps53
 go_wp2_with fail
 have HB0:Hid (Below w.heap.size w (((w.alloc (zd #[zc zb n,za a zs.length cap] 41)).alloc (zd #[zc zb 0,za none 0 0] 26)).alloc (zd #[zc zb n,za none 0 0] 26))):=
  ((zK _).alloc (by simp) _).alloc (by simp;omega) _
 refine(z74 a cap zs _ (HA.X.below HB0.X) hlen).mono ?_;rintro e w1 ⟨rfl,hb,hsz,hg⟩;obtain⟨hc,hf⟩:=yJ3 hb;have HB1:Hid _:=hb;have HG:Hid _:=hg;clear hb hg;simp at hsz;go_wp2;refine yX (v:=.agg #[zc zb n,za (some ⟨w.heap.size+1+1+1,0,none⟩) zs.length zs.length]) (by simp[results,Tryz.results53,go_sem,hc]) rfl ⟨w.heap.size+1+1+1,by omega,rfl,?_,?_⟩
 ·exact(((HB0.X.trans (HB1.X.mono (by simp;omega))).setCell (by simp;omega) _).setCell (by simp) _).setCell (by simp) _
 ·rw[xg _ _ _ _ (by simp<;>omega),xg _ _ _ _ (by simp<;>omega),xg _ _ _ _ (by simp<;>omega)]
  simpa using HG.X
theorem z20(a:Option Addr)(len cap:Nat)(left:Int)(w:zg)(h0:0<=left)(h1:left<=1048576)(hlen:len<=9223372036854775807):
 Calls ze 49 #[za a len cap,zc zb left] w fun e w'=>e=.returned (zc zb (if left<len then -1 else left - len))/\w'=w:=by
 by_cases hlt:left<len
 ·rw[zV hlt]
  go_enter Tryz.func49,Tryz.ntmps49;go_wp2;go_ret;exact⟨by simp,rfl⟩
 ·rw[zW hlt]
  go_enter Tryz.func49,Tryz.ntmps49;go_wp2;go_ret;exact⟨by simp,rfl⟩
theorem yg3(o0 o1 o2 o3 o4 o5:Int)(w:zg):
 Calls ze 103 #[.agg #[zc zb o0,zc zb o1,zc zb o2,zc zb o3,zc zb o4,zc zb o5]] w fun e w'=>e=.returned (.agg #[zc zb o0,zc zb o1,zc zb o2,zc zb o3,zc zb o4,zc zb o5])/\Below w.heap.size w w':=by
 go_enter Tryz.func103,Tryz.ntmps103;go_wp2;refine yX (v:=.agg #[zc zb o0,zc zb o1,zc zb o2,zc zb o3,zc zb o4,zc zb o5]) (by simp[results,Tryz.results103,go_sem]) rfl ⟨rfl,?_⟩;exact((zK _).alloc (by simp) _).alloc (by simp<;>omega) _
theorem ya1(a:Option Addr)(n cap:Nat)(zs:List Int)(w:zg)(hA:za3 w a zs)(hl:zs.length=n*6)(hlen:n<=1048576):
 Calls ze 54 #[za a n cap] w fun e w'=>e=.returned (za (some ⟨w.heap.size,0,none⟩) n n)/\Below w.heap.size w w'/\w'.heap[w.heap.size]? =some (.cells (cellsOf zs) 103 (0,0)):=by
 have HA:=za4 hA;have HL:=za4 hl;clear hA hl;have hmk:=fun W=>y35 W n hlen;go_enter Tryz.func54,Tryz.ntmps54
 go_wp2_with fail
 clear hmk;go_loopw[4] (fun t wr=>∃k:Nat,k<=n/\t=zc zb k/\Below w.heap.size w wr/\wr.heap[w.heap.size]? =some (.cells (cellsOf (zo6 (n*6) zs (k*6))) 103 (0,0))) (fun t _=>n - (intOf t).toNat)
 case atStart=>
  refine⟨0,yZ _,rfl,zK _,?_⟩;rw[Nat.zero_mul,zH0];exact zN w _
 case round=>
  obtain⟨k,hk,rfl,hb,hg⟩:=hrel;by_cases hlt:k<n
  ·obtain⟨b,off,rfl,hcs⟩:=za3.some (za3.below HA.X hb) (j:=k*6) (by rw[HL.X];omega)
   obtain⟨r0,r1,r2,r3,r4,r5⟩:=zq2 hcs HL.X k hlt;clear hcs;obtain⟨o0,H0⟩:=nmd (og6 zs k 0);obtain⟨o1,H1⟩:=nmd (og6 zs k 1);obtain⟨o2,H2⟩:=nmd (og6 zs k 2);obtain⟨o3,H3⟩:=nmd (og6 zs k 3);obtain⟨o4,H4⟩:=nmd (og6 zs k 4);obtain⟨o5,H5⟩:=nmd (og6 zs k 5);rw[H0.X]at r0;rw[H1.X]at r1;rw[H2.X]at r2;rw[H3.X]at r3;rw[H4.X]at r4;rw[H5.X]at r5;have HG:Hid _:=hg;have HB:Hid _:=hb;clear hg hb
   go_wp2_with fail
   refine(yg3 _ _ _ _ _ _ _).mono ?_;rintro e w2 ⟨rfl,hb2⟩;obtain⟨B2,g2⟩:=zu7 hb2 HB.X HG.X;have HB2:Hid _:=B2;have x0:=zR _ _ (k*6) _ _ _ g2;rw[zd7 _ _ (by rw[zd6];omega)]at x0;have y0:=yU _ _ (k*6) _ _ g2;have x1:=zR _ _ (k*6+1) _ _ _ g2;rw[zd7 _ _ (by rw[zd6];omega)]at x1;have y1:=yU _ _ (k*6+1) _ _ g2;have x2:=zR _ _ (k*6+2) _ _ _ g2;rw[zd7 _ _ (by rw[zd6];omega)]at x2;have y2:=yU _ _ (k*6+2) _ _ g2;have x3:=zR _ _ (k*6+3) _ _ _ g2;rw[zd7 _ _ (by rw[zd6];omega)]at x3;have y3:=yU _ _ (k*6+3) _ _ g2;have x4:=zR _ _ (k*6+4) _ _ _ g2;rw[zd7 _ _ (by rw[zd6];omega)]at x4;have y4:=yU _ _ (k*6+4) _ _ g2;have x5:=zR _ _ (k*6+5) _ _ _ g2;rw[zd7 _ _ (by rw[zd6];omega)]at x5;have y5:=yU _ _ (k*6+5) _ _ g2;have HG2:Hid _:=g2;clear hb2 g2 B2;go_wp2;have q0:=zm4 HG2.X H0.X;have q1:=zm4 q0 H1.X;have q2:=zm4 q1 H2.X;have q3:=zm4 q2 H3.X;have q4:=zm4 q3 H4.X;have q5:=zm4 q4 H5.X;refine⟨⟨k+1,by omega,by go_num,((((((HB2.X.setCell (zQ _) _).setCell (zQ _) _).setCell (zQ _) _).setCell (zQ _) _).setCell (zQ _) _).setCell (zQ _) _),?_⟩,by simp[intOf];omega⟩;rw[show(k+1)*6=k*6+1+1+1+1+1+1 by omega];exact q5
  ·have hkz:k=n:=by omega
   have HG:Hid (wr.heap[w.heap.size]? =some (.cells (cellsOf zs) 103 (0,0))):=by
    show _=_;rw[hg,hkz,<-HL.X,zI3]
   have HB:Hid _:=hb;clear hg hkz hb;go_wp2;go_ret;exact⟨rfl,HB.X,HG.X⟩
theorem z47(a:Option Addr)(len cap:Nat)(left:Int)(w:zg)(h0:0<=left)(h1:left<=1048576)(hlen:len<=9223372036854775807):
 Calls ze 50 #[za a len cap,zc zb left] w fun e w'=>e=.returned (zc zb (if left<len then -1 else left - len))/\w'=w:=by
 by_cases hlt:left<len
 ·rw[zV hlt]
  go_enter Tryz.func50,Tryz.ntmps50;go_wp2;go_ret;exact⟨by simp,rfl⟩
 ·rw[zW hlt]
  go_enter Tryz.func50,Tryz.ntmps50;go_wp2;go_ret;exact⟨by simp,rfl⟩
theorem zQ1(o0 o1 o2 o3 o4:Int)(w:zg):
 Calls ze 104 #[.agg #[zc zb o0,zc zb o1,zc zb o2,zc zb o3,zc zb o4]] w fun e w'=>e=.returned (.agg #[zc zb o0,zc zb o1,zc zb o2,zc zb o3,zc zb o4])/\Below w.heap.size w w':=by
 go_enter Tryz.func104,Tryz.ntmps104;go_wp2;refine yX (v:=.agg #[zc zb o0,zc zb o1,zc zb o2,zc zb o3,zc zb o4]) (by simp[results,Tryz.results104,go_sem]) rfl ⟨rfl,?_⟩;exact((zK _).alloc (by simp) _).alloc (by simp<;>omega) _
theorem zJ7(a:Option Addr)(n cap:Nat)(zs:List Int)(w:zg)(hA:za3 w a zs)(hl:zs.length=n*5)(hlen:n<=1048576):
 Calls ze 55 #[za a n cap] w fun e w'=>e=.returned (za (some ⟨w.heap.size,0,none⟩) n n)/\Below w.heap.size w w'/\w'.heap[w.heap.size]? =some (.cells (cellsOf zs) 107 (0,0)):=by
 have HA:=za4 hA;have HL:=za4 hl;clear hA hl;have hmk:=fun W=>y54 W n hlen;go_enter Tryz.func55,Tryz.ntmps55
 go_wp2_with fail
 clear hmk;go_loopw[4] (fun t wr=>∃k:Nat,k<=n/\t=zc zb k/\Below w.heap.size w wr/\wr.heap[w.heap.size]? =some (.cells (cellsOf (zo6 (n*5) zs (k*5))) 107 (0,0))) (fun t _=>n - (intOf t).toNat)
 case atStart=>
  refine⟨0,yZ _,rfl,zK _,?_⟩;rw[Nat.zero_mul,zH0];exact zN w _
 case round=>
  obtain⟨k,hk,rfl,hb,hg⟩:=hrel;by_cases hlt:k<n
  ·obtain⟨b,off,rfl,hcs⟩:=za3.some (za3.below HA.X hb) (j:=k*5) (by rw[HL.X];omega)
   obtain⟨r0,r1,r2,r3,r4⟩:=zy6 hcs HL.X k hlt;clear hcs;obtain⟨o0,H0⟩:=nmd (og5 zs k 0);obtain⟨o1,H1⟩:=nmd (og5 zs k 1);obtain⟨o2,H2⟩:=nmd (og5 zs k 2);obtain⟨o3,H3⟩:=nmd (og5 zs k 3);obtain⟨o4,H4⟩:=nmd (og5 zs k 4);rw[H0.X]at r0;rw[H1.X]at r1;rw[H2.X]at r2;rw[H3.X]at r3;rw[H4.X]at r4;have HG:Hid _:=hg;have HB:Hid _:=hb;clear hg hb
   go_wp2_with fail
   refine(zQ1 _ _ _ _ _ _).mono ?_;rintro e w2 ⟨rfl,hb2⟩;obtain⟨B2,g2⟩:=zu7 hb2 HB.X HG.X;have HB2:Hid _:=B2;have x0:=zR _ _ (k*5) _ _ _ g2;rw[zd7 _ _ (by rw[zd6];omega)]at x0;have y0:=yU _ _ (k*5) _ _ g2;have x1:=zR _ _ (k*5+1) _ _ _ g2;rw[zd7 _ _ (by rw[zd6];omega)]at x1;have y1:=yU _ _ (k*5+1) _ _ g2;have x2:=zR _ _ (k*5+2) _ _ _ g2;rw[zd7 _ _ (by rw[zd6];omega)]at x2;have y2:=yU _ _ (k*5+2) _ _ g2;have x3:=zR _ _ (k*5+3) _ _ _ g2;rw[zd7 _ _ (by rw[zd6];omega)]at x3;have y3:=yU _ _ (k*5+3) _ _ g2;have x4:=zR _ _ (k*5+4) _ _ _ g2;rw[zd7 _ _ (by rw[zd6];omega)]at x4;have y4:=yU _ _ (k*5+4) _ _ g2;have HG2:Hid _:=g2;clear hb2 g2 B2;go_wp2;have q0:=zm4 HG2.X H0.X;have q1:=zm4 q0 H1.X;have q2:=zm4 q1 H2.X;have q3:=zm4 q2 H3.X;have q4:=zm4 q3 H4.X;refine⟨⟨k+1,by omega,by go_num,(((((HB2.X.setCell (zQ _) _).setCell (zQ _) _).setCell (zQ _) _).setCell (zQ _) _).setCell (zQ _) _),?_⟩,by simp[intOf];omega⟩;rw[show(k+1)*5=k*5+1+1+1+1+1 by omega];exact q4
  ·have hkz:k=n:=by omega
   have HG:Hid (wr.heap[w.heap.size]? =some (.cells (cellsOf zs) 107 (0,0))):=by
    show _=_;rw[hg,hkz,<-HL.X,zI3]
   have HB:Hid _:=hb;clear hg hkz hb;go_wp2;go_ret;exact⟨rfl,HB.X,HG.X⟩
theorem zM6(n fine left:Int)(a ao av:Option Addr)(lt cap ko co kv cv:Nat)(w:zg)(h0:0<=left)(h1:left<=1048576)(hlt:lt<=9223372036854775807)(hko:ko<=9223372036854775807)(hkv:kv<=9223372036854775807):
 Calls ze 13 #[.agg #[zc zb n,za a lt cap,za ao ko co,za av kv cv,zc zb fine],zc zb left] w fun e w'=>e=.returned (zc zb (szV left lt ko kv))/\Below w.heap.size w w':=by
 obtain⟨r,HR⟩:=nmd (szV left lt ko kv);rw[HR.X];go_enter Tryz.func13,Tryz.ntmps13
 go_wp2_with fail
 refine(yt6 n a lt cap left _ h0 h1 hlt).mono ?_;rintro e w1 ⟨rfl,hb⟩;obtain⟨b1,r1⟩:=y27 hb;obtain⟨c0,c1,c2,c3,c4⟩:=za7 r1;clear hb r1;by_cases ha:left<lt
 ·rw[zV ha]
  have HV:Hid (szV left lt ko kv= -1):=by
   show _=_;unfold szV;rw[zV ha]
  go_wp2;go_ret;exact⟨zf8 (HV.X.symm.trans HR.X),b1⟩
 ·rw[zW ha]
  have hl1:(lt:Int)<=left:=by omega
  by_cases hb:left - lt<ko
  ·have HV:Hid (szV left lt ko kv= -1):=by
    show _=_;unfold szV;rw[zW ha,zV hb]
   go_wp2_with(go_at_call 49;refine(z20 _ _ _ _ _ (by omega) (by omega) hko).mono ?_;rintro e w' ⟨rfl,rfl⟩;rw[zV (by omega)])
   go_ret;exact⟨zf8 (HV.X.symm.trans HR.X),b1⟩
  ·have hl2:(ko:Int)<=left - lt:=by omega
   by_cases hc:left - lt - ko<kv
   ·have HV:Hid (szV left lt ko kv= -1):=by
     show _=_;unfold szV;rw[zW ha,zW hb,zV hc]
    go_wp2_with(first
     |(go_at_call 49;refine(z20 _ _ _ _ _ (by omega) (by omega) hko).mono ?_;rintro e w' ⟨rfl,rfl⟩;rw[zW (by omega)])
     |(go_at_call 50;refine(z47 _ _ _ _ _ (by omega) (by omega) hkv).mono ?_;rintro e w' ⟨rfl,rfl⟩;rw[zV (by omega)]))
    go_ret;exact⟨zf8 (HV.X.symm.trans HR.X),b1⟩
   ·have hl3:(kv:Int)<=left - lt - ko:=by omega
    have HV:Hid (szV left lt ko kv=left - lt - ko - kv):=by
     show _=_;unfold szV;rw[zW ha,zW hb,zW hc]
    go_wp2_with(first
     |(go_at_call 49;refine(z20 _ _ _ _ _ (by omega) (by omega) hko).mono ?_;rintro e w' ⟨rfl,rfl⟩;rw[zW (by omega)])
     |(go_at_call 50;refine(z47 _ _ _ _ _ (by omega) (by omega) hkv).mono ?_;rintro e w' ⟨rfl,rfl⟩;rw[zW (by omega)]))
    go_ret;exact⟨zf8 (HV.X.symm.trans HR.X),b1⟩
def TC(w W:zg)(src z out:Array Value):Prop:=
 Below w.heap.size w W/\W.heap[w.heap.size]? =some (.cells src 45 (0,0))/\W.heap[w.heap.size+1]? =some (.cells z 30 (0,0))/\W.heap[w.heap.size+1+1]? =some (.cells out 30 (0,0))
theorem TC.below{w W W':zg}{src z out:Array Value}(h:TC w W src z out)(hb:Below W.heap.size W W'):TC w W' src z out:=
 ⟨h.1.trans (hb.mono h.1.size),za0 hb (za2 h.2.1) h.2.1,za0 hb (za2 h.2.2.1) h.2.2.1,za0 hb (za2 h.2.2.2) h.2.2.2⟩
theorem TC.set{w W:zg}{src z out:Array Value}(h:TC w W src z out)(i:Nat)(v:Value):TC w (W.setCell ⟨w.heap.size+1+1,i,none⟩ v) src z (out.setIfInBounds i v):=by
 refine⟨h.1.setCell (by simp<;>omega) _,?_,?_,zP _ _ _ _ _ _ h.2.2.2⟩
 ·rw[xg _ _ _ _ (by simp<;>omega)];exact h.2.1
 ·rw[xg _ _ _ _ (by simp<;>omega)];exact h.2.2.1
theorem zq0(n fine:Int)(a ao av:Option Addr)(cap ko co kv cv:Nat)(zs os vs:List Int)(w:zg)(hA:za3 w a zs)(hO:za3 w ao os)(hV:za3 w av vs)(hlo:os.length=ko*6)(hlv:vs.length=kv*5)(hlt:zs.length<=1048576)(hko:ko<=1048576)(hkv:kv<=1048576):
 Calls ze 15 #[.agg #[zc zb n,za a zs.length cap,za ao ko co,za av kv cv,zc zb fine]] w fun e w'=>∃g go gv,w.heap.size<=g/\w.heap.size<=go/\w.heap.size<=gv/\e=.returned (.agg #[zc zb n,za (some ⟨g,0,none⟩) zs.length zs.length,za (some ⟨go,0,none⟩) ko ko,za (some ⟨gv,0,none⟩) kv kv,zc zb fine])/\Below w.heap.size w w'/\zo9 w' g go gv zs os vs:=by
 have HA:=za4 hA;have HO:=za4 hO;have HV:=za4 hV;have HLO:Hid _:=hlo;have HLV:Hid _:=hlv;clear hA hO hV hlo hlv;go_enter Tryz.func15,Tryz.ntmps15
 go_wp2_with fail
 have B0:Hid (Below w.heap.size w (((w.alloc (zd #[zc zb n,za a zs.length cap,za ao ko co,za av kv cv,zc zb fine] 45)).alloc (zd #[zc zb 0,za none 0 0,za none 0 0,za none 0 0,zc zb 0] 30)).alloc (zd #[zc zb 0,za none 0 0,za none 0 0,za none 0 0,zc zb 0] 30))):=
  ((zK _).alloc (by simp) _).alloc (by simp<;>omega) _
 have R0:Hid ((((w.alloc (zd #[zc zb n,za a zs.length cap,za ao ko co,za av kv cv,zc zb fine] 45)).alloc (zd #[zc zb 0,za none 0 0,za none 0 0,za none 0 0,zc zb 0] 30)).alloc (zd #[zc zb 0,za none 0 0,za none 0 0,za none 0 0,zc zb 0] 30)).heap[w.heap.size]? =some (zd #[zc zb n,za a zs.length cap,za ao ko co,za av kv cv,zc zb fine] 45 (0,0))):=by
  show _=_;rw[yY _ _ (by simp<;>omega)];exact xb _ _ _
 have R1:Hid ((((w.alloc (zd #[zc zb n,za a zs.length cap,za ao ko co,za av kv cv,zc zb fine] 45)).alloc (zd #[zc zb 0,za none 0 0,za none 0 0,za none 0 0,zc zb 0] 30)).alloc (zd #[zc zb 0,za none 0 0,za none 0 0,za none 0 0,zc zb 0] 30)).heap[w.heap.size+1]? =some (zd #[zc zb 0,za none 0 0,za none 0 0,za none 0 0,zc zb 0] 30 (0,0))):=by
  show _=_;rw[yY _ _ (by simp<;>omega)];exact y8 _ _ _
 have R2:Hid ((((w.alloc (zd #[zc zb n,za a zs.length cap,za ao ko co,za av kv cv,zc zb fine] 45)).alloc (zd #[zc zb 0,za none 0 0,za none 0 0,za none 0 0,zc zb 0] 30)).alloc (zd #[zc zb 0,za none 0 0,za none 0 0,za none 0 0,zc zb 0] 30)).heap[w.heap.size+1+1]? =some (zd #[zc zb 0,za none 0 0,za none 0 0,za none 0 0,zc zb 0] 30 (0,0))):=by
  have:=zN ((w.alloc (zd #[zc zb n,za a zs.length cap,za ao ko co,za av kv cv,zc zb fine] 45)).alloc (zd #[zc zb 0,za none 0 0,za none 0 0,za none 0 0,zc zb 0] 30)) (zd #[zc zb 0,za none 0 0,za none 0 0,za none 0 0,zc zb 0] 30);show _=_;simpa using this
 have T0:Hid (TC w (((w.alloc (zd #[zc zb n,za a zs.length cap,za ao ko co,za av kv cv,zc zb fine] 45)).alloc (zd #[zc zb 0,za none 0 0,za none 0 0,za none 0 0,zc zb 0] 30)).alloc (zd #[zc zb 0,za none 0 0,za none 0 0,za none 0 0,zc zb 0] 30)) #[zc zb n,za a zs.length cap,za ao ko co,za av kv cv,zc zb fine] #[zc zb 0,za none 0 0,za none 0 0,za none 0 0,zc zb 0] #[zc zb 0,za none 0 0,za none 0 0,za none 0 0,zc zb 0]):=⟨B0.X,R0.X,R1.X,R2.X⟩;clear B0 R0 R1 R2;generalize((w.alloc (zd #[zc zb n,za a zs.length cap,za ao ko co,za av kv cv,zc zb fine] 45)).alloc (zd #[zc zb 0,za none 0 0,za none 0 0,za none 0 0,zc zb 0] 30)).alloc (zd #[zc zb 0,za none 0 0,za none 0 0,za none 0 0,zc zb 0] 30)=W0 at*;have hW0:=za2 T0.X.2.2.2
 -- the times
 refine(yz2 n a cap zs _ (HA.X.below T0.X.1) hlt).mono ?_;rintro e w1 ⟨g,hg0,rfl,hb,hg⟩;have T1:Hid _:=T0.X.below hb;have hg1:w.heap.size+1+1<g:=by omega
 have G1:Hid _:=hg;clear T0 hb hg hg0 hW0 W0;obtain⟨c0,c1,c2,c3,c4⟩:=za7 T1.X.2.1;obtain⟨x0,x1,x2,x3,x4⟩:=za7 T1.X.2.2.2;have f0:=fun i=>yU _ _ i _ _ T1.X.2.2.2
 go_wp2_with fail
 have T2:Hid (TC w ((w1.setCell ⟨w.heap.size+1+1,0,none⟩ (zc zb n)).setCell ⟨w.heap.size+1+1,1,none⟩ (za (some ⟨g,0,none⟩) zs.length zs.length)) #[zc zb n,za a zs.length cap,za ao ko co,za av kv cv,zc zb fine] #[zc zb 0,za none 0 0,za none 0 0,za none 0 0,zc zb 0] #[zc zb n,za (some ⟨g,0,none⟩) zs.length zs.length,za none 0 0,za none 0 0,zc zb 0]):=by
  have:=TC.set (TC.set T1.X 0 (zc zb n)) 1 (za (some ⟨g,0,none⟩) zs.length zs.length);change TC w _ _ _ _;simpa using this
 have G2:Hid (((w1.setCell ⟨w.heap.size+1+1,0,none⟩ (zc zb n)).setCell ⟨w.heap.size+1+1,1,none⟩ (za (some ⟨g,0,none⟩) zs.length zs.length)).heap[g]? =_):=z29 (z29 G1.X (by omega)) (by omega);clear T1 G1 c0 c1 c2 c3 c4 x0 x1 x2 x3 x4 f0;generalize(w1.setCell ⟨w.heap.size+1+1,0,none⟩ (zc zb n)).setCell ⟨w.heap.size+1+1,1,none⟩ (za (some ⟨g,0,none⟩) zs.length zs.length)=W2 at*
 -- the orders
 have hW2:=za2 T2.X.2.2.2;refine(ya1 ao ko co os _ (HO.X.below T2.X.1) HLO.X hko).mono ?_;rintro e w3 ⟨rfl,hb,hg⟩;have T3:Hid _:=T2.X.below hb;have G3:Hid _:=za0 hb (za2 G2.X) G2.X;have O3:Hid _:=hg;obtain⟨go,HGO⟩:=nmd W2.heap.size;rw[HGO.X]at O3 hW2⊢;clear T2 G2 hb hg HGO W2 w1;obtain⟨c0,c1,c2,c3,c4⟩:=za7 T3.X.2.1;obtain⟨x0,x1,x2,x3,x4⟩:=za7 T3.X.2.2.2;have f0:=fun i=>yU _ _ i _ _ T3.X.2.2.2
 go_wp2_with fail
 have T4:Hid (TC w (w3.setCell ⟨w.heap.size+1+1,2,none⟩ (za (some ⟨go,0,none⟩) ko ko)) #[zc zb n,za a zs.length cap,za ao ko co,za av kv cv,zc zb fine] #[zc zb 0,za none 0 0,za none 0 0,za none 0 0,zc zb 0] #[zc zb n,za (some ⟨g,0,none⟩) zs.length zs.length,za (some ⟨go,0,none⟩) ko ko,za none 0 0,zc zb 0]):=by
  have:=TC.set T3.X 2 (za (some ⟨go,0,none⟩) ko ko);change TC w _ _ _ _;simpa using this
 have G4:Hid ((w3.setCell ⟨w.heap.size+1+1,2,none⟩ (za (some ⟨go,0,none⟩) ko ko)).heap[g]? =_):=z29 G3.X (by omega);have O4:Hid ((w3.setCell ⟨w.heap.size+1+1,2,none⟩ (za (some ⟨go,0,none⟩) ko ko)).heap[go]? =_):=z29 O3.X (by omega);clear T3 G3 O3 c0 c1 c2 c3 c4 x0 x1 x2 x3 x4 f0;generalize w3.setCell ⟨w.heap.size+1+1,2,none⟩ (za (some ⟨go,0,none⟩) ko ko)=W4 at*
 -- the vehicles
 have hW4:=za2 T4.X.2.2.2;refine(zJ7 av kv cv vs _ (HV.X.below T4.X.1) HLV.X hkv).mono ?_;rintro e w5 ⟨rfl,hb,hg⟩;have T5:Hid _:=T4.X.below hb;have G5:Hid _:=za0 hb (za2 G4.X) G4.X;have O5:Hid _:=za0 hb (za2 O4.X) O4.X;have V5:Hid _:=hg;obtain⟨gv,HGV⟩:=nmd W4.heap.size;rw[HGV.X]at V5 hW4⊢;clear T4 G4 O4 hb hg HGV W4 w3;obtain⟨c0,c1,c2,c3,c4⟩:=za7 T5.X.2.1;obtain⟨z0,z1,z2,z3,z4⟩:=za7 T5.X.2.2.1;obtain⟨x0,x1,x2,x3,x4⟩:=za7 T5.X.2.2.2;have f0:=fun i=>yU _ _ i _ _ T5.X.2.2.2;have f1:=fun i=>yU _ _ i _ _ T5.X.2.2.1;go_wp2;refine yX (v:=.agg #[zc zb n,za (some ⟨g,0,none⟩) zs.length zs.length,za (some ⟨go,0,none⟩) ko ko,za (some ⟨gv,0,none⟩) kv kv,zc zb fine]) (by simp[results,Tryz.results15,go_sem,z0,z1,z2,z3,z4]) rfl ⟨g,go,gv,by omega,by omega,by omega,rfl,?_,?_⟩
 ·repeat(first|with_reducible exact T5.X.1|refine xd ?_ (by simp<;>omega) _)
 ·refine⟨?_,?_,?_⟩
  ·repeat(first|with_reducible exact G5.X|refine z29 ?_ (by omega))
  ·repeat(first|with_reducible exact O5.X|refine z29 ?_ (by omega))
  ·repeat(first|with_reducible exact V5.X|refine z29 ?_ (by omega))
theorem zX7{zs:List Int}{id:Int}{k:Nat}(h:∀j,j<k->og6 zs j 0≠id)(hk:og6 zs k 0≠id):∀j,j<k+1->og6 zs j 0≠id:=by
 intro j hj;by_cases e:j=k
 ·rw[e];exact hk
 ·exact h j (by omega)
theorem zr7(n fine id:Int)(a ao av:Option Addr)(lt cap ko co kv cv:Nat)(zs:List Int)(w:zg)(hA:za3 w ao zs)(hl:zs.length=ko*6)(hlen:ko<=9223372036854775807):
 Calls ze 88 #[.agg #[zc zb n,za a lt cap,za ao ko co,za av kv cv,zc zb fine],zc zb id] w fun e w'=>e=.returned (.tuple #[.agg #[zc zb (zd0 zs ko id 0),zc zb (zd0 zs ko id 1),zc zb (zd0 zs ko id 2),zc zb (zd0 zs ko id 3),zc zb (zd0 zs ko id 4),zc zb (zd0 zs ko id 5)],.bool (zm0 zs ko id)])/\Below w.heap.size w w':=by
 have HB0:Hid (Below w.heap.size w ((w.alloc (zd #[zc zb n,za a lt cap,za ao ko co,za av kv cv,zc zb fine] 30)).alloc (zd #[zc zb 0,zc zb 0,zc zb 0,zc zb 0,zc zb 0,zc zb 0] 103))):=(zK _).alloc (by simp) _;have HA:Hid _:=hA;have HL:Hid _:=hl;clear hA hl;go_enter Tryz.func88,Tryz.ntmps88
 go_wp2_with fail
 have P0:Hid (((w.alloc (zd #[zc zb n,za a lt cap,za ao ko co,za av kv cv,zc zb fine] 30)).alloc (zd #[zc zb 0,zc zb 0,zc zb 0,zc zb 0,zc zb 0,zc zb 0] 103)).heap[w.heap.size]? =_):=xb _ _ _;have Q0:Hid (((w.alloc (zd #[zc zb n,za a lt cap,za ao ko co,za av kv cv,zc zb fine] 30)).alloc (zd #[zc zb 0,zc zb 0,zc zb 0,zc zb 0,zc zb 0,zc zb 0] 103)).heap[w.heap.size+1]? =_):=y8 _ _ _;generalize(w.alloc (zd #[zc zb n,za a lt cap,za ao ko co,za av kv cv,zc zb fine] 30)).alloc (zd #[zc zb 0,zc zb 0,zc zb 0,zc zb 0,zc zb 0,zc zb 0] 103)=W at*;obtain⟨c0,c1,c2,c3,c4⟩:=za7 P0.X;obtain⟨q0,q1,q2,q3,q4,q5⟩:=zh8 Q0.X;have f0:=fun i=>yU _ _ i _ _ Q0.X
 go_loop [6] (fun t=>∃k:Nat,k<=ko/\t=zc zb k/\∀j,j<k->og6 zs j 0≠id) (fun t=>ko - (intOf t).toNat)
 case atStart=>exact⟨0,yZ _,rfl,fun j hj=>by omega⟩
 case round=>
  obtain⟨k,hk,rfl,hno⟩:=hrel;have HN:Hid _:=hno;clear hno;by_cases hlt:k<ko
  ·obtain⟨b,off,rfl,hcs⟩:=za3.some (za3.below HA.X HB0.X) (j:=k*6) (by rw[HL.X];omega)
   obtain⟨r0,r1,r2,r3,r4,r5⟩:=zq2 hcs HL.X k hlt;clear hcs;obtain⟨o0,H0⟩:=nmd (og6 zs k 0);obtain⟨o1,H1⟩:=nmd (og6 zs k 1);obtain⟨o2,H2⟩:=nmd (og6 zs k 2);obtain⟨o3,H3⟩:=nmd (og6 zs k 3);obtain⟨o4,H4⟩:=nmd (og6 zs k 4);obtain⟨o5,H5⟩:=nmd (og6 zs k 5);rw[H0.X]at r0;rw[H1.X]at r1;rw[H2.X]at r2;rw[H3.X]at r3;rw[H4.X]at r4;rw[H5.X]at r5;by_cases he:o0=id
   ·have heb:(o0==id)=true:=by simp[he]
    have HF:Hid _:=y07 hlt (by rw[H0.X];exact he) HN.X;clear he;go_wp2;refine yX (v:=.tuple #[.agg #[zc zb o0,zc zb o1,zc zb o2,zc zb o3,zc zb o4,zc zb o5],.bool true]) (by simp[results,Tryz.results88,go_sem,q0,q1,q2,q3,q4,q5]) rfl ⟨?_,?_⟩
    ·rw[yl2 HF.X];simp only[ym5 HF.X,H0.X,H1.X,H2.X,H3.X,H4.X,H5.X]
    ·repeat(first|with_reducible exact HB0.X|refine xd ?_ (by simp<;>omega) _)
   ·have heb:(o0==id)=false:=by simp[he]
    have HS:Hid _:=zX7 HN.X (by rw[H0.X];exact he);clear he;go_wp2;refine⟨⟨k+1,by omega,by go_num,HS.X⟩,by simp[intOf];omega⟩
  ·have hkx:k=ko:=by omega
   have HF:Hid _:=zZ8 (hkx▸HN.X);clear hkx;go_wp2;refine yX (v:=.tuple #[.agg #[zc zb 0,zc zb 0,zc zb 0,zc zb 0,zc zb 0,zc zb 0],.bool false]) (by simp[results,Tryz.results88,go_sem,q0,q1,q2,q3,q4,q5]) rfl ⟨?_,?_⟩
   ·rw[zL5 HF.X];simp only[zK8 HF.X]
   ·repeat(first|with_reducible exact HB0.X|refine xd ?_ (by simp<;>omega) _)
theorem zS8{zs:List Int}{id:Int}{k:Nat}(h:∀j,j<k->og5 zs j 0≠id)(hk:og5 zs k 0≠id):∀j,j<k+1->og5 zs j 0≠id:=by
 intro j hj;by_cases e:j=k
 ·rw[e];exact hk
 ·exact h j (by omega)
theorem zE5(n fine id:Int)(a ao av:Option Addr)(lt cap ko co kv cv:Nat)(zs:List Int)(w:zg)(hA:za3 w av zs)(hl:zs.length=kv*5)(hlen:kv<=9223372036854775807):
 Calls ze 129 #[.agg #[zc zb n,za a lt cap,za ao ko co,za av kv cv,zc zb fine],zc zb id] w fun e w'=>e=.returned (.tuple #[.agg #[zc zb (zc2 zs kv id 0),zc zb (zc2 zs kv id 1),zc zb (zc2 zs kv id 2),zc zb (zc2 zs kv id 3),zc zb (zc2 zs kv id 4)],.bool (fnd5T zs kv id)])/\Below w.heap.size w w':=by
 have HB0:Hid (Below w.heap.size w ((w.alloc (zd #[zc zb n,za a lt cap,za ao ko co,za av kv cv,zc zb fine] 30)).alloc (zd #[zc zb 0,zc zb 0,zc zb 0,zc zb 0,zc zb 0] 107))):=(zK _).alloc (by simp) _;have HA:Hid _:=hA;have HL:Hid _:=hl;clear hA hl;go_enter Tryz.func129,Tryz.ntmps129
 go_wp2_with fail
 have P0:Hid (((w.alloc (zd #[zc zb n,za a lt cap,za ao ko co,za av kv cv,zc zb fine] 30)).alloc (zd #[zc zb 0,zc zb 0,zc zb 0,zc zb 0,zc zb 0] 107)).heap[w.heap.size]? =_):=xb _ _ _;have Q0:Hid (((w.alloc (zd #[zc zb n,za a lt cap,za ao ko co,za av kv cv,zc zb fine] 30)).alloc (zd #[zc zb 0,zc zb 0,zc zb 0,zc zb 0,zc zb 0] 107)).heap[w.heap.size+1]? =_):=y8 _ _ _;generalize(w.alloc (zd #[zc zb n,za a lt cap,za ao ko co,za av kv cv,zc zb fine] 30)).alloc (zd #[zc zb 0,zc zb 0,zc zb 0,zc zb 0,zc zb 0] 107)=W at*;obtain⟨c0,c1,c2,c3,c4⟩:=za7 P0.X;obtain⟨q0,q1,q2,q3,q4⟩:=za7 Q0.X;have f0:=fun i=>yU _ _ i _ _ Q0.X
 go_loop [6] (fun t=>∃k:Nat,k<=kv/\t=zc zb k/\∀j,j<k->og5 zs j 0≠id) (fun t=>kv - (intOf t).toNat)
 case atStart=>exact⟨0,yZ _,rfl,fun j hj=>by omega⟩
 case round=>
  obtain⟨k,hk,rfl,hno⟩:=hrel;have HN:Hid _:=hno;clear hno;by_cases hlt:k<kv
  ·obtain⟨b,off,rfl,hcs⟩:=za3.some (za3.below HA.X HB0.X) (j:=k*5) (by rw[HL.X];omega)
   obtain⟨r0,r1,r2,r3,r4⟩:=zy6 hcs HL.X k hlt;clear hcs;obtain⟨o0,H0⟩:=nmd (og5 zs k 0);obtain⟨o1,H1⟩:=nmd (og5 zs k 1);obtain⟨o2,H2⟩:=nmd (og5 zs k 2);obtain⟨o3,H3⟩:=nmd (og5 zs k 3);obtain⟨o4,H4⟩:=nmd (og5 zs k 4);rw[H0.X]at r0;rw[H1.X]at r1;rw[H2.X]at r2;rw[H3.X]at r3;rw[H4.X]at r4;by_cases he:o0=id
   ·have heb:(o0==id)=true:=by simp[he]
    have HF:Hid _:=ys5 hlt (by rw[H0.X];exact he) HN.X;clear he;go_wp2;refine yX (v:=.tuple #[.agg #[zc zb o0,zc zb o1,zc zb o2,zc zb o3,zc zb o4],.bool true]) (by simp[results,Tryz.results129,go_sem,q0,q1,q2,q3,q4]) rfl ⟨?_,?_⟩
    ·rw[yj7 HF.X];simp only[yj1 HF.X,H0.X,H1.X,H2.X,H3.X,H4.X]
    ·repeat(first|with_reducible exact HB0.X|refine xd ?_ (by simp<;>omega) _)
   ·have heb:(o0==id)=false:=by simp[he]
    have HS:Hid _:=zS8 HN.X (by rw[H0.X];exact he);clear he;go_wp2;refine⟨⟨k+1,by omega,by go_num,HS.X⟩,by simp[intOf];omega⟩
  ·have hkx:k=kv:=by omega
   have HF:Hid _:=zT7 (hkx▸HN.X);clear hkx;go_wp2;refine yX (v:=.tuple #[.agg #[zc zb 0,zc zb 0,zc zb 0,zc zb 0,zc zb 0],.bool false]) (by simp[results,Tryz.results129,go_sem,q0,q1,q2,q3,q4]) rfl ⟨?_,?_⟩
   ·rw[zN4 HF.X];simp only[zN1 HF.X]
   ·repeat(first|with_reducible exact HB0.X|refine xd ?_ (by simp<;>omega) _)
theorem za5{W:zg}{b o k i:Nat}{v x:Value}(h:W.cell? ⟨b,o,none⟩=some x)(hne:b≠k):(W.setCell ⟨k,i,none⟩ v).cell? ⟨b,o,none⟩=some x:=by
 rw[World.cell?_of_block (w:=W) (xg W ⟨k,i,none⟩ b v hne)];exact h
theorem za6{W:zg}{g k i:Nat}{o:Obj}{v:Value}(h:W.heap[g]? =some o)(hne:g≠k):(W.setCell ⟨k,i,none⟩ v).heap[g]? =some o:=by
 rw[xg _ _ _ _ (by simpa using hne)];exact h
theorem zO3{W:zg}{g:Nat}{z0 z1 z2 z3 z4 z5 o0 o1 o2 o3 o4 o5:Value}{T:TypeId}(h:W.heap[g]? =some (zd #[z0,z1,z2,z3,z4,z5] T (0,0))):
 ((((((W.setCell ⟨g,0,none⟩ o0).setCell ⟨g,1,none⟩ o1).setCell ⟨g,2,none⟩ o2).setCell ⟨g,3,none⟩ o3).setCell ⟨g,4,none⟩ o4).setCell ⟨g,5,none⟩ o5).heap[g]? =some (zd #[o0,o1,o2,o3,o4,o5] T (0,0)):=
 zP _ _ _ _ _ _ (zP _ _ _ _ _ _ (zP _ _ _ _ _ _ (zP _ _ _ _ _ _ (zP _ _ _ _ _ _ (zP _ _ _ _ _ _ h)))))
theorem zu2{w:zg}{b off:Nat}{zs:List Int}(h:za3 w (some ⟨b,off,none⟩) zs){j:Nat}(hj:j<zs.length){v:Int}(hv:zs.getD j 0=v):w.cell? ⟨b,off+j,none⟩=some (zc zb v):=by
 obtain⟨b',off',e,hc⟩:=h j hj;simp at e;obtain⟨rfl,rfl⟩:=e;rw[hc,hv]
def CR(w W:zg)(cs rs:Array Value):Prop:=Below w.heap.size w W/\W.heap[w.heap.size]? =some (.cells cs 30 (0,0))/\W.heap[w.heap.size+1]? =some (.cells rs 80 (0,0))
theorem CR.new(w:zg)(cs rs:Array Value):CR w ((w.alloc (.cells cs 30)).alloc (.cells rs 80)) cs rs:=
 ⟨(zK _).alloc (by simp) _,xb _ _ _,y8 _ _ _⟩
theorem CR.below{w W W':zg}{cs rs:Array Value}(h:CR w W cs rs)(hb:Below W.heap.size W W'):CR w W' cs rs:=
 ⟨h.1.trans (hb.mono h.1.size),za0 hb (za2 h.2.1) h.2.1,za0 hb (za2 h.2.2) h.2.2⟩
theorem CR.drew{w W:zg}{cs rs:Array Value}(h:CR w W cs rs):CR w W.drew cs rs:=h.below (yV _ _).drew
theorem CR.alloc{w W:zg}{cs rs:Array Value}(h:CR w W cs rs)(o:Obj):CR w (W.alloc o) cs rs:=h.below (zK _)
theorem CR.set{w W:zg}{cs rs:Array Value}(h:CR w W cs rs){k i:Nat}{v:Value}(hk:w.heap.size+1<k):CR w (W.setCell ⟨k,i,none⟩ v) cs rs:=
 ⟨h.1.setCell (by simp;omega) _,za6 h.2.1 (by omega),za6 h.2.2 (by omega)⟩
theorem CR.big{w W:zg}{cs rs:Array Value}(h:CR w W cs rs):w.heap.size+1<W.heap.size:=za2 h.2.2
theorem zP0{zs:List Int}{id:Int}{k:Nat}(h:∀j,j<k->og6 zs j 0≠id)(hk:og6 zs k 0≠id):∀j,j<k+1->og6 zs j 0≠id:=by
 intro j hj;by_cases e:j=k
 ·rw[e];exact hk
 ·exact h j (by omega)
theorem zW4{zs:List Int}{id:Int}{k:Nat}(h:∀j,j<k->zs.getD j 0≠id)(hk:zs.getD k 0≠id):∀j,j<k+1->zs.getD j 0≠id:=by
 intro j hj;by_cases e:j=k
 ·rw[e];exact hk
 ·exact h j (by omega)
theorem z46(a:Option Addr)(m cap:Nat)(id:Int)(zs:List Int)(w:zg)(hA:za3 w a zs)(hm:m<=zs.length)(hlen:m<=9223372036854775807):
 Calls ze 87 #[za a m cap,zc zb id] w fun e w'=>e=.returned (.bool (zx5 zs m id))/\w'=w:=by
 have HA:Hid _:=hA;clear hA;obtain⟨r,HR⟩:=nmd (zx5 zs m id);rw[HR.X];go_enter Tryz.func87,Tryz.ntmps87
 go_wp2_with fail
 go_loop [5] (fun t=>∃k:Nat,k<=m/\t=zc zb k/\∀j,j<k->zs.getD j 0≠id) (fun t=>m - (intOf t).toNat)
 case atStart=>exact⟨0,yZ _,rfl,fun j hj=>by omega⟩
 case round=>
  obtain⟨k,hk,rfl,hno⟩:=hrel;have HN:Hid _:=hno;clear hno;by_cases hlt:k<m
  ·obtain⟨b,off,rfl,hcs⟩:=za3.some HA.X (j:=k) (by omega)
   have ct:=hcs k (by omega);clear hcs;obtain⟨t,HT⟩:=nmd (zs.getD k 0);rw[HT.X]at ct;by_cases he:t=id
   ·have heb:(t==id)=true:=by simp[he]
    have HV:Hid _:=HR.symm.trans (zH4 hlt (HT.trans he));clear he;go_wp2;go_ret;exact⟨zb4 HV.symm,rfl⟩
   ·have heb:(t==id)=false:=by simp[he]
    have HS:Hid _:=zW4 HN.X (by rw[HT.X];exact he);clear he;go_wp2;exact⟨⟨k+1,by omega,by go_num,HS.X⟩,by simp[intOf];omega⟩
  ·have hkl:k=m:=by omega
   have HV:Hid _:=HR.symm.trans (zC9 (hkl▸HN.X));clear hkl;go_wp2;go_ret;exact⟨zb4 HV.symm,rfl⟩
theorem z44(a:Option Addr)(m cap:Nat)(id:Int)(zs:List Int)(w:zg)(v:Bool)(hv:zx5 zs m id=v)(hA:za3 w a zs)(hm:m<=zs.length)(hlen:m<=9223372036854775807):
 Calls ze 87 #[za a m cap,zc zb id] w fun e w'=>e=.returned (.bool v)/\w'=w:=hv▸z46 a m cap id zs w hA hm hlen
def zB9(zs:List Int)(m:Nat)(id:Int):Int:=match (zo m).find? (fun i=>zs.getD i 0==id)with
 |some i=>i
 |none=> -1
theorem zQ5{zs:List Int}{m:Nat}{id:Int}{i:Nat}(hi:i<m)(h:zs.getD i 0=id)(hno:∀j,j<i->zs.getD j 0≠id):zB9 zs m id=i:=by
 have:(zo m).find? (fun i=>zs.getD i 0==id)=some i:=by
  rw[yt];exact⟨by rw[h];simp,by simpa using hi,fun j hj=>by have:=hno j hj;simpa using this⟩
 unfold zB9;rw[this]
theorem zH2{zs:List Int}{m:Nat}{id:Int}(hno:∀j,j<m->zs.getD j 0≠id):zB9 zs m id= -1:=by
 have:(zo m).find? (fun i=>zs.getD i 0==id)=none:=by
  rw[yP];intro j hj;have:=hno j (by simpa using hj);simpa using this
 unfold zB9;rw[this]
theorem y72(zs:List Int)(m:Nat)(id:Int):decide (0<=zB9 zs m id)=zx5 zs m id:=by
 unfold zB9;cases hf:(zo m).find? (fun i=>zs.getD i 0==id)with
 |none=>
  rw[yP]at hf;rw[zC9 (fun j hj=>by have:=hf j (by simpa using hj);simpa using this)];rfl
 |some i=>
  rw[yt]at hf;rw[zH4 (by simpa using hf.2.1) (by simpa using hf.1)];simp
theorem zO5{zs:List Int}{id:Int}{k:Nat}(h:∀j,j<k->og5 zs j 0≠id)(hk:og5 zs k 0≠id):∀j,j<k+1->og5 zs j 0≠id:=by
 intro j hj;by_cases e:j=k
 ·rw[e];exact hk
 ·exact h j (by omega)
theorem yo6(n x y:Nat)(a:Option Addr)(len cap:Nat)(zs:List Int)(w:zg)(hn:n<=16)(hx:x<n)(hy:y<n)(hl:zs.length=n*n)(hlen:len=n*n)(hA:za3 w a zs):
 Calls ze 109 #[.agg #[zc zb n,za a len cap],zc zb x,zc zb y] w fun e w'=>e=.returned (zc zb (zs.getD (x*n+y) 0))/\Below w.heap.size w w':=by
 subst hlen;have hnn:=zN0 n n hn hn;have hxy:x*n+y<n*n:=by
  have:=yH n (show x+1<=n by omega);rw[Nat.add_mul]at this;omega
 obtain⟨bb,off,rfl,hcs⟩:=hA.some (j:=x*n+y) (by omega);have ct:=hcs (x*n+y) (by omega);have hlt:=zT ct;clear hcs hA;generalize zs.getD (x*n+y) 0=t at ct;have hwm:wrap64 ((x:Int)*(n:Int))=(x:Int)*(n:Int):=xr _ (by rw[<-xq];omega);simp at hlt;clear hl;go_enter Tryz.func109,Tryz.ntmps109;go_wp2;go_ret;exact⟨rfl,zK _⟩
theorem y46(n x y:Int)(a:Option Addr)(cap:Nat)(zs:List Int)(w:zg)(hm:zs6 n zs=true)(hx:0<=x/\x<n)(hy:0<=y/\y<n)(hA:za3 w a zs):
 Calls ze 109 #[.agg #[zc zb n,za a zs.length cap],zc zb x,zc zb y] w fun e w'=>e=.returned (zc zb (tmI n zs x y))/\Below w.heap.size w w':=by
 obtain⟨h1,h2,h3,_⟩:=zr2 hm;obtain⟨N,rfl⟩:∃N:Nat,n=N:=⟨n.toNat,by omega⟩;obtain⟨X,rfl⟩:∃X:Nat,x=X:=⟨x.toNat,by omega⟩;obtain⟨Y,rfl⟩:∃Y:Nat,y=Y:=⟨y.toNat,by omega⟩;have hl:zs.length=N*N:=by rw[<-xq]at h3;omega
 exact yo6 N X Y a zs.length cap zs w (by omega) (by omega) (by omega) hl hl hA
theorem zc1(n lo hi:Int)(w:zg):
 Calls ze 32 #[zc zb n,zc zb lo,zc zb hi] w fun e w'=>e=.returned (.bool (inB n lo hi))/\w'=w:=by
 by_cases h1:lo<=n
 ·by_cases h2:n<=hi
  ·have h3:=zf3 ⟨h1,h2⟩
   rw[h3];go_enter Tryz.func32,Tryz.ntmps32;go_wp2;go_ret;exact⟨by simp,rfl⟩
  ·have h3:inB n lo hi=false:=zx4 (by omega)
   rw[h3];go_enter Tryz.func32,Tryz.ntmps32;go_wp2;go_ret;exact⟨by simp,rfl⟩
 ·have h3:inB n lo hi=false:=zx4 (by omega)
  rw[h3];go_enter Tryz.func32,Tryz.ntmps32;go_wp2;go_ret;exact⟨by simp,rfl⟩
theorem z31(n fine id:Int)(a ao av:Option Addr)(lt cap ko co kv cv:Nat)(zs:List Int)(w:zg)(hA:za3 w ao zs)(hl:zs.length=ko*6)(hlen:ko<=9223372036854775807):
 Calls ze 139 #[.agg #[zc zb n,za a lt cap,za ao ko co,za av kv cv,zc zb fine],zc zb id] w fun e w'=>e=.returned (.tuple #[.agg #[zc zb (zd0 zs ko id 0),zc zb (zd0 zs ko id 1),zc zb (zd0 zs ko id 2),zc zb (zd0 zs ko id 3),zc zb (zd0 zs ko id 4),zc zb (zd0 zs ko id 5)],.bool (zm0 zs ko id)])/\Below w.heap.size w w':=by
 have HB0:Hid (Below w.heap.size w ((w.alloc (zd #[zc zb n,za a lt cap,za ao ko co,za av kv cv,zc zb fine] 30)).alloc (zd #[zc zb 0,zc zb 0,zc zb 0,zc zb 0,zc zb 0,zc zb 0] 103))):=(zK _).alloc (by simp) _;have HA:=za4 hA;have HL:Hid _:=hl;clear hA hl;go_enter Tryz.func139,Tryz.ntmps139
 go_wp2_with fail
 have Q0:Hid (((w.alloc (zd #[zc zb n,za a lt cap,za ao ko co,za av kv cv,zc zb fine] 30)).alloc (zd #[zc zb 0,zc zb 0,zc zb 0,zc zb 0,zc zb 0,zc zb 0] 103)).heap[w.heap.size+1]? =_):=y8 _ _ _;generalize(w.alloc (zd #[zc zb n,za a lt cap,za ao ko co,za av kv cv,zc zb fine] 30)).alloc (zd #[zc zb 0,zc zb 0,zc zb 0,zc zb 0,zc zb 0,zc zb 0] 103)=W at*;go_loopw[11] (fun t wr=>∃k:Nat,k<=ko/\t=zc zb k/\(∀j,j<k->og6 zs j 0≠id)/\Below w.heap.size w wr/\wr.heap[w.heap.size+1]? =some (zd #[zc zb 0,zc zb 0,zc zb 0,zc zb 0,zc zb 0,zc zb 0] 103 (0,0))) (fun t _=>ko - (intOf t).toNat)
 case atStart=>exact⟨0,yZ _,rfl,fun j hj=>by omega,HB0.X,Q0.X⟩
 case round=>
  clear HB0 Q0;obtain⟨k,hk,rfl,hno,hb,hq⟩:=hrel;have HN:Hid _:=hno;have HB:Hid _:=hb;have HQ:Hid _:=hq;obtain⟨q0,q1,q2,q3,q4,q5⟩:=zh8 hq;have f0:=fun i=>yU _ _ i _ _ hq;have hqlt:=za2 hq;clear hno hb hq;by_cases hlt:k<ko
  ·obtain⟨b,off,rfl,hcs⟩:=za3.some (za3.below HA.X HB.X) (j:=k*6) (by rw[HL.X];omega)
   obtain⟨r0,r1,r2,r3,r4,r5⟩:=zq2 hcs HL.X k hlt;clear hcs;obtain⟨o0,H0⟩:=nmd (og6 zs k 0);obtain⟨o1,H1⟩:=nmd (og6 zs k 1);obtain⟨o2,H2⟩:=nmd (og6 zs k 2);obtain⟨o3,H3⟩:=nmd (og6 zs k 3);obtain⟨o4,H4⟩:=nmd (og6 zs k 4);obtain⟨o5,H5⟩:=nmd (og6 zs k 5);rw[H0.X]at r0;rw[H1.X]at r1;rw[H2.X]at r2;rw[H3.X]at r3;rw[H4.X]at r4;rw[H5.X]at r5;have hlb:=zT r0;simp at hlb;by_cases he:o0=id
   ·have heb:(o0==id)=true:=by simp[he]
    have HF:Hid _:=y07 hlt (by rw[H0.X];exact he) HN.X;clear he;go_wp2;refine yX (v:=.tuple #[.agg #[zc zb o0,zc zb o1,zc zb o2,zc zb o3,zc zb o4,zc zb o5],.bool true]) (by simp[results,Tryz.results139,go_sem,hqlt,q0,q1,q2,q3,q4,q5]) rfl ⟨?_,?_⟩
    ·rw[yl2 HF.X];simp only[ym5 HF.X,H0.X,H1.X,H2.X,H3.X,H4.X,H5.X]
    ·repeat(first|with_reducible exact HB.X|with_reducible refine xd ?_ (by simp<;>omega) _|with_reducible refine xy ?_ (by simp[zh];exact HB.X.size) _)
   ·have heb:(o0==id)=false:=by simp[he]
    have HS:Hid _:=zP0 HN.X (by rw[H0.X];exact he);clear he;go_wp2;refine⟨⟨k+1,by omega,by go_num,HS.X,HB.X.alloc HB.X.size _,?_⟩,by simp[intOf];omega⟩;rw[yY _ _ (za2 HQ.X)];exact HQ.X
  ·have hkx:k=ko:=by omega
   have HF:Hid _:=zZ8 (hkx▸HN.X);clear hkx;go_wp2;refine yX (v:=.tuple #[.agg #[zc zb 0,zc zb 0,zc zb 0,zc zb 0,zc zb 0,zc zb 0],.bool false]) (by simp[results,Tryz.results139,go_sem,q0,q1,q2,q3,q4,q5]) rfl ⟨?_,?_⟩
   ·rw[zL5 HF.X];simp only[zK8 HF.X]
   ·repeat(first|with_reducible exact HB.X|with_reducible refine xd ?_ (by simp<;>omega) _)
theorem zY3(a:Option Addr)(m cap:Nat)(id:Int)(zs:List Int)(w:zg)(hA:za3 w a zs)(hm:m<=zs.length)(hlen:m<=9223372036854775807):
 Calls ze 168 #[za a m cap,zc zb id] w fun e w'=>e=.returned (zc zb (zB9 zs m id))/\w'=w:=by
 have HA:Hid _:=hA;clear hA;obtain⟨r,HR⟩:=nmd (zB9 zs m id);rw[HR.X];go_enter Tryz.func168,Tryz.ntmps168
 go_wp2_with fail
 go_loop [8] (fun t=>∃k:Nat,k<=m/\t=zc zb k/\∀j,j<k->zs.getD j 0≠id) (fun t=>m - (intOf t).toNat)
 case atStart=>exact⟨0,yZ _,rfl,fun j hj=>by omega⟩
 case round=>
  obtain⟨k,hk,rfl,hno⟩:=hrel;have HN:Hid _:=hno;clear hno;by_cases hlt:k<m
  ·obtain⟨b,off,rfl,hcs⟩:=za3.some HA.X (j:=k) (by omega)
   have ct:=hcs k (by omega);clear hcs;obtain⟨t,HT⟩:=nmd (zs.getD k 0);rw[HT.X]at ct;by_cases he:id=t
   ·have heb:(id==t)=true:=by simp[he]
    have HV:Hid _:=HR.symm.trans (zQ5 hlt (HT.trans he.symm) HN.X);clear he;go_wp2;go_ret;exact⟨zf8 HV.symm,rfl⟩
   ·have heb:(id==t)=false:=by simp[he]
    have HS:Hid _:=zW4 HN.X (by rw[HT.X];exact fun x=>he x.symm);clear he;go_wp2;exact⟨⟨k+1,by omega,by go_num,HS.X⟩,by simp[intOf];omega⟩
  ·have hkl:k=m:=by omega
   have HV:Hid _:=HR.symm.trans (zH2 (hkl▸HN.X));clear hkl;go_wp2;go_ret;exact⟨zf8 HV.symm,rfl⟩
theorem zA3(a:Option Addr)(m cap:Nat)(id:Int)(zs:List Int)(w:zg)(hA:za3 w a zs)(hm:m<=zs.length)(hlen:m<=9223372036854775807):
 Calls ze 178 #[za a m cap,zc zb id] w fun e w'=>e=.returned (.bool (zx5 zs m id))/\w'=w:=by
 have HA:Hid _:=hA;clear hA;rw[<-y72];obtain⟨t,HT⟩:=nmd (zB9 zs m id);rw[HT.X];go_enter Tryz.func178,Tryz.ntmps178
 go_wp2_with fail
 refine(zY3 a m cap id zs w HA.X hm hlen).mono ?_;rintro e w1 ⟨rfl,rfl⟩;rw[HT.X];go_wp2;go_ret;exact⟨by simp,rfl⟩
theorem zI6(n fine id:Int)(a ao av:Option Addr)(lt cap ko co kv cv:Nat)(zs:List Int)(w:zg)(hA:za3 w av zs)(hl:zs.length=kv*5)(hlen:kv<=9223372036854775807):
 Calls ze 148 #[.agg #[zc zb n,za a lt cap,za ao ko co,za av kv cv,zc zb fine],zc zb id] w fun e w'=>e=.returned (.tuple #[.agg #[zc zb (zc2 zs kv id 0),zc zb (zc2 zs kv id 1),zc zb (zc2 zs kv id 2),zc zb (zc2 zs kv id 3),zc zb (zc2 zs kv id 4)],.bool (fnd5T zs kv id)])/\Below w.heap.size w w':=by
 have HB0:Hid (Below w.heap.size w ((w.alloc (zd #[zc zb n,za a lt cap,za ao ko co,za av kv cv,zc zb fine] 30)).alloc (zd #[zc zb 0,zc zb 0,zc zb 0,zc zb 0,zc zb 0] 107))):=(zK _).alloc (by simp) _;have HA:=za4 hA;have HL:Hid _:=hl;clear hA hl;go_enter Tryz.func148,Tryz.ntmps148
 go_wp2_with fail
 have Q0:Hid (((w.alloc (zd #[zc zb n,za a lt cap,za ao ko co,za av kv cv,zc zb fine] 30)).alloc (zd #[zc zb 0,zc zb 0,zc zb 0,zc zb 0,zc zb 0] 107)).heap[w.heap.size+1]? =_):=y8 _ _ _;generalize(w.alloc (zd #[zc zb n,za a lt cap,za ao ko co,za av kv cv,zc zb fine] 30)).alloc (zd #[zc zb 0,zc zb 0,zc zb 0,zc zb 0,zc zb 0] 107)=W at*;go_loopw[11] (fun t wr=>∃k:Nat,k<=kv/\t=zc zb k/\(∀j,j<k->og5 zs j 0≠id)/\Below w.heap.size w wr/\wr.heap[w.heap.size+1]? =some (zd #[zc zb 0,zc zb 0,zc zb 0,zc zb 0,zc zb 0] 107 (0,0))) (fun t _=>kv - (intOf t).toNat)
 case atStart=>exact⟨0,yZ _,rfl,fun j hj=>by omega,HB0.X,Q0.X⟩
 case round=>
  clear HB0 Q0;obtain⟨k,hk,rfl,hno,hb,hq⟩:=hrel;have HN:Hid _:=hno;have HB:Hid _:=hb;have HQ:Hid _:=hq;obtain⟨q0,q1,q2,q3,q4⟩:=za7 hq;have f0:=fun i=>yU _ _ i _ _ hq;have hqlt:=za2 hq;clear hno hb hq;by_cases hlt:k<kv
  ·obtain⟨b,off,rfl,hcs⟩:=za3.some (za3.below HA.X HB.X) (j:=k*5) (by rw[HL.X];omega)
   obtain⟨r0,r1,r2,r3,r4⟩:=zy6 hcs HL.X k hlt;clear hcs;obtain⟨o0,H0⟩:=nmd (og5 zs k 0);obtain⟨o1,H1⟩:=nmd (og5 zs k 1);obtain⟨o2,H2⟩:=nmd (og5 zs k 2);obtain⟨o3,H3⟩:=nmd (og5 zs k 3);obtain⟨o4,H4⟩:=nmd (og5 zs k 4);rw[H0.X]at r0;rw[H1.X]at r1;rw[H2.X]at r2;rw[H3.X]at r3;rw[H4.X]at r4;have hlb:=zT r0;simp at hlb;by_cases he:o0=id
   ·have heb:(o0==id)=true:=by simp[he]
    have HF:Hid _:=ys5 hlt (by rw[H0.X];exact he) HN.X;clear he;go_wp2;refine yX (v:=.tuple #[.agg #[zc zb o0,zc zb o1,zc zb o2,zc zb o3,zc zb o4],.bool true]) (by simp[results,Tryz.results148,go_sem,hqlt,q0,q1,q2,q3,q4]) rfl ⟨?_,?_⟩
    ·rw[yj7 HF.X];simp only[yj1 HF.X,H0.X,H1.X,H2.X,H3.X,H4.X]
    ·repeat(first|with_reducible exact HB.X|with_reducible refine xd ?_ (by simp<;>omega) _|with_reducible refine xy ?_ (by simp[zh];exact HB.X.size) _)
   ·have heb:(o0==id)=false:=by simp[he]
    have HS:Hid _:=zO5 HN.X (by rw[H0.X];exact he);clear he;go_wp2;refine⟨⟨k+1,by omega,by go_num,HS.X,HB.X.alloc HB.X.size _,?_⟩,by simp[intOf];omega⟩;rw[yY _ _ (za2 HQ.X)];exact HQ.X
  ·have hkx:k=kv:=by omega
   have HF:Hid _:=zT7 (hkx▸HN.X);clear hkx;go_wp2;refine yX (v:=.tuple #[.agg #[zc zb 0,zc zb 0,zc zb 0,zc zb 0,zc zb 0],.bool false]) (by simp[results,Tryz.results148,go_sem,q0,q1,q2,q3,q4]) rfl ⟨?_,?_⟩
   ·rw[zN4 HF.X];simp only[zN1 HF.X]
   ·repeat(first|with_reducible exact HB.X|with_reducible refine xd ?_ (by simp<;>omega) _)
theorem yt3(n x y:Nat)(v0 v1 v2 v3 v4:Int)(a ar:Option Addr)(len cap kr cr:Nat)(zs:List Int)(w:zg)(hn:n<=16)(hx:x<n)(hy:y<n)(hl:zs.length=n*n)(hlen:len=n*n)(hA:za3 w a zs):
 Calls ze 118 #[.agg #[zc zb n,za a len cap,zc zb v0,zc zb v1,zc zb v2,zc zb v3,zc zb v4,za ar kr cr],zc zb x,zc zb y] w fun e w'=>e=.returned (zc zb (zs.getD (x*n+y) 0))/\Below w.heap.size w w':=by
 subst hlen;have hnn:=zN0 n n hn hn;have hxy:x*n+y<n*n:=by
  have:=yH n (show x+1<=n by omega);rw[Nat.add_mul]at this;omega
 obtain⟨bb,off,rfl,hcs⟩:=hA.some (j:=x*n+y) (by omega);have ct:=hcs (x*n+y) (by omega);have hlt:=zT ct;clear hcs hA;generalize zs.getD (x*n+y) 0=t at ct;have hwm:wrap64 ((x:Int)*(n:Int))=(x:Int)*(n:Int):=xr _ (by rw[<-xq];omega);simp at hlt;clear hl;go_enter Tryz.func118,Tryz.ntmps118;go_wp2;go_ret;exact⟨rfl,zK _⟩
theorem yD9(n x y:Int)(v0 v1 v2 v3 v4:Int)(a ar:Option Addr)(cap kr cr:Nat)(zs:List Int)(w:zg)(hm:zs6 n zs=true)(hx:0<=x/\x<n)(hy:0<=y/\y<n)(hA:za3 w a zs):
 Calls ze 118 #[.agg #[zc zb n,za a zs.length cap,zc zb v0,zc zb v1,zc zb v2,zc zb v3,zc zb v4,za ar kr cr],zc zb x,zc zb y] w fun e w'=>e=.returned (zc zb (tmI n zs x y))/\Below w.heap.size w w':=by
 obtain⟨h1,h2,h3,_⟩:=zr2 hm;obtain⟨N,rfl⟩:∃N:Nat,n=N:=⟨n.toNat,by omega⟩;obtain⟨X,rfl⟩:∃X:Nat,x=X:=⟨x.toNat,by omega⟩;obtain⟨Y,rfl⟩:∃Y:Nat,y=Y:=⟨y.toNat,by omega⟩;have hl:zs.length=N*N:=by rw[<-xq]at h3;omega
 exact yt3 N X Y _ _ _ _ _ a ar zs.length cap kr cr zs w (by omega) (by omega) (by omega) hl hl hA
theorem zh1(n p:Int)(s:Value)(w:zg)(h1:1<=n)(h2:n<=16):
 Calls ze 163 #[.agg #[zc zb n,s],zc zb p] w fun e w'=>e=.returned (.bool (inB p 0 (n - 1)))/\Below w.heap.size w w':=by
 go_enter Tryz.func163,Tryz.ntmps163
 go_wp2_with(go_at_call 32;refine(zc1 _ _ _ _).mono ?_;rintro e w' ⟨rfl,rfl⟩)
 go_ret;exact⟨rfl,zK _⟩
theorem zh5(f t:Int)(w:zg):
 Calls ze 164 #[zc zb f,zc zb t] w fun e w'=>e=.returned (.bool (zi2 f t))/\w'=w:=by
 by_cases h1:0<=f
 ·by_cases h2:f<=t
  ·by_cases h3:t<=1000000
   ·rw[y19 h1 h2 h3]
    go_enter Tryz.func164,Tryz.ntmps164;go_wp2;go_ret;exact⟨by simp,rfl⟩
   ·rw[z79 (by omega)]
    go_enter Tryz.func164,Tryz.ntmps164;go_wp2;go_ret;exact⟨by simp,rfl⟩
  ·rw[z79 (by omega)]
   go_enter Tryz.func164,Tryz.ntmps164;go_wp2;go_ret;exact⟨by simp,rfl⟩
 ·rw[z79 (by omega)]
  go_enter Tryz.func164,Tryz.ntmps164;go_wp2;go_ret;exact⟨by simp,rfl⟩
theorem zG0(n o0 o1 o2 o3 o4 o5:Int)(s:Value)(w:zg)(hn1:1<=n)(hn2:n<=16):
 Calls ze 134 #[.agg #[zc zb n,s],.agg #[zc zb o0,zc zb o1,zc zb o2,zc zb o3,zc zb o4,zc zb o5]] w fun e w'=>e=.returned (.bool (zv8 n o1 o2 o3 o4 o5))/\Below w.heap.size w w':=by
 have HB0:Hid (Below w.heap.size w ((w.alloc (zd #[zc zb n,s] 26)).alloc (zd #[zc zb o0,zc zb o1,zc zb o2,zc zb o3,zc zb o4,zc zb o5] 103))):=(zK _).alloc (by simp) _;have R0:Hid (((w.alloc (zd #[zc zb n,s] 26)).alloc (zd #[zc zb o0,zc zb o1,zc zb o2,zc zb o3,zc zb o4,zc zb o5] 103)).heap[w.heap.size+1]? =some (zd #[zc zb o0,zc zb o1,zc zb o2,zc zb o3,zc zb o4,zc zb o5] 103 (0,0))):=y8 _ _ _;have HLT:Hid (w.heap.size+1<((w.alloc (zd #[zc zb n,s] 26)).alloc (zd #[zc zb o0,zc zb o1,zc zb o2,zc zb o3,zc zb o4,zc zb o5] 103)).heap.size):=by
  show _<_;simp
 cases h0:inB o1 0 (n - 1)
 ·go_enter Tryz.func134,Tryz.ntmps134
  go_wp2_with(first
   |(go_at_call 163
     refine(zh1 _ _ _ _ hn1 hn2).mono ?_;rintro e w2 ⟨rfl,hb2⟩;have BL:=HB0.trans (hb2.mono HB0.size);obtain⟨k0,k1,k2,k3,k4,k5⟩:=zh8 (za0 hb2 HLT.X R0.X);clear hb2)
   |(go_at_call 32;refine(zc1 _ _ _ _).mono ?_;rintro e w' ⟨rfl,rfl⟩)
   |(go_at_call 164;refine(zh5 _ _ _).mono ?_;rintro e w' ⟨rfl,rfl⟩))
  go_ret;exact⟨zb4 (by simp[zv8,h0]),BL⟩
 ·cases h1:inB o2 0 1000
  ·go_enter Tryz.func134,Tryz.ntmps134
   go_wp2_with(first
    |(go_at_call 163
      refine(zh1 _ _ _ _ hn1 hn2).mono ?_;rintro e w2 ⟨rfl,hb2⟩;have BL:=HB0.trans (hb2.mono HB0.size);obtain⟨k0,k1,k2,k3,k4,k5⟩:=zh8 (za0 hb2 HLT.X R0.X);clear hb2)
    |(go_at_call 32;refine(zc1 _ _ _ _).mono ?_;rintro e w' ⟨rfl,rfl⟩)
    |(go_at_call 164;refine(zh5 _ _ _).mono ?_;rintro e w' ⟨rfl,rfl⟩))
   go_ret;exact⟨zb4 (by simp[zv8,h0,h1]),BL⟩
  ·cases h2:zi2 o3 o4
   ·go_enter Tryz.func134,Tryz.ntmps134
    go_wp2_with(first
     |(go_at_call 163
       refine(zh1 _ _ _ _ hn1 hn2).mono ?_;rintro e w2 ⟨rfl,hb2⟩;have BL:=HB0.trans (hb2.mono HB0.size);obtain⟨k0,k1,k2,k3,k4,k5⟩:=zh8 (za0 hb2 HLT.X R0.X);clear hb2)
     |(go_at_call 32;refine(zc1 _ _ _ _).mono ?_;rintro e w' ⟨rfl,rfl⟩)
     |(go_at_call 164;refine(zh5 _ _ _).mono ?_;rintro e w' ⟨rfl,rfl⟩))
    go_ret;exact⟨zb4 (by simp[zv8,h0,h1,h2]),BL⟩
   ·cases h3:inB o5 0 10000
    ·go_enter Tryz.func134,Tryz.ntmps134
     go_wp2_with(first
      |(go_at_call 163
        refine(zh1 _ _ _ _ hn1 hn2).mono ?_;rintro e w2 ⟨rfl,hb2⟩;have BL:=HB0.trans (hb2.mono HB0.size);obtain⟨k0,k1,k2,k3,k4,k5⟩:=zh8 (za0 hb2 HLT.X R0.X);clear hb2)
      |(go_at_call 32;refine(zc1 _ _ _ _).mono ?_;rintro e w' ⟨rfl,rfl⟩)
      |(go_at_call 164;refine(zh5 _ _ _).mono ?_;rintro e w' ⟨rfl,rfl⟩))
     go_ret;exact⟨zb4 (by simp[zv8,h0,h1,h2,h3]),BL⟩
    ·go_enter Tryz.func134,Tryz.ntmps134
     go_wp2_with(first
      |(go_at_call 163
        refine(zh1 _ _ _ _ hn1 hn2).mono ?_;rintro e w2 ⟨rfl,hb2⟩;have BL:=HB0.trans (hb2.mono HB0.size);obtain⟨k0,k1,k2,k3,k4,k5⟩:=zh8 (za0 hb2 HLT.X R0.X);clear hb2)
      |(go_at_call 32;refine(zc1 _ _ _ _).mono ?_;rintro e w' ⟨rfl,rfl⟩)
      |(go_at_call 164;refine(zh5 _ _ _).mono ?_;rintro e w' ⟨rfl,rfl⟩))
     go_ret;exact⟨zb4 (by simp[zv8,h0,h1,h2,h3]),BL⟩
theorem z38(n o0 o1 o2 o3 o4:Int)(s:Value)(w:zg)(hn1:1<=n)(hn2:n<=16):
 Calls ze 135 #[.agg #[zc zb n,s],.agg #[zc zb o0,zc zb o1,zc zb o2,zc zb o3,zc zb o4]] w fun e w'=>e=.returned (.bool (zy4 n o1 o2 o3 o4))/\Below w.heap.size w w':=by
 have HB0:Hid (Below w.heap.size w ((w.alloc (zd #[zc zb n,s] 26)).alloc (zd #[zc zb o0,zc zb o1,zc zb o2,zc zb o3,zc zb o4] 107))):=(zK _).alloc (by simp) _;have R0:Hid (((w.alloc (zd #[zc zb n,s] 26)).alloc (zd #[zc zb o0,zc zb o1,zc zb o2,zc zb o3,zc zb o4] 107)).heap[w.heap.size+1]? =some (zd #[zc zb o0,zc zb o1,zc zb o2,zc zb o3,zc zb o4] 107 (0,0))):=y8 _ _ _;have HLT:Hid (w.heap.size+1<((w.alloc (zd #[zc zb n,s] 26)).alloc (zd #[zc zb o0,zc zb o1,zc zb o2,zc zb o3,zc zb o4] 107)).heap.size):=by
  show _<_;simp
 cases h0:inB o1 0 (n - 1)
 ·go_enter Tryz.func135,Tryz.ntmps135
  go_wp2_with(first
   |(go_at_call 163
     refine(zh1 _ _ _ _ hn1 hn2).mono ?_;rintro e w2 ⟨rfl,hb2⟩;have BL:=HB0.trans (hb2.mono HB0.size);obtain⟨k0,k1,k2,k3,k4⟩:=za7 (za0 hb2 HLT.X R0.X);clear hb2)
   |(go_at_call 32;refine(zc1 _ _ _ _).mono ?_;rintro e w' ⟨rfl,rfl⟩)
   |(go_at_call 164;refine(zh5 _ _ _).mono ?_;rintro e w' ⟨rfl,rfl⟩))
  go_ret;exact⟨zb4 (by simp[zy4,h0]),BL⟩
 ·cases h1:inB o2 0 1000
  ·go_enter Tryz.func135,Tryz.ntmps135
   go_wp2_with(first
    |(go_at_call 163
      refine(zh1 _ _ _ _ hn1 hn2).mono ?_;rintro e w2 ⟨rfl,hb2⟩;have BL:=HB0.trans (hb2.mono HB0.size);obtain⟨k0,k1,k2,k3,k4⟩:=za7 (za0 hb2 HLT.X R0.X);clear hb2)
    |(go_at_call 32;refine(zc1 _ _ _ _).mono ?_;rintro e w' ⟨rfl,rfl⟩)
    |(go_at_call 164;refine(zh5 _ _ _).mono ?_;rintro e w' ⟨rfl,rfl⟩))
   go_ret;exact⟨zb4 (by simp[zy4,h0,h1]),BL⟩
  ·cases h2:zi2 o3 o4
   ·go_enter Tryz.func135,Tryz.ntmps135
    go_wp2_with(first
     |(go_at_call 163
       refine(zh1 _ _ _ _ hn1 hn2).mono ?_;rintro e w2 ⟨rfl,hb2⟩;have BL:=HB0.trans (hb2.mono HB0.size);obtain⟨k0,k1,k2,k3,k4⟩:=za7 (za0 hb2 HLT.X R0.X);clear hb2)
     |(go_at_call 32;refine(zc1 _ _ _ _).mono ?_;rintro e w' ⟨rfl,rfl⟩)
     |(go_at_call 164;refine(zh5 _ _ _).mono ?_;rintro e w' ⟨rfl,rfl⟩))
    go_ret;exact⟨zb4 (by simp[zy4,h0,h1,h2]),BL⟩
   ·go_enter Tryz.func135,Tryz.ntmps135
    go_wp2_with(first
     |(go_at_call 163
       refine(zh1 _ _ _ _ hn1 hn2).mono ?_;rintro e w2 ⟨rfl,hb2⟩;have BL:=HB0.trans (hb2.mono HB0.size);obtain⟨k0,k1,k2,k3,k4⟩:=za7 (za0 hb2 HLT.X R0.X);clear hb2)
     |(go_at_call 32;refine(zc1 _ _ _ _).mono ?_;rintro e w' ⟨rfl,rfl⟩)
     |(go_at_call 164;refine(zh5 _ _ _).mono ?_;rintro e w' ⟨rfl,rfl⟩))
    go_ret;exact⟨zb4 (by simp[zy4,h0,h1,h2]),BL⟩
theorem zy7(n fine:Int)(a ao av:Option Addr)(lt cap ko co kv cv:Nat)(zs:List Int)(w:zg)(hn1:1<=n)(hn2:n<=16)(hA:za3 w ao zs)(hl:zs.length=ko*6)(hlen:ko<=9223372036854775807):
 Calls ze 97 #[.agg #[zc zb n,za a lt cap,za ao ko co,za av kv cv,zc zb fine]] w fun e w'=>e=.returned (.bool (zt4 n zs ko))/\Below w.heap.size w w':=by
 have HB0:Hid (Below w.heap.size w (w.alloc (zd #[zc zb n,za a lt cap,za ao ko co,za av kv cv,zc zb fine] 30))):=zK _;have HA:Hid _:=hA;have HL:Hid _:=hl;clear hA hl;by_cases hmany:ko<=12
 ·go_enter Tryz.func97,Tryz.ntmps97
  go_wp2_with fail
  go_loopw[3,13] (fun l t wr=>∃k:Nat,k<=ko/\t=zc zb k/\l=zc zb (zo0 zs k)/\zw5 n zs k/\Below w.heap.size w wr/\wr.heap[w.heap.size]? =some (zd #[zc zb n,za a lt cap,za ao ko co,za av kv cv,zc zb fine] 30 (0,0))) (fun _ t _=>ko - (intOf t).toNat)
  case atStart=>exact⟨0,yZ _,rfl,rfl,zH5 _ _,HB0.X,zN _ _⟩
  case round=>
   obtain⟨k,hk,rfl,rfl,ht,hb,g3⟩:=hrel;have hbd:=zH8 ht;have HT:Hid _:=ht;obtain⟨c0,c1,c2,c3,c4⟩:=za7 g3;obtain⟨l0,HL0⟩:=nmd (zo0 zs k);rw[HL0.X]at hbd⊢;have G3:Hid _:=g3;have HB:Hid _:=hb;clear ht;by_cases hlt:k<ko
   ·obtain⟨b,off,rfl,hcs⟩:=za3.some (za3.below HA.X hb) (j:=k*6) (by rw[HL.X];omega)
    obtain⟨r0,r1,r2,r3,r4,r5⟩:=zq2 hcs HL.X k hlt;clear hcs g3 hb;obtain⟨o0,H0⟩:=nmd (og6 zs k 0);obtain⟨o1,H1⟩:=nmd (og6 zs k 1);obtain⟨o2,H2⟩:=nmd (og6 zs k 2);obtain⟨o3,H3⟩:=nmd (og6 zs k 3);obtain⟨o4,H4⟩:=nmd (og6 zs k 4);obtain⟨o5,H5⟩:=nmd (og6 zs k 5);rw[H0.X]at r0;rw[H1.X]at r1;rw[H2.X]at r2;rw[H3.X]at r3;rw[H4.X]at r4;rw[H5.X]at r5;have hlb:=zT r0;simp at hlb;have HB1:Hid (Below w.heap.size w (wr.alloc (zd #[zc zb o0,zc zb o1,zc zb o2,zc zb o3,zc zb o4,zc zb o5] 103))):=HB.alloc HB.size _;have G31:Hid ((wr.alloc (zd #[zc zb o0,zc zb o1,zc zb o2,zc zb o3,zc zb o4,zc zb o5] 103)).heap[w.heap.size]? =_):=(yY _ _ (za2 G3.X)).trans G3.X;have G41:Hid ((wr.alloc (zd #[zc zb o0,zc zb o1,zc zb o2,zc zb o3,zc zb o4,zc zb o5] 103)).heap[wr.heap.size]? =_):=zN _ _;have hlw:=za2 G3.X;cases h1:inB o0 (l0+1) 1000000000
    ·have HN:Hid (zt4 n zs ko=false):=z66 hlt (zK4 (by rw[H0.X,HL0.X,h1];simp))
     go_wp2_with(first
      |(go_at_call 32;refine(zc1 _ _ _ _).mono ?_;rintro e w' ⟨rfl,rfl⟩))
     go_ret;exact⟨zb4 HN.symm,HB1.X⟩
    ·cases h2:zv8 n o1 o2 o3 o4 o5
     ·have HN:Hid _:=z66 hlt (zK4 (by rw[H1.X,H2.X,H3.X,H4.X,H5.X,h2];simp))
      go_wp2_with(first
       |(go_at_call 32;refine(zc1 _ _ _ _).mono ?_;rintro e w' ⟨rfl,rfl⟩)
       |(go_at_call 134;refine(zG0 n _ _ _ _ _ _ _ _ hn1 hn2).mono ?_;rintro e w2 ⟨rfl,hb2⟩))
      go_ret;exact⟨zb4 HN.symm,HB1.trans (hb2.mono HB1.size)⟩
     ·have HS:Hid (zw5 n zs (k+1)):=by
       have:=yD4 HT.X (by rw[H0.X,HL0.X];exact h1) (by rw[H1.X,H2.X,H3.X,H4.X,H5.X];exact h2);exact z18 HT.X this.1 this.2
      go_wp2_with(first
       |(go_at_call 32;refine(zc1 _ _ _ _).mono ?_;rintro e w' ⟨rfl,rfl⟩)
       |(go_at_call 134;refine(zG0 n _ _ _ _ _ _ _ _ hn1 hn2).mono ?_;rintro e w2 ⟨rfl,hb2⟩;obtain⟨q0,q1,q2,q3,q4,q5⟩:=zh8 (za0 hb2 (za2 G41.X) G41.X)))
      obtain⟨B2,R2⟩:=zu7 hb2 HB1.X G31.X;refine⟨⟨k+1,by omega,by go_num,by show _=zc zb (og6 zs k 0);rw[H0.X],HS.X,B2,R2⟩,by simp[intOf];omega⟩
   ·have hkx:k=ko:=by omega
    have HN:Hid _:=zU7 hmany (hkx▸HT.X);clear hkx g3 hb;go_wp2;go_ret;exact⟨zb4 HN.symm,HB.X⟩
 ·have HN:Hid (zt4 n zs ko=false):=yq9 hmany
  go_enter Tryz.func97,Tryz.ntmps97;go_wp2;go_ret;exact⟨zb4 HN.symm,HB0.X⟩
theorem z05(n fine:Int)(a ao av:Option Addr)(lt cap ko co kv cv:Nat)(zs:List Int)(w:zg)(hn1:1<=n)(hn2:n<=16)(hA:za3 w av zs)(hl:zs.length=kv*5)(hlen:kv<=9223372036854775807):
 Calls ze 98 #[.agg #[zc zb n,za a lt cap,za ao ko co,za av kv cv,zc zb fine]] w fun e w'=>e=.returned (.bool (zx7 n zs kv))/\Below w.heap.size w w':=by
 have HB0:Hid (Below w.heap.size w (w.alloc (zd #[zc zb n,za a lt cap,za ao ko co,za av kv cv,zc zb fine] 30))):=zK _;have HA:Hid _:=hA;have HL:Hid _:=hl;clear hA hl;by_cases hmany:kv<=5
 ·go_enter Tryz.func98,Tryz.ntmps98
  go_wp2_with fail
  go_loopw[3,13] (fun l t wr=>∃k:Nat,k<=kv/\t=zc zb k/\l=zc zb (zo4 zs k)/\zw6 n zs k/\Below w.heap.size w wr/\wr.heap[w.heap.size]? =some (zd #[zc zb n,za a lt cap,za ao ko co,za av kv cv,zc zb fine] 30 (0,0))) (fun _ t _=>kv - (intOf t).toNat)
  case atStart=>exact⟨0,yZ _,rfl,rfl,zE9 _ _,HB0.X,zN _ _⟩
  case round=>
   obtain⟨k,hk,rfl,rfl,ht,hb,g3⟩:=hrel;have hbd:=zF4 ht;have HT:Hid _:=ht;obtain⟨c0,c1,c2,c3,c4⟩:=za7 g3;obtain⟨l0,HL0⟩:=nmd (zo4 zs k);rw[HL0.X]at hbd⊢;have G3:Hid _:=g3;have HB:Hid _:=hb;clear ht;by_cases hlt:k<kv
   ·obtain⟨b,off,rfl,hcs⟩:=za3.some (za3.below HA.X hb) (j:=k*5) (by rw[HL.X];omega)
    obtain⟨r0,r1,r2,r3,r4⟩:=zy6 hcs HL.X k hlt;clear hcs g3 hb;obtain⟨o0,H0⟩:=nmd (og5 zs k 0);obtain⟨o1,H1⟩:=nmd (og5 zs k 1);obtain⟨o2,H2⟩:=nmd (og5 zs k 2);obtain⟨o3,H3⟩:=nmd (og5 zs k 3);obtain⟨o4,H4⟩:=nmd (og5 zs k 4);rw[H0.X]at r0;rw[H1.X]at r1;rw[H2.X]at r2;rw[H3.X]at r3;rw[H4.X]at r4;have hlb:=zT r0;simp at hlb;have HB1:Hid (Below w.heap.size w (wr.alloc (zd #[zc zb o0,zc zb o1,zc zb o2,zc zb o3,zc zb o4] 107))):=HB.alloc HB.size _;have G31:Hid ((wr.alloc (zd #[zc zb o0,zc zb o1,zc zb o2,zc zb o3,zc zb o4] 107)).heap[w.heap.size]? =_):=(yY _ _ (za2 G3.X)).trans G3.X;have G41:Hid ((wr.alloc (zd #[zc zb o0,zc zb o1,zc zb o2,zc zb o3,zc zb o4] 107)).heap[wr.heap.size]? =_):=zN _ _;have hlw:=za2 G3.X;cases h1:inB o0 (l0+1) 1000000000
    ·have HN:Hid (zx7 n zs kv=false):=z52 hlt (zM4 (by rw[H0.X,HL0.X,h1];simp))
     go_wp2_with(first
      |(go_at_call 32;refine(zc1 _ _ _ _).mono ?_;rintro e w' ⟨rfl,rfl⟩))
     go_ret;exact⟨zb4 HN.symm,HB1.X⟩
    ·cases h2:zy4 n o1 o2 o3 o4
     ·have HN:Hid _:=z52 hlt (zM4 (by rw[H1.X,H2.X,H3.X,H4.X,h2];simp))
      go_wp2_with(first
       |(go_at_call 32;refine(zc1 _ _ _ _).mono ?_;rintro e w' ⟨rfl,rfl⟩)
       |(go_at_call 135;refine(z38 n _ _ _ _ _ _ _ hn1 hn2).mono ?_;rintro e w2 ⟨rfl,hb2⟩))
      go_ret;exact⟨zb4 HN.symm,HB1.trans (hb2.mono HB1.size)⟩
     ·have HS:Hid (zw6 n zs (k+1)):=by
       have:=yB4 HT.X (by rw[H0.X,HL0.X];exact h1) (by rw[H1.X,H2.X,H3.X,H4.X];exact h2);exact z14 HT.X this.1 this.2
      go_wp2_with(first
       |(go_at_call 32;refine(zc1 _ _ _ _).mono ?_;rintro e w' ⟨rfl,rfl⟩)
       |(go_at_call 135;refine(z38 n _ _ _ _ _ _ _ hn1 hn2).mono ?_;rintro e w2 ⟨rfl,hb2⟩;obtain⟨q0,q1,q2,q3,q4⟩:=za7 (za0 hb2 (za2 G41.X) G41.X)))
      obtain⟨B2,R2⟩:=zu7 hb2 HB1.X G31.X;refine⟨⟨k+1,by omega,by go_num,by show _=zc zb (og5 zs k 0);rw[H0.X],HS.X,B2,R2⟩,by simp[intOf];omega⟩
   ·have hkx:k=kv:=by omega
    have HN:Hid _:=zY2 hmany (hkx▸HT.X);clear hkx g3 hb;go_wp2;go_ret;exact⟨zb4 HN.symm,HB.X⟩
 ·have HN:Hid (zx7 n zs kv=false):=yq3 hmany
  go_enter Tryz.func98,Tryz.ntmps98;go_wp2;go_ret;exact⟨zb4 HN.symm,HB0.X⟩
theorem Tryz.info41:(Tryz.prog.info? 183).map (fun i=>(i.zero,i.size))=some (some (.agg (cellsOf zs7)),256):=by kernel_rfl
def GW(w wr:zg)(n:Nat)(a:Option Addr)(cap:Nat)(z0:Array Value)(gl:List Int):Prop:=
 wr.heap.size=w.heap.size+3/\Below w.heap.size w wr/\wr.heap[w.heap.size]? =some (zd #[zc zb n,za a (n*n) cap] 26 (0,0))∧
 wr.heap[w.heap.size+1]? =some (.cells z0 183 (0,0))/\wr.heap[w.heap.size+1+1]? =some (.cells (cellsOf gl) 183 (0,0))
theorem GW.step{w wr:zg}{n:Nat}{a:Option Addr}{cap:Nat}{z0:Array Value}{zs:List Int}{x y:Nat}{t:Int}(h:GW w wr n a cap z0 (zi7 n zs x y))(hx:x<n)(hy:y<n)(hn:n<=16)(ht:zs.getD (x*n+y) 0=t):
 GW w (wr.setCell ⟨w.heap.size+1+1,x*16+y,none⟩ (zc zb t)) n a cap z0 (zi7 n zs x (y+1)):=by
 obtain⟨g1,g2,g3,g4,g5⟩:=h;refine⟨by simpa[zh]using g1,g2.setCell (by simp;omega) _,?_,?_,?_⟩
 ·rw[xg _ _ _ _ (by simp;omega)];exact g3
 ·rw[xg _ _ _ _ (by simp)];exact g4
 ·rw[zP _ _ _ _ _ _ g5,z15,<-ht,yd7 n zs x y hx hy hn]
theorem yJ1:(Tryz.prog.info? 183).map (·.size)=some 256:=(zero_of_info Tryz.info41).2
theorem zo7{l:List Int}(h:l.length=256):(Tryz.prog.info? 183).map (·.size)=some (cellsOf l).size:=by
 rw[zf2,h];exact yJ1
theorem z34(tmps:Array Value)(W:zg)(g:Nat)(l:List Int)(b:Bool)(hl:l.length=256)
 (hp:tmps.getD 2 undef=.pointer (some ⟨g,0,none⟩)) (hb:tmps.getD 3 undef=.bool b) (hg:W.heap[g]? =some (.cells (cellsOf l) 183 (0,0))):
 (results Tryz.f133 tmps).run ze W=.ok (.tuple #[.agg (cellsOf l),.bool b]) W:=by
 rw[results_cell_tmp Tryz.results133,hp,hb];simp only[asAddr,Sem.run_pure,Result.andThen_ok,run_loadVar_row W g 183 183 (cellsOf l) (0,0) _ hg Tryz.underlying183 rfl (zo7 hl)]
theorem yz9(n:Nat)(a:Option Addr)(cap:Nat)(zs:List Int)(w:zg)(h1:1<=n)(h2:n<=16)(hl:zs.length=n*n)(hA:za3 w a zs):
 Calls ze 133 #[.agg #[zc zb n,za a zs.length cap]] w fun e w'=>e=.returned (.tuple #[.agg (cellsOf (zw4 n zs)),.bool (zs6 n zs)])/\Below w.heap.size w w':=by
 have hz:=(zero_of_info Tryz.info41).1;generalize hz0:cellsOf zs7=z0 at hz;have HZ:Hid _:=hz0;clear hz0;have hnn:=zN0 n n h2 h2;have hd1:inB (n:Int) 1 16=true:=zf3 (by omega);have hnw:wrap64 ((n:Int)*(n:Int))=(n:Int)*(n:Int):=xr _ (by rw[<-xq];omega);have HA:=za4 hA;clear hA;rw[hl];have HL:Hid _:=hl;clear hl;go_enter Tryz.func133,Tryz.ntmps133
 go_wp2_with(go_at_call 32;refine(zc1 _ _ _ _).mono ?_;rintro e w' ⟨rfl,rfl⟩)
 go_loopw[26] (fun t wr=>∃x:Nat,x<=n/\t=zc zb x/\GW w wr n a cap z0 (zi7 n zs x 0)/\y28 n zs x 0) (fun t _=>n - (intOf t).toNat)
 case atStart=>
  refine⟨0,yZ _,rfl,⟨by simp,?_,?_,?_,?_⟩,yx6 _ _⟩
  ·exact((zK _).alloc (by simp) _).alloc (by simp;omega) _
  ·rw[yY _ _ (by simp;omega),yY _ _ (by simp)]
   exact zN _ _
  ·rw[yY _ _ (by simp)]
   exact y8 _ _ _
  ·rw[yd3,HZ.X]
   have:=zN ((w.alloc (zd #[zc zb n,za a (n*n) cap] 26)).alloc (zd z0 183)) (zd z0 183);simpa using this
 case round=>
  obtain⟨x,hx,rfl,hG,hok⟩:=hrel;obtain⟨g1,g2,g3,g4,g5⟩:=hG;have c0:=zR _ _ 0 _ _ _ g3;have c1:=zR _ _ 1 _ _ _ g3;simp at c0 c1;by_cases hlt:x<n
  ·have G4:Hid _:=g4
   have G5:Hid _:=g5;have HO:Hid _:=hok;clear g4 g5 hok
   go_wp2_with fail
   go_loopw[31] (fun t wr=>∃y:Nat,y<=n/\t=zc zb y/\GW w wr n a cap z0 (zi7 n zs x y)/\y28 n zs x y) (fun t _=>n - (intOf t).toNat)
   case atStart=>exact⟨0,yZ _,rfl,⟨g1,g2,g3,G4.X,G5.X⟩,HO.X⟩
   case round=>
    clear g1 g2 g3 c0 c1 G4 G5 HO;obtain⟨y,hy,rfl,hG,hok⟩:=hrel;have HG:=za4 hG;obtain⟨g1,g2,g3,g4,g5⟩:=hG;have c0:=zR _ _ 0 _ _ _ g3;have c1:=zR _ _ 1 _ _ _ g3;simp at c0 c1;by_cases hylt:y<n
    ·have hxy:x*n+y<n*n:=by
      have:=yH n (show x+1<=n by omega);rw[Nat.add_mul]at this;omega
     obtain⟨bb,off,rfl,hcs⟩:=za3.some (za3.below HA.X g2) (j:=x*n+y) (by rw[HL.X];exact hxy);have ct:=hcs (x*n+y) (by rw[HL.X];exact hxy);clear hcs;generalize htt:zs.getD (x*n+y) 0=t at ct;have HT:Hid _:=htt;clear htt;have cg:=zR _ _ (x*16+y) _ _ _ g5;rw[zd7 _ _ (by rw[zk2];omega)]at cg;have fg:=yU _ _ (x*16+y) _ _ g5;have HO:=za4 hok;clear hok;have hwm:wrap64 ((x:Int)*(n:Int))=(x:Int)*(n:Int):=xr _ (by rw[<-xq];omega);by_cases hgood:0<=t/\t<=10000/\(x=y->t=0)
     ·have hvd:inB t 0 10000=true:=zf3 (by omega)
      have HS:Hid (y28 n zs x (y+1)):=yu9 HO.X (by rw[HT.X];exact hgood.1) (by rw[HT.X];exact hgood.2.1) (by rw[HT.X];exact hgood.2.2);clear HO g3 g4 g5 g2 g1;by_cases hxe:x=y
      ·have hne:((x:Int)==(y:Int))=true:=by simp;omega
       have hne':((y:Int)==(y:Int))=true:=by simp
       have ht0:(t !=0)=false:=by simp[hgood.2.2 hxe]
       have HXE:Hid _:=hxe;clear hgood hxe
       go_wp2_with(first
        |(go_at_call 32;refine(zc1 _ _ _ _).mono ?_;rintro e w' ⟨rfl,rfl⟩))
       refine⟨⟨y+1,by omega,by go_num,HG.step hlt hylt h2 HT.X,HS.X⟩,by simp[intOf];omega⟩
      ·have hne:((x:Int)==(y:Int))=false:=by simp;omega
       clear hgood hxe
       go_wp2_with(first
        |(go_at_call 32;refine(zc1 _ _ _ _).mono ?_;rintro e w' ⟨rfl,rfl⟩))
       refine⟨⟨y+1,by omega,by go_num,HG.step hlt hylt h2 HT.X,HS.X⟩,by simp[intOf];omega⟩
     ·have HB:Hid _:=y29 n zs x y hlt hylt HL.X (by rw[HT.X];exact hgood)
      have hzz:∀(wr:zg),wr.heap[w.heap.size+1]? =some (.cells z0 183 (0,0))->True:=fun _ _=>trivial;clear HO g3 g5 g1 hzz;by_cases hv:0<=t/\t<=10000
      ·have hvd:inB t 0 10000=true:=zf3 (by omega)
       have hxe:x=y:=by omega
       have hne:((x:Int)==(y:Int))=true:=by simp;omega
       have ht0:(t !=0)=true:=by simp;omega
       clear hgood hxe hv
       go_wp2_with(first
        |(go_at_call 32;refine(zc1 _ _ _ _).mono ?_;rintro e w' ⟨rfl,rfl⟩)
        |(refine xz rfl 183 (.tmp 2) (.tmp 56) rfl (w.heap.size+1) z0 rfl rfl 183 z0 g4 (by rw[<-HZ.X];exact zo7 ze3) rfl (by rw[<-HZ.X];exact zn6 _) ?_))
       refine yX (v:=.tuple #[.agg (cellsOf zs7),.bool false]) (z34 _ _ (w.heap.size+1) zs7 false ze3 rfl rfl ?_) rfl ⟨?_,?_⟩
       ·rw[HZ.X];exact setRow_heap _ _ _ _ _ _ g4
       ·exact z19 (by rw[zp6 HB.X]) HB.symm
       ·exact zl8 g2 (by omega) _
      ·have hvd:=zx4 hv
       clear hgood hv
       go_wp2_with(first
        |(go_at_call 32;refine(zc1 _ _ _ _).mono ?_;rintro e w' ⟨rfl,rfl⟩)
        |(refine xz rfl 183 (.tmp 2) (.tmp 56) rfl (w.heap.size+1) z0 rfl rfl 183 z0 g4 (by rw[<-HZ.X];exact zo7 ze3) rfl (by rw[<-HZ.X];exact zn6 _) ?_))
       refine yX (v:=.tuple #[.agg (cellsOf zs7),.bool false]) (z34 _ _ (w.heap.size+1) zs7 false ze3 rfl rfl ?_) rfl ⟨?_,?_⟩
       ·rw[HZ.X];exact setRow_heap _ _ _ _ _ _ g4
       ·exact z19 (by rw[zp6 HB.X]) HB.symm
       ·exact zl8 g2 (by omega) _
    ·have hye:y=n:=by omega
     have HO:Hid (y28 n zs (x+1) 0):=y50 (hye▸hok);have HG':Hid (GW w wr n a cap z0 (zi7 n zs (x+1) 0)):=by
      have:=HG.X;rw[hye,yn4]at this;exact this
     clear hok hye HG g3 g4 g5
     go_wp2_with fail
     refine⟨⟨x+1,by omega,by go_num,HG'.X,HO.X⟩,by simp[intOf];omega⟩
  ·have hge:n<=x:=by omega
   have Hxn:Hid (x=n):=by show x=n;omega
   go_wp2_with(first
    |(refine wpList_load_row rfl 183 (.tmp 4) rfl (w.heap.size+1+1) rfl 183 (cellsOf (zi7 n zs x 0)) (0,0) _ g5 Tryz.underlying183 rfl (zo7 (zk2 _ _ _ _)) ?_)
    |(refine xz rfl 183 (.tmp 2) (.tmp 64) rfl (w.heap.size+1) (cellsOf (zi7 n zs x 0)) rfl rfl 183 z0 g4 (zo7 (zk2 _ _ _ _)) (by rw[<-HZ.X,zf2,zf2,ze3,zk2]) (zn6 _) ?_))
   refine yX (v:=.tuple #[.agg (cellsOf (zi7 n zs x 0)),.bool true]) (z34 _ _ (w.heap.size+1) (zi7 n zs x 0) true (zk2 _ _ _ _) rfl rfl ?_) rfl ⟨?_,?_⟩
   ·exact setRow_heap _ _ _ _ _ _ g4
   ·have e:=Hxn.X
    have hm:=zY6 n zs h1 h2 HL.X (e▸hok);exact z19 (by rw[zY5 hm,e]) hm.symm
   ·exact zl8 g2 (by omega) _
theorem y64(n:Int)(a:Option Addr)(len cap:Nat)(w:zg)(hn:¬(1<=n/\n<=16)):
 Calls ze 133 #[.agg #[zc zb n,za a len cap]] w fun e w'=>e=.returned (.tuple #[.agg (cellsOf zs7),.bool false])/\Below w.heap.size w w':=by
 have hz:=(zero_of_info Tryz.info41).1;generalize hz0:cellsOf zs7=z0 at hz;have HZ:Hid _:=hz0;clear hz0;have hd1:=zx4 hn;clear hn;go_enter Tryz.func133,Tryz.ntmps133
 go_wp2_with fail
 refine(zc1 _ _ _ _).mono ?_;rintro e w' ⟨rfl,rfl⟩;have HG4:Hid (((((w.alloc (zd #[zc zb n,za a len cap] 26)).alloc (zd z0 183)).alloc (zd z0 183)).heap)[w.heap.size+1]? =some (.cells z0 183 (0,0))):=by
  show _=_;rw[yY _ _ (by simp)];exact y8 _ _ _
 go_wp2_with(
  with_reducible refine xz ?_ 183 (.tmp 2) (.tmp 23) ?_ (w.heap.size+1) z0 ?_ ?_ 183 z0 ?_ ?_ ?_ ?_ ?_
  ·rfl
  ·rfl
  ·rfl
  ·rfl
  ·exact HG4.X
  ·rw[<-HZ.X];exact zo7 ze3
  ·rfl
  ·rw[<-HZ.X];exact zn6 _)
 refine yX (v:=.tuple #[.agg (cellsOf zs7),.bool false]) (z34 _ _ (w.heap.size+1) zs7 false ze3 rfl rfl ?_) rfl ⟨by rw[HZ.X],?_⟩
 ·rw[HZ.X];exact setRow_heap _ _ _ _ _ _ HG4.X
 ·exact zl8 (((zK _).alloc (by simp) _).alloc (by simp;omega) _) (by omega) _
theorem y58(n:Nat)(a:Option Addr)(len cap:Nat)(w:zg)(h1:1<=n)(h2:n<=16)(hl:len≠n*n):
 Calls ze 133 #[.agg #[zc zb n,za a len cap]] w fun e w'=>e=.returned (.tuple #[.agg (cellsOf zs7),.bool false])/\Below w.heap.size w w':=by
 have hz:=(zero_of_info Tryz.info41).1;generalize hz0:cellsOf zs7=z0 at hz;have HZ:Hid _:=hz0;clear hz0;have hnn:=zN0 n n h2 h2;have hd1:inB (n:Int) 1 16=true:=zf3 (by omega);have hnw:wrap64 ((n:Int)*(n:Int))=(n:Int)*(n:Int):=xr _ (by rw[<-xq];omega);have hne:((len:Int)!=(n:Int)*(n:Int))=true:=by rw[bne_iff_ne,<-xq];omega
 have G4:((((w.alloc (zd #[zc zb n,za a len cap] 26)).alloc (zd z0 183)).alloc (zd z0 183)).heap)[w.heap.size+1]? =some (.cells z0 183 (0,0)):=by
  rw[yY _ _ (by simp)];exact y8 _ _ _
 have HG4:Hid _:=G4;clear G4 hl;go_enter Tryz.func133,Tryz.ntmps133
 go_wp2_with(first
  |(go_at_call 32;refine(zc1 _ _ _ _).mono ?_;rintro e w' ⟨rfl,rfl⟩)
  |(refine xz rfl 183 (.tmp 2) (.tmp 23) rfl (w.heap.size+1) z0 rfl rfl 183 z0 HG4.X (by rw[<-HZ.X];exact zo7 ze3) rfl (by rw[<-HZ.X];exact zn6 _) ?_))
 refine yX (v:=.tuple #[.agg (cellsOf zs7),.bool false]) (z34 _ _ (w.heap.size+1) zs7 false ze3 rfl rfl ?_) rfl ⟨by rw[HZ.X],?_⟩
 ·rw[HZ.X];exact setRow_heap _ _ _ _ _ _ HG4.X
 ·exact zl8 (((zK _).alloc (by simp) _).alloc (by simp;omega) _) (by omega) _
theorem y80(n:Int)(a:Option Addr)(cap:Nat)(zs:List Int)(w:zg)(hA:za3 w a zs):
 Calls ze 133 #[.agg #[zc zb n,za a zs.length cap]] w fun e w'=>e=.returned (.tuple #[.agg (cellsOf (zw4 n zs)),.bool (zs6 n zs)])/\Below w.heap.size w w':=by
 by_cases hn:1<=n/\n<=16
 ·obtain⟨m,rfl⟩:=xm (show 0<=n by omega)
  by_cases hl:zs.length=m*m
  ·exact yz9 m a cap zs w (by omega) (by omega) hl hA
  ·have hm:zs6 (m:Int) zs=false:=z32 fun h=>hl (by have:=h.2.2.1;rw[<-xq]at this;omega)
   rw[zp6 hm,hm];exact y58 m a zs.length cap w (by omega) (by omega) hl
 ·have hm:zs6 n zs=false:=z32 fun h=>hn ⟨h.1,h.2.1⟩
  rw[zp6 hm,hm];exact y64 n _ _ _ w hn
theorem zw3(n:Int)(a:Option Addr)(cap:Nat)(zs:List Int)(w:zg)(hA:za3 w a zs):
 Calls ze 96 #[.agg #[zc zb n,za a zs.length cap]] w fun e w'=>e=.returned (.bool (zs6 n zs))/\Below w.heap.size w w':=by
 have HB0:Hid (Below w.heap.size w (w.alloc (zd #[zc zb n,za a zs.length cap] 26))):=
  zK _
 have HA:=za4 hA;clear hA;have hz:=(zero_of_info Tryz.info41).1;go_enter Tryz.func96,Tryz.ntmps96
 go_wp2_with fail
 refine(y80 n a cap zs _ (HA.below HB0.X)).mono ?_;rintro e w1 ⟨rfl,hb⟩;have HB1:Hid _:=hb;clear hb;generalize hz0:cellsOf zs7=z0 at hz;have HZ:Hid _:=hz0;clear hz0;generalize hgr:cellsOf (zw4 n zs)=gr;have HGR:Hid _:=hgr;clear hgr
 go_wp2_with(
  with_reducible refine xz ?_ 183 (.tmp 3) (.tmp 8) ?_ w1.heap.size gr ?_ ?_ 183 z0 ?_ ?_ ?_ ?_ ?_
  ·rfl
  ·rfl
  ·rfl
  ·rfl
  ·exact zN _ _
  ·rw[<-HGR.X];exact zo7 (z11 _ _)
  ·rw[<-HZ.X,<-HGR.X,zf2,zf2,ze3,z11]
  ·rw[<-HGR.X];exact zn6 _)
 go_ret;refine⟨rfl,zl8 ((HB0.trans (HB1.mono (by simp<;>omega))).alloc ?_ _) ?_ _⟩
 all_goals
  have:=HB1.size;simp at this;omega
theorem zY0(n fine:Int)(a ao av:Option Addr)(cap ko co kv cv:Nat)(zs os vs:List Int)(w:zg)(hA:za3 w a zs)(hO:za3 w ao os)(hV:za3 w av vs)(hlo:os.length=ko*6)(hlv:vs.length=kv*5)(hko:ko<=9223372036854775807)(hkv:kv<=9223372036854775807):
 Calls ze 46 #[.agg #[zc zb n,za a zs.length cap,za ao ko co,za av kv cv,zc zb fine]] w fun e w'=>e=.returned (.bool (zc8 n zs os vs ko kv fine))/\Below w.heap.size w w':=by
 have HB0:Hid (Below w.heap.size w (w.alloc (zd #[zc zb n,za a zs.length cap,za ao ko co,za av kv cv,zc zb fine] 30))):=zK _;have HA:=za4 hA;have HO:=za4 hO;have HV:=za4 hV;have HLO:Hid _:=hlo;have HLV:Hid _:=hlv;clear hA hO hV hlo hlv;cases h1:zs6 n zs
 ·have HM:Hid _:=h1
  have HC:Hid (zc8 n zs os vs ko kv fine=false):=by show _=_;simp[zc8,h1]
  clear h1;go_enter Tryz.func46,Tryz.ntmps46
  go_wp2_with fail
  refine(zw3 n a cap zs _ (HA.below HB0.X)).mono ?_;rintro e w1 ⟨rfl,hb⟩;rw[HM.X];obtain⟨b1,r1⟩:=y27 hb;clear hb;go_wp2;go_ret;exact⟨zb4 HC.symm,b1⟩
 ·obtain⟨hn1,hn2,_,_⟩:=zr2 h1
  have HM:Hid _:=h1;cases h2:zt4 n os ko
  ·have HC:Hid (zc8 n zs os vs ko kv fine=false):=by show _=_;simp[zc8,h1,h2]
   have HO2:Hid _:=h2;clear h1 h2;go_enter Tryz.func46,Tryz.ntmps46
   go_wp2_with fail
   refine(zw3 n a cap zs _ (HA.below HB0.X)).mono ?_;rintro e w1 ⟨rfl,hb⟩;rw[HM.X];obtain⟨b1,r1⟩:=y27 hb;obtain⟨c0,c1,c2,c3,c4⟩:=za7 r1;have B1:Hid _:=b1;clear hb b1 r1
   go_wp2_with fail
   refine(zy7 n fine a ao av _ _ _ _ _ _ os _ hn1 hn2 (HO.below B1.X) HLO.X hko).mono ?_;rintro e w2 ⟨rfl,hb⟩;rw[HO2.X];go_wp2;go_ret;exact⟨zb4 HC.symm,B1.trans (hb.mono B1.size)⟩
  ·have HO2:Hid _:=h2
   cases h3:zx7 n vs kv
   ·have HC:Hid (zc8 n zs os vs ko kv fine=false):=by show _=_;simp[zc8,h1,h2,h3]
    have HV2:Hid _:=h3;clear h1 h2 h3;go_enter Tryz.func46,Tryz.ntmps46
    go_wp2_with fail
    refine(zw3 n a cap zs _ (HA.below HB0.X)).mono ?_;rintro e w1 ⟨rfl,hb⟩;rw[HM.X];obtain⟨b1,r1⟩:=y27 hb;obtain⟨c0,c1,c2,c3,c4⟩:=za7 r1;have B1:Hid _:=b1;have R1:Hid _:=r1;clear hb b1 r1
    go_wp2_with fail
    refine(zy7 n fine a ao av _ _ _ _ _ _ os _ hn1 hn2 (HO.below B1.X) HLO.X hko).mono ?_;rintro e w2 ⟨rfl,hb⟩;rw[HO2.X];obtain⟨b2,r2⟩:=zu7 hb B1.X R1.X;clear c0 c1 c2 c3 c4;obtain⟨c0,c1,c2,c3,c4⟩:=za7 r2;have B2:Hid _:=b2;clear hb b2 r2
    go_wp2_with fail
    refine(z05 n fine a ao av _ _ _ _ _ _ vs _ hn1 hn2 (HV.below B2.X) HLV.X hkv).mono ?_;rintro e w3 ⟨rfl,hb⟩;rw[HV2.X];go_wp2;go_ret;exact⟨zb4 HC.symm,B2.trans (hb.mono B2.size)⟩
   ·have HC:Hid (zc8 n zs os vs ko kv fine=inB fine 0 1000000):=by show _=_;simp[zc8,h1,h2,h3]
    have HV2:Hid _:=h3;clear h1 h2 h3;go_enter Tryz.func46,Tryz.ntmps46
    go_wp2_with fail
    refine(zw3 n a cap zs _ (HA.below HB0.X)).mono ?_;rintro e w1 ⟨rfl,hb⟩;rw[HM.X];obtain⟨b1,r1⟩:=y27 hb;obtain⟨c0,c1,c2,c3,c4⟩:=za7 r1;have B1:Hid _:=b1;have R1:Hid _:=r1;clear hb b1 r1
    go_wp2_with fail
    refine(zy7 n fine a ao av _ _ _ _ _ _ os _ hn1 hn2 (HO.below B1.X) HLO.X hko).mono ?_;rintro e w2 ⟨rfl,hb⟩;rw[HO2.X];obtain⟨b2,r2⟩:=zu7 hb B1.X R1.X;clear c0 c1 c2 c3 c4;obtain⟨c0,c1,c2,c3,c4⟩:=za7 r2;have B2:Hid _:=b2;have R2:Hid _:=r2;clear hb b2 r2
    go_wp2_with fail
    refine(z05 n fine a ao av _ _ _ _ _ _ vs _ hn1 hn2 (HV.below B2.X) HLV.X hkv).mono ?_;rintro e w3 ⟨rfl,hb⟩;rw[HV2.X];obtain⟨b3,r3⟩:=zu7 hb B2.X R2.X;clear c0 c1 c2 c3 c4;obtain⟨c0,c1,c2,c3,c4⟩:=za7 r3;clear hb r3
    go_wp2_with(go_at_call 32;refine(zc1 _ _ _ _).mono ?_;rintro e w' ⟨rfl,rfl⟩)
    go_ret;exact⟨zb4 HC.symm,b3⟩
theorem zc0(n lo hi:Int)(w:zg):
 Calls ze 39 #[zc zb n,zc zb lo,zc zb hi] w fun e w'=>e=.returned (.bool (inB n lo hi))/\w'=w:=by
 by_cases h1:lo<=n
 ·by_cases h2:n<=hi
  ·have h3:=zf3 ⟨h1,h2⟩
   rw[h3];go_enter Tryz.func39,Tryz.ntmps39;go_wp2;go_ret;exact⟨by simp,rfl⟩
  ·have h3:inB n lo hi=false:=zx4 (by omega)
   rw[h3];go_enter Tryz.func39,Tryz.ntmps39;go_wp2;go_ret;exact⟨by simp,rfl⟩
 ·have h3:inB n lo hi=false:=zx4 (by omega)
  rw[h3];go_enter Tryz.func39,Tryz.ntmps39;go_wp2;go_ret;exact⟨by simp,rfl⟩
theorem zu9(n o0 o1 o2 o3 o4 o5:Int)(w:zg)(hn1:1<=n)(hn2:n<=16):
 Calls ze 126 #[.agg #[zc zb o0,zc zb o1,zc zb o2,zc zb o3,zc zb o4,zc zb o5],zc zb n] w fun e w'=>e=.returned (.bool (zI7 n o0 o1 o2 o3 o4 o5))/\Below w.heap.size w w':=by
 cases h0:inB o0 1 1000000000
 ·go_enter Tryz.func126,Tryz.ntmps126
  go_wp2_with(first|(go_at_call 39;refine(zc0 _ _ _ _).mono ?_;rintro e w' ⟨rfl,rfl⟩))
  go_ret;exact⟨zb4 (by simp[zI7,zv8,zi2,h0]),zK _⟩
 ·cases h1:inB o1 0 (n - 1)
  ·go_enter Tryz.func126,Tryz.ntmps126
   go_wp2_with(first|(go_at_call 39;refine(zc0 _ _ _ _).mono ?_;rintro e w' ⟨rfl,rfl⟩))
   go_ret;exact⟨zb4 (by simp[zI7,zv8,zi2,h0,h1]),zK _⟩
  ·cases h2:inB o2 0 1000
   ·go_enter Tryz.func126,Tryz.ntmps126
    go_wp2_with(first|(go_at_call 39;refine(zc0 _ _ _ _).mono ?_;rintro e w' ⟨rfl,rfl⟩))
    go_ret;exact⟨zb4 (by simp[zI7,zv8,zi2,h0,h1,h2]),zK _⟩
   ·cases h3:inB o3 0 1000000
    ·go_enter Tryz.func126,Tryz.ntmps126
     go_wp2_with(first|(go_at_call 39;refine(zc0 _ _ _ _).mono ?_;rintro e w' ⟨rfl,rfl⟩))
     go_ret;exact⟨zb4 (by simp[zI7,zv8,zi2,h0,h1,h2,h3]),zK _⟩
    ·cases h4:inB o4 o3 1000000
     ·go_enter Tryz.func126,Tryz.ntmps126
      go_wp2_with(first|(go_at_call 39;refine(zc0 _ _ _ _).mono ?_;rintro e w' ⟨rfl,rfl⟩))
      go_ret;exact⟨zb4 (by simp[zI7,zv8,zi2,h0,h1,h2,h3,h4]),zK _⟩
     ·cases h5:inB o5 0 10000
      ·go_enter Tryz.func126,Tryz.ntmps126
       go_wp2_with(first|(go_at_call 39;refine(zc0 _ _ _ _).mono ?_;rintro e w' ⟨rfl,rfl⟩))
       go_ret;exact⟨zb4 (by simp[zI7,zv8,zi2,h0,h1,h2,h3,h4,h5]),zK _⟩
      ·go_enter Tryz.func126,Tryz.ntmps126
       go_wp2_with(first|(go_at_call 39;refine(zc0 _ _ _ _).mono ?_;rintro e w' ⟨rfl,rfl⟩))
       go_ret;exact⟨zb4 (by simp[zI7,zv8,zi2,h0,h1,h2,h3,h4,h5]),zK _⟩
theorem zp7(n o0 o1 o2 o3 o4:Int)(w:zg)(hn1:1<=n)(hn2:n<=16):
 Calls ze 127 #[.agg #[zc zb o0,zc zb o1,zc zb o2,zc zb o3,zc zb o4],zc zb n] w fun e w'=>e=.returned (.bool (zM7 n o0 o1 o2 o3 o4))/\Below w.heap.size w w':=by
 cases h0:inB o0 1 1000000000
 ·go_enter Tryz.func127,Tryz.ntmps127
  go_wp2_with(first|(go_at_call 39;refine(zc0 _ _ _ _).mono ?_;rintro e w' ⟨rfl,rfl⟩))
  go_ret;exact⟨zb4 (by simp[zM7,zy4,zi2,h0]),zK _⟩
 ·cases h1:inB o1 0 (n - 1)
  ·go_enter Tryz.func127,Tryz.ntmps127
   go_wp2_with(first|(go_at_call 39;refine(zc0 _ _ _ _).mono ?_;rintro e w' ⟨rfl,rfl⟩))
   go_ret;exact⟨zb4 (by simp[zM7,zy4,zi2,h0,h1]),zK _⟩
  ·cases h2:inB o2 0 1000
   ·go_enter Tryz.func127,Tryz.ntmps127
    go_wp2_with(first|(go_at_call 39;refine(zc0 _ _ _ _).mono ?_;rintro e w' ⟨rfl,rfl⟩))
    go_ret;exact⟨zb4 (by simp[zM7,zy4,zi2,h0,h1,h2]),zK _⟩
   ·cases h3:inB o3 0 1000000
    ·go_enter Tryz.func127,Tryz.ntmps127
     go_wp2_with(first|(go_at_call 39;refine(zc0 _ _ _ _).mono ?_;rintro e w' ⟨rfl,rfl⟩))
     go_ret;exact⟨zb4 (by simp[zM7,zy4,zi2,h0,h1,h2,h3]),zK _⟩
    ·cases h4:inB o4 o3 1000000
     ·go_enter Tryz.func127,Tryz.ntmps127
      go_wp2_with(first|(go_at_call 39;refine(zc0 _ _ _ _).mono ?_;rintro e w' ⟨rfl,rfl⟩))
      go_ret;exact⟨zb4 (by simp[zM7,zy4,zi2,h0,h1,h2,h3,h4]),zK _⟩
     ·go_enter Tryz.func127,Tryz.ntmps127
      go_wp2_with(first|(go_at_call 39;refine(zc0 _ _ _ _).mono ?_;rintro e w' ⟨rfl,rfl⟩))
      go_ret;exact⟨zb4 (by simp[zM7,zy4,zi2,h0,h1,h2,h3,h4]),zK _⟩
theorem zU2(n:Nat)(a:Option Addr)(cap:Nat)(zs:List Int)(w:zg)(h1:1<=n)(h2:n<=16)(hl:zs.length=n*n)(hA:za3 w a zs):
 Calls ze 125 #[.agg #[zc zb n,za a zs.length cap]] w fun e w'=>e=.returned (.bool (zs6 n zs))/\Below w.heap.size w w':=by
 have hnn:=zN0 n n h2 h2;have hd1:inB (n:Int) 1 16=true:=zf3 (by omega);have hnw:wrap64 ((n:Int)*(n:Int))=(n:Int)*(n:Int):=xr _ (by rw[<-xq];omega);have hn0:¬n=0:=by omega
 have HA:Hid _:=hA;clear hA;rw[hl];have HL:Hid _:=hl;clear hl;go_enter Tryz.func125,Tryz.ntmps125
 go_wp2_with(go_at_call 39;refine(zc0 _ _ _ _).mono ?_;rintro e w' ⟨rfl,rfl⟩)
 go_loopw[3] (fun t wr=>∃k:Nat,k<=n*n/\t=zc zb k/\Below w.heap.size w wr/\wr.heap[w.heap.size]? =some (zd #[zc zb n,za a (n*n) cap] 26 (0,0))/\(∀i,i<k->0<=zs.getD i 0/\zs.getD i 0<=10000/\(i / n=i % n->zs.getD i 0=0))) (fun t _=>n*n - (intOf t).toNat)
 case atStart=>exact⟨0,yZ _,rfl,zK _,zN _ _,fun i hi=>by omega⟩
 case round=>
  obtain⟨k,hk,rfl,hb,g3,hok⟩:=hrel;have c0:=zR _ _ 0 _ _ _ g3;have c1:=zR _ _ 1 _ _ _ g3;simp at c0 c1;have HO:Hid _:=hok;have G3:Hid _:=g3;have HB:Hid _:=hb;clear hok;by_cases hlt:k<n*n
  ·obtain⟨bb,off,rfl,hcs⟩:=za3.some (za3.below HA.X hb) (j:=k) (by rw[HL.X];exact hlt)
   have ct:=hcs k (by rw[HL.X];exact hlt);clear hcs;generalize htt:zs.getD k 0=t at ct;have HT:Hid _:=htt;clear htt g3 hb;have hw1:IntKind.i64.wrap ((k:Int) / (n:Int))=(k:Int) / (n:Int):=by
    rw[xk,<-Int.natCast_ediv];have hq:=Nat.div_le_self k n;generalize k / n=q at hq;omega
   have hw2:(k:Int).tmod (n:Int)=(k:Int) % (n:Int):=Int.tmod_eq_emod_of_nonneg (by omega);have hlt':(k:Int)<(n:Int)*(n:Int):=by rw[<-xq];omega
   by_cases hv:0<=t/\t<=10000
   ·have hvd:=zf3 hv
    by_cases hq:k / n=k % n
    ·have hqb:((k:Int) / (n:Int)==(k:Int) % (n:Int))=true:=by simp;omega
     by_cases ht0:t=0
     ·have htb:(t !=0)=false:=by simp[ht0]
      have HS:Hid (∀i,i<k+1->0<=zs.getD i 0/\zs.getD i 0<=10000/\(i / n=i % n->zs.getD i 0=0)):=by
       intro i hi;by_cases e:i=k
       ·rw[e,HT.X];exact⟨hv.1,hv.2,fun _=>ht0⟩
       ·exact HO.X i (by omega)
      clear HO hq ht0;go_wp2
      go_quiet ((go_at_call 39;exact Calls.quiet_of_same (zc0 _ _ _ _)))
      go_wp2;refine⟨⟨k+1,by omega,by go_num,xp HB.X _,G3.X,HS.X⟩,by simp[intOf];omega⟩
     ·have htb:(t !=0)=true:=by simp[ht0]
      have HN:Hid _:=ys0 n zs HL.X k hlt (by rw[HT.X];exact fun h=>ht0 (h.2.2 hq));clear HO hq ht0;go_wp2
      go_quiet ((go_at_call 39;exact Calls.quiet_of_same (zc0 _ _ _ _)))
      go_wp2;go_ret;exact⟨zb4 HN.symm,xp HB.X _⟩
    ·have hqb:((k:Int) / (n:Int)==(k:Int) % (n:Int))=false:=by simp;omega
     have HS:Hid (∀i,i<k+1->0<=zs.getD i 0/\zs.getD i 0<=10000/\(i / n=i % n->zs.getD i 0=0)):=by
      intro i hi;by_cases e:i=k
      ·rw[e,HT.X];exact⟨hv.1,hv.2,fun h=>absurd h hq⟩
      ·exact HO.X i (by omega)
     clear HO hq;go_wp2
     go_quiet ((go_at_call 39;exact Calls.quiet_of_same (zc0 _ _ _ _)))
     go_wp2;refine⟨⟨k+1,by omega,by go_num,xp HB.X _,G3.X,HS.X⟩,by simp[intOf];omega⟩
   ·have hvd:=zx4 hv
    have HN:Hid _:=ys0 n zs HL.X k hlt (by rw[HT.X];exact fun h=>hv ⟨h.1,h.2.1⟩);clear HO hv;go_wp2
    go_quiet ((go_at_call 39;exact Calls.quiet_of_same (zc0 _ _ _ _)))
    go_wp2;go_ret;exact⟨zb4 HN.symm,xp HB.X _⟩
  ·have hge':(n:Int)*(n:Int)<=(k:Int):=by rw[<-xq];omega
   have HN:Hid _:=y82 n zs h1 h2 HL.X (fun i hi=>HO.X i (by omega));clear HO g3;go_wp2;go_ret;exact⟨zb4 HN.symm,HB.X⟩
theorem yr0(n:Int)(a:Option Addr)(len cap:Nat)(w:zg)(h:¬(1<=n/\n<=16/\(len:Int)=n*n)):
 Calls ze 125 #[.agg #[zc zb n,za a len cap]] w fun e w'=>e=.returned (.bool false)/\Below w.heap.size w w':=by
 by_cases hn:1<=n/\n<=16
 ·obtain⟨m,rfl⟩:=xm (show 0<=n by omega)
  have hnn:m*m<=256:=zN0 m m (by omega) (by omega);have hd1:=zf3 hn;have hnw:wrap64 ((m:Int)*(m:Int))=(m:Int)*(m:Int):=xr _ (by rw[<-xq];omega);have hne:((len:Int)!=(m:Int)*(m:Int))=true:=by
   rw[bne_iff_ne];exact fun e=>h ⟨hn.1,hn.2,e⟩
  clear h;go_enter Tryz.func125,Tryz.ntmps125
  go_wp2_with(go_at_call 39;refine(zc0 _ _ _ _).mono ?_;rintro e w' ⟨rfl,rfl⟩)
  go_ret;exact⟨rfl,zK _⟩
 ·have hd1:=zx4 hn
  clear h hn;go_enter Tryz.func125,Tryz.ntmps125
  go_wp2_with(go_at_call 39;refine(zc0 _ _ _ _).mono ?_;rintro e w' ⟨rfl,rfl⟩)
  go_ret;exact⟨rfl,zK _⟩
theorem zq7(n:Int)(a:Option Addr)(cap:Nat)(zs:List Int)(w:zg)(hA:za3 w a zs):
 Calls ze 125 #[.agg #[zc zb n,za a zs.length cap]] w fun e w'=>e=.returned (.bool (zs6 n zs))/\Below w.heap.size w w':=by
 by_cases h:1<=n/\n<=16/\(zs.length:Int)=n*n
 ·obtain⟨m,rfl⟩:=xm (show 0<=n by omega)
  exact zU2 m a cap zs w (by omega) (by omega) (by have:=h.2.2;rw[<-xq]at this;omega) hA
 ·have hm:=z32 fun k=>h ⟨k.1,k.2.1,k.2.2.1⟩
  rw[hm];exact yr0 n a _ cap w h
theorem yg0(n fine:Int)(a ao av:Option Addr)(cap ko co kv cv:Nat)(zs os vs:List Int)(w:zg)(hA:za3 w a zs)(hko:ko<=9223372036854775807)(hkv:kv<=9223372036854775807)(h:¬(zs6 n zs=true/\ko<=12/\kv<=5/\inB fine 0 1000000=true)):
 Calls ze 85 #[.agg #[zc zb n,za a zs.length cap,za ao ko co,za av kv cv,zc zb fine]] w fun e w'=>e=.returned (.bool (zc8 n zs os vs ko kv fine))/\Below w.heap.size w w':=by
 have HB0:Hid (Below w.heap.size w (w.alloc (zd #[zc zb n,za a zs.length cap,za ao ko co,za av kv cv,zc zb fine] 30))):=zK _;have HA:=za4 hA;clear hA
 have HC:Hid (zc8 n zs os vs ko kv fine=false):=by
  show _=_;unfold zc8;cases h1:zs6 n zs
  ·rfl
  ·cases h2:zt4 n os ko
   ·rfl
   ·cases h3:zx7 n vs kv
    ·rfl
    ·cases h4:inB fine 0 1000000
     ·rfl
     ·exact absurd ⟨h1,(zd9 h2).1,(zf6 h3).1,h4⟩ h
 cases h1:zs6 n zs
 ·have HM:Hid _:=h1
  clear h1 h;go_enter Tryz.func85,Tryz.ntmps85
  go_wp2_with fail
  refine(zq7 n a cap zs _ (HA.below HB0.X)).mono ?_;rintro e w1 ⟨rfl,hb⟩;rw[HM.X];obtain⟨b1,r1⟩:=y27 hb;obtain⟨c0,c1,c2,c3,c4⟩:=za7 r1;have B1:Hid _:=b1;have R1:Hid _:=r1;clear hb b1 r1
  go_wp2_with(first|(go_at_call 39;refine(zc0 _ _ _ _).mono ?_;rintro e w' ⟨rfl,rfl⟩))
  go_ret;exact⟨zb4 HC.symm,B1.X⟩
 ·have HM:Hid _:=h1
  by_cases h2:ko<=12
  ·by_cases h3:kv<=5
   ·have h4:inB fine 0 1000000=false:=by
     cases h4:inB fine 0 1000000
     ·rfl
     ·exact absurd ⟨h1,h2,h3,h4⟩ h
    clear h1 h;go_enter Tryz.func85,Tryz.ntmps85
    go_wp2_with fail
    refine(zq7 n a cap zs _ (HA.below HB0.X)).mono ?_;rintro e w1 ⟨rfl,hb⟩;rw[HM.X];obtain⟨b1,r1⟩:=y27 hb;obtain⟨c0,c1,c2,c3,c4⟩:=za7 r1;have B1:Hid _:=b1;have R1:Hid _:=r1;clear hb b1 r1
    go_wp2_with(first|(go_at_call 39;refine(zc0 _ _ _ _).mono ?_;rintro e w' ⟨rfl,rfl⟩))
    go_ret;exact⟨zb4 HC.symm,B1.X⟩
   ·clear h1 h
    go_enter Tryz.func85,Tryz.ntmps85
    go_wp2_with fail
    refine(zq7 n a cap zs _ (HA.below HB0.X)).mono ?_;rintro e w1 ⟨rfl,hb⟩;rw[HM.X];obtain⟨b1,r1⟩:=y27 hb;obtain⟨c0,c1,c2,c3,c4⟩:=za7 r1;have B1:Hid _:=b1;have R1:Hid _:=r1;clear hb b1 r1
    go_wp2_with(first|(go_at_call 39;refine(zc0 _ _ _ _).mono ?_;rintro e w' ⟨rfl,rfl⟩))
    go_ret;exact⟨zb4 HC.symm,B1.X⟩
  ·clear h1 h
   go_enter Tryz.func85,Tryz.ntmps85
   go_wp2_with fail
   refine(zq7 n a cap zs _ (HA.below HB0.X)).mono ?_;rintro e w1 ⟨rfl,hb⟩;rw[HM.X];obtain⟨b1,r1⟩:=y27 hb;obtain⟨c0,c1,c2,c3,c4⟩:=za7 r1;have B1:Hid _:=b1;have R1:Hid _:=r1;clear hb b1 r1
   go_wp2_with(first|(go_at_call 39;refine(zc0 _ _ _ _).mono ?_;rintro e w' ⟨rfl,rfl⟩))
   go_ret;exact⟨zb4 HC.symm,B1.X⟩
theorem zy1(n:Int)(zs os vs:List Int)(ko kv:Nat)(fine:Int):zc8 n zs os vs ko kv fine=(zs6 n zs&&zt4 n os ko&&zx7 n vs kv&&inB fine 0 1000000):=rfl
theorem zN5(n fine:Int)(a ao av:Option Addr)(cap ko co kv cv:Nat)(zs os vs:List Int)(w:zg)(hA:za3 w a zs)(hO:za3 w ao os)(hV:za3 w av vs)(hlo:os.length=ko*6)(hlv:vs.length=kv*5)(hm:zs6 n zs=true)(hko:ko<=12)(hkv:kv<=5)(hf:inB fine 0 1000000=true):
 Calls ze 85 #[.agg #[zc zb n,za a zs.length cap,za ao ko co,za av kv cv,zc zb fine]] w fun e w'=>e=.returned (.bool (zc8 n zs os vs ko kv fine))/\Below w.heap.size w w':=by
 have HB0:Hid (Below w.heap.size w (w.alloc (zd #[zc zb n,za a zs.length cap,za ao ko co,za av kv cv,zc zb fine] 30))):=zK _;have HA:=za4 hA;have HX6:=za4 hO;have HX5:=za4 hV;have HLX6:Hid _:=hlo;have HLX5:Hid _:=hlv;have HM:Hid _:=hm;obtain⟨hn1,hn2,_,_⟩:=zr2 hm;have hdk:decide ((12:Int)<(ko:Int))=false:=by simp;omega
 have hdv:decide ((5:Int)<(kv:Int))=false:=by simp;omega
 clear hA hO hV hlo hlv hm;go_enter Tryz.func85,Tryz.ntmps85
 go_wp2_with fail
 refine(zq7 n a cap zs _ (HA.below HB0.X)).mono ?_;rintro e w1 ⟨rfl,hb⟩;rw[HM.X];obtain⟨b1,r1⟩:=y27 hb;obtain⟨c0,c1,c2,c3,c4⟩:=za7 r1;have B1:Hid _:=b1;have R1:Hid _:=r1;clear hb b1 r1
 go_wp2_with(first|(go_at_call 39;refine(zc0 _ _ _ _).mono ?_;rintro e w' ⟨rfl,rfl⟩))
 clear c0 c1 c2 c3 c4;go_loopw[3] (fun t wr=>∃k:Nat,k<=ko/\t=zc zb k/\zw5 n os k/\Below w.heap.size w wr/\wr.heap[w.heap.size]? =some (zd #[zc zb n,za a zs.length cap,za ao ko co,za av kv cv,zc zb fine] 30 (0,0))) (fun t _=>ko - (intOf t).toNat)
 case atStart=>exact⟨0,yZ _,rfl,zH5 _ _,B1.X,R1.X⟩
 case round=>
  clear B1 R1;obtain⟨k,hk,rfl,ht,hb,g3⟩:=hrel;have HT:Hid _:=ht;have G3:Hid _:=g3;have HB:Hid _:=hb;obtain⟨c0,c1,c2,c3,c4⟩:=za7 g3;clear ht;by_cases hlt:k<ko
  ·obtain⟨b,off,rfl,hcs⟩:=za3.some (za3.below HX6.X hb) (j:=k*6) (by rw[HLX6.X];omega)
   obtain⟨r0,r1,r2,r3,r4,r5⟩:=zq2 hcs HLX6.X k hlt;have HCS:Hid _:=hcs;clear hcs g3 hb;obtain⟨o0,H0⟩:=nmd (og6 os k 0);obtain⟨o1,H1⟩:=nmd (og6 os k 1);obtain⟨o2,H2⟩:=nmd (og6 os k 2);obtain⟨o3,H3⟩:=nmd (og6 os k 3);obtain⟨o4,H4⟩:=nmd (og6 os k 4);obtain⟨o5,H5⟩:=nmd (og6 os k 5);rw[H0.X]at r0;rw[H1.X]at r1;rw[H2.X]at r2;rw[H3.X]at r3;rw[H4.X]at r4;rw[H5.X]at r5;have s0:=fun s:Kin wr=>s.cell c0;have s1:=fun s:Kin wr=>s.cell c2;have t0:=fun s:Kin wr=>s.cell r0;have t1:=fun s:Kin wr=>s.cell r1;have t2:=fun s:Kin wr=>s.cell r2;have t3:=fun s:Kin wr=>s.cell r3;have t4:=fun s:Kin wr=>s.cell r4;have t5:=fun s:Kin wr=>s.cell r5;cases h1:zI7 n o0 o1 o2 o3 o4 o5
   ·have HN:Hid _:=z66 hlt (by rw[H0.X,H1.X,H2.X,H3.X,H4.X,H5.X,h1];simp)
    go_wp2_with fail
    have hkin:=Kin.there wr;refine zb0 (by kernel_rfl) (by kernel_rfl) ?_
    repeat(go_big_quiet_step ((go_at_call 126;exact Kin.call (zu9 n _ _ _ _ _ _ _ hn1 hn2))))
    refine xj ?_;rintro _ ⟨s,rfl⟩;have HS2:=HB.trans (s.below.mono HB.size);have R2:=za0 s.below (za2 G3.X) G3.X;generalize s.w=w2 at*;go_wp2;go_ret;exact⟨zb4 (by simp[zy1,HN.X]),HS2⟩
   ·by_cases hk0:k=0
    ·have HS:Hid (zw5 n os (k+1)):=z18 HT.X (by rw[H0.X,H1.X,H2.X,H3.X,H4.X,H5.X];exact h1) (fun h=>by omega)
     have hkz:(decide (0<k))=false:=by simp;omega
     have hk1:k<=0:=by omega
     clear hk0
     go_wp2_with fail
     have hkin:=Kin.there wr;refine zb0 (by kernel_rfl) (by kernel_rfl) ?_
     repeat(go_big_quiet_step ((go_at_call 126;exact Kin.call (zu9 n _ _ _ _ _ _ _ hn1 hn2))))
     refine xj ?_;rintro _ ⟨s,rfl⟩;have HS2:=HB.trans (s.below.mono HB.size);have R2:=za0 s.below (za2 G3.X) G3.X;generalize s.w=w2 at*;go_wp2;refine⟨⟨k+1,by omega,by go_num,HS.X,HS2,R2⟩,by simp[intOf];omega⟩
    ·have hk1:0<k:=by omega
     obtain⟨rp,_⟩:=zq2 HCS.X HLX6.X (k - 1) (by omega);obtain⟨p,HP⟩:=nmd (og6 os (k - 1) 0);rw[HP.X]at rp;have tp:=fun s:Kin wr=>s.cell rp;have hkm:k - 1<ko:=by omega
     have hw1:IntKind.i64.wrap ((k:Int) - 1)=((k - 1:Nat):Int):=by
      rw[xk];omega
     clear hk0;by_cases hp:p<o0
     ·have HS:Hid (zw5 n os (k+1)):=z18 HT.X (by rw[H0.X,H1.X,H2.X,H3.X,H4.X,H5.X];exact h1) (fun _=>by rw[HP.X,H0.X];exact hp)
      go_wp2_with fail
      have hkin:=Kin.there wr;refine zb0 (by kernel_rfl) (by kernel_rfl) ?_
      repeat(go_big_quiet_step ((go_at_call 126;exact Kin.call (zu9 n _ _ _ _ _ _ _ hn1 hn2))))
      refine xj ?_;rintro _ ⟨s,rfl⟩;have HS2:=HB.trans (s.below.mono HB.size);have R2:=za0 s.below (za2 G3.X) G3.X;generalize s.w=w2 at*;go_wp2;refine⟨⟨k+1,by omega,by go_num,HS.X,HS2,R2⟩,by simp[intOf];omega⟩
     ·have HN:Hid (zt4 n os ko=false):=z66 hlt (fun h=>hp (by have:=h.2 hk1;rw[HP.X,H0.X]at this;exact this))
      go_wp2_with fail
      have hkin:=Kin.there wr;refine zb0 (by kernel_rfl) (by kernel_rfl) ?_
      repeat(go_big_quiet_step ((go_at_call 126;exact Kin.call (zu9 n _ _ _ _ _ _ _ hn1 hn2))))
      refine xj ?_;rintro _ ⟨s,rfl⟩;have HS2:=HB.trans (s.below.mono HB.size);have R2:=za0 s.below (za2 G3.X) G3.X;generalize s.w=w2 at*;go_wp2;go_ret;exact⟨zb4 (by simp[zy1,HN.X]),HS2⟩
  ·have hkx:k=ko:=by omega
   have HN:Hid _:=zU7 (by omega) (hkx▸HT.X);clear hkx g3 hb
   go_wp2_with fail
   clear c0 c1 c2 c3 c4;have HO2:Hid _:=HN.X;go_loopw[4] (fun t wr=>∃k:Nat,k<=kv/\t=zc zb k/\zw6 n vs k/\Below w.heap.size w wr/\wr.heap[w.heap.size]? =some (zd #[zc zb n,za a zs.length cap,za ao ko co,za av kv cv,zc zb fine] 30 (0,0))) (fun t _=>kv - (intOf t).toNat)
   case atStart=>exact⟨0,yZ _,rfl,zE9 _ _,HB.X,G3.X⟩
   case round=>
    clear HT G3 HB HN;obtain⟨k,hk,rfl,ht,hb,g3⟩:=hrel;have HT:Hid _:=ht;have G3:Hid _:=g3;have HB:Hid _:=hb;obtain⟨c0,c1,c2,c3,c4⟩:=za7 g3;clear ht;by_cases hlt:k<kv
    ·obtain⟨b,off,rfl,hcs⟩:=za3.some (za3.below HX5.X hb) (j:=k*5) (by rw[HLX5.X];omega)
     obtain⟨r0,r1,r2,r3,r4⟩:=zy6 hcs HLX5.X k hlt;have HCS:Hid _:=hcs;clear hcs g3 hb;obtain⟨o0,H0⟩:=nmd (og5 vs k 0);obtain⟨o1,H1⟩:=nmd (og5 vs k 1);obtain⟨o2,H2⟩:=nmd (og5 vs k 2);obtain⟨o3,H3⟩:=nmd (og5 vs k 3);obtain⟨o4,H4⟩:=nmd (og5 vs k 4);rw[H0.X]at r0;rw[H1.X]at r1;rw[H2.X]at r2;rw[H3.X]at r3;rw[H4.X]at r4;have s0:=fun s:Kin wr=>s.cell c0;have s1:=fun s:Kin wr=>s.cell c3;have t0:=fun s:Kin wr=>s.cell r0;have t1:=fun s:Kin wr=>s.cell r1;have t2:=fun s:Kin wr=>s.cell r2;have t3:=fun s:Kin wr=>s.cell r3;have t4:=fun s:Kin wr=>s.cell r4;cases h1:zM7 n o0 o1 o2 o3 o4
     ·have HN:Hid _:=z52 hlt (by rw[H0.X,H1.X,H2.X,H3.X,H4.X,h1];simp)
      go_wp2_with fail
      have hkin:=Kin.there wr;refine zb0 (by kernel_rfl) (by kernel_rfl) ?_
      repeat(go_big_quiet_step ((go_at_call 127;exact Kin.call (zp7 n _ _ _ _ _ _ hn1 hn2))))
      refine xj ?_;rintro _ ⟨s,rfl⟩;have HS2:=HB.trans (s.below.mono HB.size);have R2:=za0 s.below (za2 G3.X) G3.X;generalize s.w=w2 at*;go_wp2;go_ret;exact⟨zb4 (by simp[zy1,HN.X]),HS2⟩
     ·by_cases hk0:k=0
      ·have HS:Hid (zw6 n vs (k+1)):=z14 HT.X (by rw[H0.X,H1.X,H2.X,H3.X,H4.X];exact h1) (fun h=>by omega)
       have hkz:(decide (0<k))=false:=by simp;omega
       have hk1:k<=0:=by omega
       clear hk0
       go_wp2_with fail
       have hkin:=Kin.there wr;refine zb0 (by kernel_rfl) (by kernel_rfl) ?_
       repeat(go_big_quiet_step ((go_at_call 127;exact Kin.call (zp7 n _ _ _ _ _ _ hn1 hn2))))
       refine xj ?_;rintro _ ⟨s,rfl⟩;have HS2:=HB.trans (s.below.mono HB.size);have R2:=za0 s.below (za2 G3.X) G3.X;generalize s.w=w2 at*;go_wp2;refine⟨⟨k+1,by omega,by go_num,HS.X,HS2,R2⟩,by simp[intOf];omega⟩
      ·have hk1:0<k:=by omega
       obtain⟨rp,_⟩:=zy6 HCS.X HLX5.X (k - 1) (by omega);obtain⟨p,HP⟩:=nmd (og5 vs (k - 1) 0);rw[HP.X]at rp;have tp:=fun s:Kin wr=>s.cell rp;have hkm:k - 1<kv:=by omega
       have hw1:IntKind.i64.wrap ((k:Int) - 1)=((k - 1:Nat):Int):=by
        rw[xk];omega
       clear hk0;by_cases hp:p<o0
       ·have HS:Hid (zw6 n vs (k+1)):=z14 HT.X (by rw[H0.X,H1.X,H2.X,H3.X,H4.X];exact h1) (fun _=>by rw[HP.X,H0.X];exact hp)
        go_wp2_with fail
        have hkin:=Kin.there wr;refine zb0 (by kernel_rfl) (by kernel_rfl) ?_
        repeat(go_big_quiet_step ((go_at_call 127;exact Kin.call (zp7 n _ _ _ _ _ _ hn1 hn2))))
        refine xj ?_;rintro _ ⟨s,rfl⟩;have HS2:=HB.trans (s.below.mono HB.size);have R2:=za0 s.below (za2 G3.X) G3.X;generalize s.w=w2 at*;go_wp2;refine⟨⟨k+1,by omega,by go_num,HS.X,HS2,R2⟩,by simp[intOf];omega⟩
       ·have HN:Hid (zx7 n vs kv=false):=z52 hlt (fun h=>hp (by have:=h.2 hk1;rw[HP.X,H0.X]at this;exact this))
        go_wp2_with fail
        have hkin:=Kin.there wr;refine zb0 (by kernel_rfl) (by kernel_rfl) ?_
        repeat(go_big_quiet_step ((go_at_call 127;exact Kin.call (zp7 n _ _ _ _ _ _ hn1 hn2))))
        refine xj ?_;rintro _ ⟨s,rfl⟩;have HS2:=HB.trans (s.below.mono HB.size);have R2:=za0 s.below (za2 G3.X) G3.X;generalize s.w=w2 at*;go_wp2;go_ret;exact⟨zb4 (by simp[zy1,HN.X]),HS2⟩
    ·have hkx:k=kv:=by omega
     have HN:Hid _:=zY2 (by omega) (hkx▸HT.X);clear hkx g3 hb;go_wp2;go_ret;exact⟨zb4 (by rw[zy1,HM.X,HO2.X,HN.X,hf];rfl),HB.X⟩
theorem z99(n fine:Int)(a ao av:Option Addr)(cap ko co kv cv:Nat)(zs os vs:List Int)(w:zg)(hA:za3 w a zs)(hO:za3 w ao os)(hV:za3 w av vs)(hlo:os.length=ko*6)(hlv:vs.length=kv*5)(hko:ko<=9223372036854775807)(hkv:kv<=9223372036854775807):
 Calls ze 85 #[.agg #[zc zb n,za a zs.length cap,za ao ko co,za av kv cv,zc zb fine]] w fun e w'=>e=.returned (.bool (zc8 n zs os vs ko kv fine))/\Below w.heap.size w w':=by
 by_cases h:zs6 n zs=true/\ko<=12/\kv<=5/\inB fine 0 1000000=true
 ·exact zN5 n fine a ao av cap ko co kv cv zs os vs w hA hO hV hlo hlv h.1 h.2.1 h.2.2.1 h.2.2.2
 ·exact yg0 n fine a ao av cap ko co kv cv zs os vs w hA hko hkv h
theorem yq1(n fine veh:Int)(a ao av bi:Option Addr)(cap ko co kv cv c2:Nat)(zs os vs ids:List Int)(w:zg)(hA:za3 w a zs)(hO:za3 w ao os)(hV:za3 w av vs)(hI:za3 w bi ids)(hlo:os.length=ko*6)(hlv:vs.length=kv*5)(hko:ko<=9223372036854775807)(hkv:kv<=9223372036854775807)(hli:ids.length<=9223372036854775807)(hc2:ids.length<=c2):
 Calls ze 162 #[.agg #[zc zb n,za a zs.length cap,za ao ko co,za av kv cv,zc zb fine],.agg #[zc zb veh,za bi ids.length c2]] w fun e w'=>e=.returned (zc zb (zm9 (zc8 n zs os vs ko kv fine) vs os kv ko veh ids))/\Below w.heap.size w w':=by
 have HA:=za4 hA;have HO:=za4 hO;have HV:=za4 hV;have HI:=za4 hI;have HLO:Hid _:=hlo;have HLV:Hid _:=hlv;clear hA hO hV hI hlo hlv;have HC0:Hid (CR w ((w.alloc (zd #[zc zb n,za a zs.length cap,za ao ko co,za av kv cv,zc zb fine] 30)).alloc (zd #[zc zb veh,za bi ids.length c2] 80)) _ _):=CR.new w _ _;obtain⟨r,HR⟩:=nmd (zm9 (zc8 n zs os vs ko kv fine) vs os kv ko veh ids);rw[HR.X];go_enter Tryz.func162,Tryz.ntmps162
 go_wp2_with fail
 refine(z99 n fine a ao av cap ko co kv cv zs os vs _ (HA.below HC0.1) (HO.below HC0.1) (HV.below HC0.1) HLO.X HLV.X hko hkv).mono ?_;rintro e w1 ⟨rfl,hb⟩;have C1:=za4 (HC0.below hb);clear hb HC0;cases hc:zc8 n zs os vs ko kv fine
 ·have HV1:Hid _:=HR.symm.trans (yG0 hc)
  go_wp2;go_ret;exact⟨zf8 HV1.symm,C1.1⟩
 ·have HC:Hid _:=hc
  clear hc;obtain⟨c0,c1,c2',c3,c4⟩:=za7 C1.2.1;obtain⟨d0,d1⟩:=za1 C1.2.2
  go_wp2_with fail
  refine(zE5 n fine veh a ao av _ cap ko co kv cv vs _ (HV.below C1.1) HLV.X hkv).mono ?_;rintro e w2 ⟨rfl,hb⟩;obtain⟨v0,G0⟩:=nmd (zc2 vs kv veh 0);obtain⟨v1,G1⟩:=nmd (zc2 vs kv veh 1);obtain⟨v2,G2⟩:=nmd (zc2 vs kv veh 2);obtain⟨v3,G3⟩:=nmd (zc2 vs kv veh 3);obtain⟨v4,G4⟩:=nmd (zc2 vs kv veh 4);rw[G0.X,G1.X,G2.X,G3.X,G4.X];have C2:=za4 (C1.below hb);clear hb C1 c0 c1 c2' c3 c4 d0 d1;cases ht:fnd5T vs kv veh
  ·have HV1:Hid _:=HR.symm.trans (yw1 HC.X ht)
   go_wp2;go_ret;exact⟨zf8 HV1.symm,(CR.alloc C2.X _).1⟩
  ·have HT5:Hid _:=ht
   clear ht;have C3:Hid (CR w (w2.alloc (zd #[zc zb v0,zc zb v1,zc zb v2,zc zb v3,zc zb v4] 107)) _ _):=CR.alloc C2.X _;have RV3:Hid ((w2.alloc (zd #[zc zb v0,zc zb v1,zc zb v2,zc zb v3,zc zb v4] 107)).heap[w2.heap.size]? =_):=zN _ _;obtain⟨c0,c1,c2',c3,c4⟩:=za7 C3.2.1;obtain⟨d0,d1⟩:=za1 C3.2.2;clear C2;by_cases h12:ids.length<=12
   ·go_wp2_with fail
    clear c0 c1 c2' c3 c4 d0 d1;generalize w2.alloc (zd #[zc zb v0,zc zb v1,zc zb v2,zc zb v3,zc zb v4] 107)=W2 at*;generalize w2.heap.size=gv at*;have HOB:Hid _:=yn8 HC.X;go_loopw[7,8] (fun sm t wr=>∃k:Nat,k<=ids.length/\t=zc zb k/\sm=zc zb (zn2 os ko ids k)/\zv7 os ko ids k/\CR w wr #[zc zb n,za a zs.length cap,za ao ko co,za av kv cv,zc zb fine] #[zc zb veh,za bi ids.length c2]/\wr.heap[gv]? =some (zd #[zc zb v0,zc zb v1,zc zb v2,zc zb v3,zc zb v4] 107 (0,0))) (fun _ t _=>ids.length - (intOf t).toNat)
    case atStart=>exact⟨0,yZ _,rfl,rfl,zA0 _ _ _,C3.X,RV3.X⟩
    case round=>
     clear C3 RV3;obtain⟨k,hk,rfl,rfl,hth,hb,hrv⟩:=hrel;have hbd:=zE4 HOB.X ids k;have HT:=za4 hth;have HB:=za4 hb;have HRV:=za4 hrv;obtain⟨c0,c1,c2',c3,c4⟩:=za7 hb.2.1;obtain⟨d0,d1⟩:=za1 hb.2.2;obtain⟨s0,HS0⟩:=nmd (zn2 os ko ids k);rw[HS0.X]at hbd⊢;clear hth hb hrv;by_cases hlt:k<ids.length
     ·obtain⟨b,off,rfl,hcs⟩:=za3.some (za3.below HI.X HB.1) hlt
      have ct:=hcs k hlt;clear hcs;obtain⟨id,HID⟩:=nmd (ids.getD k 0);rw[HID.X]at ct;have hl2:=z86 HOB.X id;obtain⟨o0,H0⟩:=nmd (zd0 os ko id 0);obtain⟨o1,H1⟩:=nmd (zd0 os ko id 1);obtain⟨o2,H2⟩:=nmd (zd0 os ko id 2);obtain⟨o3,H3⟩:=nmd (zd0 os ko id 3);obtain⟨o4,H4⟩:=nmd (zd0 os ko id 4);obtain⟨o5,H5⟩:=nmd (zd0 os ko id 5);rw[H2.X]at hl2;have HL1:Hid (zn2 os ko ids (k+1)=s0+o2):=by
       show _=_;unfold zn2;rw[HS0.X,HID.X,H2.X]
      obtain⟨tt,HTT⟩:=nmd (zm0 os ko id)
      go_wp2_with fail
      have HCT:=za4 ct;have HCA:Hid ((wr.alloc (zd #[zc zb 0,zc zb 0,zc zb 0,zc zb 0,zc zb 0,zc zb 0] 103)).cell? ⟨b,off+k,none⟩=_):=(((yV wr.heap.size wr).alloc (zQ _) _).cell (p:=⟨b,off+k,none⟩) (zT ct)).trans ct;have HVA:Hid ((wr.alloc (zd #[zc zb 0,zc zb 0,zc zb 0,zc zb 0,zc zb 0,zc zb 0] 103)).heap[gv]? =_):=(yY _ _ (za2 HRV.X)).trans HRV.X;have hlb:=zT ct;simp at hlb;have hlw:=za2 HB.2.1;have hlr:=za2 HB.2.2
      go_region_held3 (fun W=>W.cell? ⟨w.heap.size,0,none⟩=some (zc zb n)/\W.cell? ⟨w.heap.size,1,none⟩=some (za a zs.length cap)/\W.cell? ⟨w.heap.size,2,none⟩=some (za ao ko co)/\W.cell? ⟨w.heap.size,3,none⟩=some (za av kv cv)/\W.cell? ⟨w.heap.size,4,none⟩=some (zc zb fine)/\W.cell? ⟨w.heap.size+1,1,none⟩=some (za (some ⟨b,off,none⟩) ids.length c2)/\W.cell? ⟨b,off+k,none⟩=some (zc zb id)) (first|with_reducible exact kS|with_reducible exact⟨(za5 (za5 (za5 (za5 (za5 (za5 kS.1 (yW hlw)) (yW hlw)) (yW hlw)) (yW hlw)) (yW hlw)) (yW hlw)),(za5 (za5 (za5 (za5 (za5 (za5 kS.2.1 (yW hlw)) (yW hlw)) (yW hlw)) (yW hlw)) (yW hlw)) (yW hlw)),(za5 (za5 (za5 (za5 (za5 (za5 kS.2.2.1 (yW hlw)) (yW hlw)) (yW hlw)) (yW hlw)) (yW hlw)) (yW hlw)),(za5 (za5 (za5 (za5 (za5 (za5 kS.2.2.2.1 (yW hlw)) (yW hlw)) (yW hlw)) (yW hlw)) (yW hlw)) (yW hlw)),(za5 (za5 (za5 (za5 (za5 (za5 kS.2.2.2.2.1 (yW hlw)) (yW hlw)) (yW hlw)) (yW hlw)) (yW hlw)) (yW hlw)),(za5 (za5 (za5 (za5 (za5 (za5 kS.2.2.2.2.2.1 (yW hlr)) (yW hlr)) (yW hlr)) (yW hlr)) (yW hlr)) (yW hlr)),(za5 (za5 (za5 (za5 (za5 (za5 kS.2.2.2.2.2.2 (yW hlb)) (yW hlb)) (yW hlb)) (yW hlb)) (yW hlb)) (yW hlb))⟩|go_keep) ((first
       |(go_at_call 88
         with_reducible refine(zr7 n fine id a ao av _ cap ko co kv cv os wr.drew ?_ HLO.X hko).mono ?_
         ·exact HO.below HB.1.drew
         rintro e w2 ⟨rfl,hb2⟩;rw[H0.X,H1.X,H2.X,H3.X,H4.X,H5.X,HTT.X];have hcr2:=CR.below (CR.drew HB.X) hb2;obtain⟨k0,k1,k2,k3,k4⟩:=za7 hcr2.2.1;have k5:=(za1 hcr2.2.2).2;have k6:=(hb2.cell (p:=⟨b,off+k,none⟩) (zT HCT.X)).trans HCT.X;have kS:=xe k0 (xe k1 (xe k2 (xe k3 (xe k4 (xe k5 k6)))));have CR2:=za4 hcr2;have RV2:=za4 (za0 hb2 (za2 HRV.X) HRV.X);clear hb2 hcr2 k0 k1 k2 k3 k4 k5 k6)
       |(go_at_call 88
         with_reducible refine(zr7 n fine id a ao av _ cap ko co kv cv os (wr.alloc (zd #[zc zb 0,zc zb 0,zc zb 0,zc zb 0,zc zb 0,zc zb 0] 103)).drew ?_ HLO.X hko).mono ?_
         ·exact HO.below (CR.alloc HB.X (zd #[zc zb 0,zc zb 0,zc zb 0,zc zb 0,zc zb 0,zc zb 0] 103)).1.drew
         rintro e w2 ⟨rfl,hb2⟩;rw[H0.X,H1.X,H2.X,H3.X,H4.X,H5.X,HTT.X];have hcr2:=CR.below (CR.drew (CR.alloc HB.X (zd #[zc zb 0,zc zb 0,zc zb 0,zc zb 0,zc zb 0,zc zb 0] 103))) hb2;obtain⟨k0,k1,k2,k3,k4⟩:=za7 hcr2.2.1;have k5:=(za1 hcr2.2.2).2;have k6:=(hb2.cell (p:=⟨b,off+k,none⟩) (zT HCA.X)).trans HCA.X;have kS:=xe k0 (xe k1 (xe k2 (xe k3 (xe k4 (xe k5 k6)))));have CR2:=za4 hcr2;have RV2:=za4 (za0 hb2 (za2 HVA.X) HVA.X);obtain⟨z0,z1,z2,z3,z4,z5⟩:=zh8 (za0 hb2 (k:=wr.heap.size) (by simp) (zN wr (zd #[zc zb 0,zc zb 0,zc zb 0,zc zb 0,zc zb 0,zc zb 0] 103)));have zf:=fun i=>yU _ _ i _ _ (za0 hb2 (k:=wr.heap.size) (by simp) (zN wr (zd #[zc zb 0,zc zb 0,zc zb 0,zc zb 0,zc zb 0,zc zb 0] 103)))
         have RO2:Hid (w2.heap[wr.heap.size]? =_):=za0 hb2 (k:=wr.heap.size) (by simp) (zN wr (zd #[zc zb 0,zc zb 0,zc zb 0,zc zb 0,zc zb 0,zc zb 0] 103));clear hb2 hcr2 k0 k1 k2 k3 k4 k5 k6)))
      all_goals(first
       |(have CRW:Hid (CR w (zh (zh (zh (zh (zh (zh w2 ⟨wr.heap.size,0,none⟩ (zc zb o0)) ⟨wr.heap.size,1,none⟩ (zc zb o1)) ⟨wr.heap.size,2,none⟩ (zc zb o2)) ⟨wr.heap.size,3,none⟩ (zc zb o3)) ⟨wr.heap.size,4,none⟩ (zc zb o4)) ⟨wr.heap.size,5,none⟩ (zc zb o5)) _ _):=CR.set (CR.set (CR.set (CR.set (CR.set (CR.set CR2.X HB.big) HB.big) HB.big) HB.big) HB.big) HB.big
         have RVW:Hid ((zh (zh (zh (zh (zh (zh w2 ⟨wr.heap.size,0,none⟩ (zc zb o0)) ⟨wr.heap.size,1,none⟩ (zc zb o1)) ⟨wr.heap.size,2,none⟩ (zc zb o2)) ⟨wr.heap.size,3,none⟩ (zc zb o3)) ⟨wr.heap.size,4,none⟩ (zc zb o4)) ⟨wr.heap.size,5,none⟩ (zc zb o5)).heap[gv]? =_):=za6 (za6 (za6 (za6 (za6 (za6 RV2.X (yW (za2 HRV.X))) (yW (za2 HRV.X))) (yW (za2 HRV.X))) (yW (za2 HRV.X))) (yW (za2 HRV.X))) (yW (za2 HRV.X));have ROW:Hid ((zh (zh (zh (zh (zh (zh w2 ⟨wr.heap.size,0,none⟩ (zc zb o0)) ⟨wr.heap.size,1,none⟩ (zc zb o1)) ⟨wr.heap.size,2,none⟩ (zc zb o2)) ⟨wr.heap.size,3,none⟩ (zc zb o3)) ⟨wr.heap.size,4,none⟩ (zc zb o4)) ⟨wr.heap.size,5,none⟩ (zc zb o5)).heap[wr.heap.size]? =_):=zO3 RO2.X;clear kS CR2 RV2 RO2 HCT HCA HVA ct z0 z1 z2 z3 z4 z5 zf;generalize(zh (zh (zh (zh (zh (zh w2 ⟨wr.heap.size,0,none⟩ (zc zb o0)) ⟨wr.heap.size,1,none⟩ (zc zb o1)) ⟨wr.heap.size,2,none⟩ (zc zb o2)) ⟨wr.heap.size,3,none⟩ (zc zb o3)) ⟨wr.heap.size,4,none⟩ (zc zb o4)) ⟨wr.heap.size,5,none⟩ (zc zb o5))=W at*;generalize wr.heap.size=g at*)
       |(have CRW:Hid (CR w (w2.alloc (zd #[zc zb o0,zc zb o1,zc zb o2,zc zb o3,zc zb o4,zc zb o5] 103)) _ _):=CR.alloc CR2.X _
         have RVW:Hid ((w2.alloc (zd #[zc zb o0,zc zb o1,zc zb o2,zc zb o3,zc zb o4,zc zb o5] 103)).heap[gv]? =_):=(yY _ _ (za2 RV2.X)).trans RV2.X;have ROW:Hid ((w2.alloc (zd #[zc zb o0,zc zb o1,zc zb o2,zc zb o3,zc zb o4,zc zb o5] 103)).heap[w2.heap.size]? =_):=zN _ _;clear kS CR2 RV2 HCT HCA HVA ct;generalize w2.alloc (zd #[zc zb o0,zc zb o1,zc zb o2,zc zb o3,zc zb o4,zc zb o5] 103)=W at*;generalize w2.heap.size=g at*))
      all_goals
       clear c0 c1 c2' c3 c4 d0 d1 hlw hlr hlb;have hkc:k<=c2:=by omega
       have q1:=(za1 CRW.2.2).2;have ctW:=zu2 (HI.below CRW.1) hlt HID.X;have t0:=fun s:Kin W=>s.cell q1;have t1:=fun s:Kin W=>s.cell ctW;cases tt
       ·have HV1:Hid _:=HR.symm.trans (zQ6 HC.X HT5.X (zz1 hlt (zz0 HID.X HTT.X rfl)))
        go_wp2_with fail
        have hkin:=Kin.there W;refine zb0 (by kernel_rfl) (by kernel_rfl) ?_
        repeat(go_big_quiet_step ((fail)))
        refine xj ?_;rintro _ ⟨s,rfl⟩;have HS2:=za4 (CRW.below s.below);generalize s.w=w3 at*;go_wp2;go_ret;exact⟨zf8 HV1.symm,HS2.1⟩
       ·obtain⟨hh,HH⟩:=nmd (zx5 ids k id)
        cases hh
        ·have HS1:Hid (zv7 os ko ids (k+1)):=zA5 HT.X (zz0 HID.X HTT.X HH.X)
         go_wp2_with fail
         have hkin:=Kin.there W;refine zb0 (by kernel_rfl) (by kernel_rfl) ?_
         repeat(go_big_quiet_step ((go_at_call 87;exact Kin.call_same (z44 _ k _ id ids _ false HH.X ((HI.below CRW.1).below (Kin.below _)) hk (by omega)))))
         refine xj ?_;rintro _ ⟨s,rfl⟩;have HS2:=za4 (CRW.below s.below);have HRV2:=za4 (za0 s.below (za2 RVW.X) RVW.X);obtain⟨p0,p1,p2,p3,p4,p5⟩:=zh8 (za0 s.below (za2 ROW.X) ROW.X);clear q1 ctW t0 t1 CRW RVW ROW;generalize s.w=w3 at*;go_wp2;exact⟨⟨k+1,by omega,by go_num,by rw[HL1.X],HS1.X,HS2.X,HRV2.X⟩,by simp[intOf];omega⟩
        ·have HV1:Hid _:=HR.symm.trans (zQ6 HC.X HT5.X (zz1 hlt (zz0 HID.X HTT.X HH.X)))
         go_wp2_with fail
         have hkin:=Kin.there W;refine zb0 (by kernel_rfl) (by kernel_rfl) ?_
         repeat(go_big_quiet_step ((go_at_call 87;exact Kin.call_same (z44 _ k _ id ids _ true HH.X ((HI.below CRW.1).below (Kin.below _)) hk (by omega)))))
         refine xj ?_;rintro _ ⟨s,rfl⟩;have HS2:=za4 (CRW.below s.below);generalize s.w=w3 at*;go_wp2;go_ret;exact⟨zf8 HV1.symm,HS2.1⟩
     ·have hkl:k=ids.length:=by omega
      have HSB:Hid _:=z78 h12 (hkl▸HT.X);have HS0':Hid _:=hkl▸HS0.X;obtain⟨q0,q1,q2,q3,q4⟩:=za7 HRV.X;clear hkl;by_cases hroom:v2<s0
      ·have HV1:Hid _:=HR.symm.trans (yv1 HC.X HT5.X HSB.X (by rw[HS0'.X,G2.X];exact hroom))
       go_wp2;go_ret;exact⟨zf8 HV1.symm,HB.1⟩
      ·have HV1:Hid _:=HR.symm.trans (yy7 HC.X HT5.X HSB.X (by rw[HS0'.X,G2.X];exact hroom))
       go_wp2;go_ret;exact⟨zf8 HV1.symm,HB.1⟩
   ·have HV1:Hid _:=HR.symm.trans (zQ6 HC.X HT5.X (zF8 h12))
    go_wp2;go_ret;exact⟨zf8 HV1.symm,C3.1⟩
theorem z42(x:Int)(w:zg):Calls ze 198 #[zc zb x] w fun e w'=>e=.returned (.bool false)/\w'=w:=by
 have hx:(x !=x)=false:=by simp
 go_enter Tryz.func198,Tryz.ntmps198;go_wp2;go_ret;exact⟨by first|rfl|simp,rfl⟩
def yu4(x y:Int):Int:=if x<y then -1 else if y<x then 1 else 0
theorem ye6(x y:Int)(w:zg):Calls ze 195 #[zc zb x,zc zb y] w fun e w'=>e=.returned (zc zb (yu4 x y))/\w'=w:=by
 unfold yu4;by_cases h1:x<y
 ·rw[zV h1]
  go_enter Tryz.func195,Tryz.ntmps195
  go_wp2_with(go_at_call 198;refine(z42 _ _).mono ?_;rintro e w' ⟨rfl,hw⟩;subst hw)
  go_ret;exact⟨rfl,rfl⟩
 ·rw[zW h1]
  by_cases h2:y<x
  ·rw[zV h2]
   go_enter Tryz.func195,Tryz.ntmps195
   go_wp2_with(go_at_call 198;refine(z42 _ _).mono ?_;rintro e w' ⟨rfl,hw⟩;subst hw)
   go_ret;exact⟨rfl,rfl⟩
  ·rw[zW h2]
   go_enter Tryz.func195,Tryz.ntmps195
   go_wp2_with(go_at_call 198;refine(z42 _ _).mono ?_;rintro e w' ⟨rfl,hw⟩;subst hw)
   go_ret;exact⟨rfl,rfl⟩
theorem zI5{w w':zg}{base size n:Nat}{e:TypeId}{v:Value}{xs:List Value}(h:w.ownsRow base e size v n xs)(hb:Below w.heap.size w w'):w'.ownsRow base e size v n xs:=by
 obtain⟨h1,h2|⟨g,cap,cur,h2,h3,h4,h5⟩⟩:=h
 ·exact⟨h1,.inl h2⟩
 ·exact⟨h1,.inr ⟨g,cap,cur,h2,h3,za0 hb (za2 h4) h4,h5⟩⟩
theorem yd5{w:zg}{base b0 k:Nat}{v:Value}{e:TypeId}{size:Nat}{xs:List Value}(h:w.ownsRow base e size v k xs)(hb:b0<=base):w.ownsRow b0 e size v k xs:=by
 obtain⟨h0,h1|⟨g,cap,cur,h2,h3,h4⟩⟩:=h
 ·exact⟨h0,.inl h1⟩
 ·exact⟨h0,.inr ⟨g,cap,cur,h2,y7 hb h3,h4⟩⟩
theorem z60{w:zg}{base k g c:Nat}{e:TypeId}{size:Nat}{xs:List Value}(h:w.ownsRow base e size (za (some ⟨g,0,none⟩) k c) k xs):k<=c:=by
 obtain⟨_,⟨h1,_⟩|⟨g',cap,cur,h2,_,_,h3,_⟩⟩:=h
 ·cases h1
 ·injection h2 with e1 e2 e3
  omega
theorem zM8{P:Program}(w:zg)(base:Nat)(t ty e:TypeId)(i:TypeInfo)(z:Value)(size bytes:Nat)(ht:P.underlying t=some (.slice e))(hi:P.info? e=some i)(hz:i.zero=some z)
 (hsize:i.size=size) (hby:i.bytes=bytes) (v:Value) (n:Nat) (xs:List Value) (hown:w.ownsRow base e size v n xs)
 (a:Addr) (m c:Nat) (news:List Value) (hl:news.length=m*size) (hnews:∀j u,news[j]? =some u->w.cell? (a.add j)=some u) (h1:∀u∈news,u.oneCell'=true)
 (h63:n+m<=maxLen) (hbytes:(n+m)*bytes<=140737488355328) {v':Value} {w':zg} (hrun:(zt #[t,t] ty #[v,za (some a) m c]).run P w=.ok v' w'):v'.ownBlock=v.ownBlock∨v'.ownBlock=some w.heap.size:=by
 subst hsize;subst hby;have hsmall:n+m<=9223372036854775807:=by simp only[maxLen]at h63;omega
 rcases hown.2 with⟨rfl,rfl⟩|⟨g,cap,cur,rfl,hbg,hg,hnc,hcm,hcs,htake⟩
 ·by_cases hm:m=0
  ·subst hm
   have hn:news=[]:=xt (by simpa using hl);subst hn;simp[zt,xA ht,sizeOf,typeInfo,hi,Builtin.lenOf,Builtin.firstCells,loadCells,loadCellsFrom]at hrun;rw[<-hrun.1];exact .inl rfl
  ·have hr:=run_append_nil (P:=P) w t ty e i z ht hi hz a m c news hl hnews (by omega) (by omega) (by have hb:=hbytes;simp only[z6]at hb;omega)
   rw[hr]at hrun
   injection hrun with e1 e2
   rw[<-e1];exact .inr rfl
 ·by_cases hroom:n+m<=cap
  ·have hfit:n*i.size+news.length<=cur.size:=by rw[hl,hcs,<-Nat.add_mul];exact yH _ hroom
   have hr:=run_append_room (P:=P) w t ty e i ht hi g n cap cur hg a m c news hl hnews h1 hroom hfit;rw[hr]at hrun
   injection hrun with e1 e2
   rw[<-e1];exact .inl rfl
  ·have holds:=hown.cells (g:=g) rfl
   have hr:=run_append_grow (P:=P) w t ty e i z ht hi hz ⟨g,0,none⟩ n cap xs hown.1 holds a m c news hl hnews (by omega) (by omega) (growslice_fits (by omega) hbytes);rw[hr]at hrun
   injection hrun with e1 e2
   rw[<-e1];exact .inr rfl
theorem y34{P:Program}{o:Oper}{a:Act}{w w':zg}{v:Value}(s x:Operand)(t:TypeId)(vs vx:Value)(ho:o.op=.call {callee:=.builtin .append,args:=#[s,x],argTypes:=#[t,t]})
 (hs:a.eval s=vs) (hx:a.eval x=vx) (hr:(zt #[t,t] o.type #[vs,vx]).run P w=.ok v w'):(execOp a.eval o).run P w=.ok (.value v) w':=by
 unfold execOp;simp only[ho,resolve,invoke,builtin,Sem.run_bind,Sem.run_pure,Result.andThen_ok,List.map_toArray,xw,List.map_nil,hs,hx,hr]
theorem y62{w:zg}{base n g c k size m:Nat}{e:TypeId}{xs:List Value}(v:Value)(h:w.ownsRow base e size (za (some ⟨g,0,none⟩) m c) n xs):(w.setCell ⟨g,k,none⟩ v).ownsRow base e size (za (some ⟨g,0,none⟩) m c) n (xs.set k v):=by
 obtain⟨h0,⟨h1,_⟩|⟨g',cap,cur,h2,h3,h4,h5,h6,h7,h8⟩⟩:=h
 ·cases h1
 ·simp at h2
  obtain⟨rfl,rfl,rfl⟩:=h2;refine⟨by simpa using h0,.inr ⟨g,c,cur.setIfInBounds k v,rfl,h3,zP w g k cur e _ h4,h5,h6,by simpa using h7,?_⟩⟩;rw[Array.toList_setIfInBounds,List.take_set,h8]
theorem zd5{w:zg}{base n g c k size m:Nat}{e:TypeId}{xs:List Value}{x:Value}(h:w.ownsRow base e size (za (some ⟨g,0,none⟩) m c) n xs)(hk:xs[k]? =some x):w.cell? ⟨g,k,none⟩=some x/\w.frozen? ⟨g,k,none⟩=false:=by
 refine⟨?_,?_⟩
 ·have:=h.cells (g:=g) rfl k x hk
  have hadd:(⟨g,0,none⟩:Addr).add k=⟨g,k,none⟩:=by unfold Addr.add;split<;>simp_all
  rw[hadd]at this;exact this
 ·obtain⟨h0,⟨h1,_⟩|⟨g',cap,cur,h2,h3,h4,h5⟩⟩:=h
  ·cases h1
  ·simp at h2
   obtain⟨rfl,rfl,rfl⟩:=h2;exact yU _ _ k _ _ h4
theorem own_kinds{w:zg}{base n size:Nat}{e:TypeId}{v:Value}{xs:List Value}(h:w.ownsRow base e size v n xs):(v=za none 0 0/\n=0)∨∃g c,v=za (some ⟨g,0,none⟩) n c/\base<=g/\g<w.heap.size:=by
 obtain⟨_,⟨h1,h2⟩|⟨g,cap,cur,h2,h3,h4,_⟩⟩:=h
 ·exact .inl ⟨h1,h2⟩
 ·exact .inr ⟨g,cap,h2,h3,za2 h4⟩
theorem yg9:(Tryz.prog.info? 2).map (fun i=>(i.zero,i.size,i.bytes))=some (some (zc zb 0),1,8):=by kernel_rfl
structure PS where
 f:Bool
 i:Nat
 v:Int
def ps0:PS:=⟨false,0,0⟩
def zO6(ok:Nat->Bool)(dl:Nat->Int)(s:PS)(k:Nat):PS:=if ok k=true/\(s.f=false∨dl k<s.v)then⟨true,k,dl k⟩else s
def pst(ok:Nat->Bool)(dl:Nat->Int):Nat->PS
 |0=>ps0
 |k+1=>zO6 ok dl (pst ok dl k) k
theorem zP7(ok:Nat->Bool)(dl:Nat->Int)(k:Nat):pst ok dl (k+1)=zO6 ok dl (pst ok dl k) k:=rfl
theorem yy1{ok:Nat->Bool}{dl:Nat->Int}{s:PS}{k:Nat}(h1:ok k=true)(h2:s.f=false):zO6 ok dl s k=⟨true,k,dl k⟩:=zV ⟨h1,.inl h2⟩
theorem y01{ok:Nat->Bool}{dl:Nat->Int}{s:PS}{k:Nat}(h1:ok k=true)(h2:dl k<s.v):zO6 ok dl s k=⟨true,k,dl k⟩:=zV ⟨h1,.inr h2⟩
theorem zZ7{ok:Nat->Bool}{dl:Nat->Int}{s:PS}{k:Nat}(h1:ok k=false):zO6 ok dl s k=s:=zW fun h=>by have:=h.1;rw[h1]at this;cases this
theorem ys6{ok:Nat->Bool}{dl:Nat->Int}{s:PS}{k:Nat}(h1:s.f=true)(h2:¬dl k<s.v):zO6 ok dl s k=s:=zW fun h=>by
 rcases h.2 with h|h
 ·rw[h1]at h;cases h
 ·exact h2 h
theorem y32{ok:Nat->Bool}{dl:Nat->Int}(h:∀k,ok k=false):∀m,pst ok dl m=ps0
 |0=>rfl
 |m+1=>by rw[zP7,y32 h m,zZ7 (h m)]
theorem ym9{ok:Nat->Bool}{dl:Nat->Int}:∀m,(pst ok dl m).f=true->ok (pst ok dl m).i=true/\dl (pst ok dl m).i=(pst ok dl m).v/\(pst ok dl m).i<m
 |0=>fun h=>by cases h
 |m+1=>fun h=>by
  rw[zP7]at h⊢;unfold zO6 at h⊢;split
  ·rename_i hc
   exact⟨hc.1,rfl,Nat.lt_succ_self m⟩
  ·rename_i hc
   rw[zW hc]at h;obtain⟨h1,h2,h3⟩:=ym9 m h;exact⟨h1,h2,by omega⟩
theorem zm7{W:zg}{base g cap n size:Nat}{E:TypeId}{cur:Array Value}{xs:List Value}(hr:W.heap[g]? =some (.cells cur E (0,0)))(hsz:cur.size=cap*size)(hn:n<=cap)(hm:cap<=maxLen)(hb:base<=g)(hx:xs.length=n*size)(hc:∀j,j<n*size->W.cell? ⟨g,j,none⟩=xs[j]?):W.ownsRow base E size (za (some ⟨g,0,none⟩) n cap) n xs:=by
 refine⟨hx,.inr ⟨g,cap,cur,rfl,hb,hr,hn,hm,hsz,?_⟩⟩;apply List.ext_getElem?;intro j;rw[yq];by_cases hj:j<n*size
 ·have h1:=hc j hj
  rw[zR _ _ _ _ _ _ hr]at h1;rw[zV hj,Array.getElem?_toList,h1]
 ·rw[zW hj,yb (by omega)]
theorem z36(x:Int)(w:zg):
 Calls ze 144 #[zc zb x] w fun e w'=>∃p,w.heap.size<=p/\e=.returned (.func (.func 169) #[] #[.pointer (some ⟨p,0,none⟩)])/\Below w.heap.size w w'/\w'.cell? ⟨p,0,none⟩=some (zc zb x):=by
 have hmf:∀(fn:Fn) (first cap:Array Value) (w:zg),(Instr.makeFunc fn first cap).run ze w=.ok (.func fn first cap) w:=fun _ _ _ _=>rfl;go_enter Tryz.func144,Tryz.ntmps144;go_wp2;go_ret;refine⟨w.heap.size,zQ _,rfl,zK _,?_⟩
 first
  |exact zR _ _ _ _ _ _ (zN _ _)
  |exact za1 (zN _ _)
theorem ze2(W:zg)(g i:Nat)(v:Value):W.grownBy (W.setCell ⟨g,i,none⟩ v) (some g):=
 ⟨rfl,rfl,rfl,by simp[zh],fun b _ hne=>xg W ⟨g,i,none⟩ b v (fun e=>hne (by rw[e]))⟩
theorem ze8{w w1 w2:zg}{g:Nat}(h1:w.grownBy w1 (some g))(h2:w1.grownBy w2 (some g)):w.grownBy w2 (some g):=
 ⟨h2.os.trans h1.os,h2.tape.trans h1.tape,h2.output.trans h1.output,y7 h1.size h2.size,fun b hb hne=>(h2.block b (xh hb h1.size) hne).trans (h1.block b hb hne)⟩
theorem zz6(w:zg)(g:Nat):w.grownBy w (some g):=⟨rfl,rfl,rfl,zQ _,fun _ _ _=>rfl⟩
theorem zv5(n fine kk:Int)(a ao av:Option Addr)(zl cap ko co kv cv:Nat)(w:zg):
 Calls ze 77 #[.agg #[zc zb n,za a zl cap,za ao ko co,za av kv cv,zc zb fine],zc zb kk] w fun e w'=>∃kb cb:Nat,(w.heap.size<=kb/\w.heap.size<=cb)/\e=.returned (.func (.func 112) #[] #[.pointer (some ⟨kb,0,none⟩),.pointer (some ⟨cb,0,none⟩)])/\Below w.heap.size w w'/\w'.cell? ⟨kb,0,none⟩=some (zc zb kk)/\w'.heap[cb]? =some (zd #[zc zb n,za a zl cap,za ao ko co,za av kv cv,zc zb fine] 30 (0,0)):=by
 have hmf:∀(fn:Fn) (first cap:Array Value) (w:zg),(Instr.makeFunc fn first cap).run ze w=.ok (.func fn first cap) w:=fun _ _ _ _=>rfl;go_enter Tryz.func77,Tryz.ntmps77;go_wp2;go_ret;refine⟨w.heap.size+1,w.heap.size,⟨by omega,zQ _⟩,rfl,(zK _).alloc (by simp) _,?_,xb _ _ _⟩;exact zR _ _ _ _ _ _ (y8 _ _ _)
theorem zX4{s:Int}(h1:0<=s)(h2:s<=2147483647):wrap64 (s*1103515245)=s*1103515245/\wrap64 (s*1103515245+12345)=s*1103515245+12345:=by
 unfold wrap64;omega
theorem zZ1(s:Int)(w:zg):
 Calls ze 130 #[zc zb s] w fun e w'=>e=.returned (zc zb (zn0 s))/\w'=w:=by
 obtain⟨r,HR⟩:=nmd (zn0 s);rw[HR.X];cases hin:inB s 0 2147483647
 ·have HV:Hid (r=0):=HR.X.symm.trans (zS1 hin)
  go_enter Tryz.func130,Tryz.ntmps130
  go_wp2_with(go_at_call 39;refine(zc0 _ _ _ _).mono ?_;rintro e w' ⟨rfl,rfl⟩)
  go_ret;exact⟨zf8 HV.X.symm,rfl⟩
 ·have hb:=zc7 hin
  have HV:Hid (r=(s*1103515245+12345) % 2147483648):=HR.X.symm.trans (zG3 hin);obtain⟨m1,m2⟩:=zX4 hb.1 hb.2;go_enter Tryz.func130,Tryz.ntmps130
  go_wp2_with(go_at_call 39;refine(zc0 _ _ _ _).mono ?_;rintro e w' ⟨rfl,rfl⟩)
  go_ret;exact⟨zf8 HV.X.symm,rfl⟩
theorem zl7(n:Int)(w:zg):
 Calls ze 33 #[zc zb n] w fun e w'=>e=.returned (.bool (inB n 0 2147483647))/\w'=w:=by
 go_enter Tryz.func33,Tryz.ntmps33
 go_wp2_with(go_at_call 32;refine(zc1 _ _ _ _).mono ?_;rintro e w' ⟨rfl,rfl⟩)
 go_ret;exact⟨rfl,rfl⟩
theorem zW9(s:Int)(w:zg):
 Calls ze 141 #[zc zb s] w fun e w'=>e=.returned (zc zb (zn0 s))/\w'=w:=by
 obtain⟨r,HR⟩:=nmd (zn0 s);rw[HR.X];cases hin:inB s 0 2147483647
 ·have HV:Hid (r=0):=HR.X.symm.trans (zS1 hin)
  go_enter Tryz.func141,Tryz.ntmps141
  go_wp2_with(go_at_call 33;refine(zl7 _ _).mono ?_;rintro e w' ⟨rfl,rfl⟩)
  go_ret;exact⟨zf8 HV.X.symm,rfl⟩
 ·have hb:=zc7 hin
  have HV:Hid (r=(s*1103515245+12345) % 2147483648):=HR.X.symm.trans (zG3 hin);obtain⟨m1,m2⟩:=zX4 hb.1 hb.2;go_enter Tryz.func141,Tryz.ntmps141
  go_wp2_with(go_at_call 33;refine(zl7 _ _).mono ?_;rintro e w' ⟨rfl,rfl⟩)
  go_ret;exact⟨zf8 HV.X.symm,rfl⟩
structure BCP(w W:zg)(cs ps:Array Value):Prop where
 b:Below w.heap.size w W
 c:W.heap[w.heap.size]? =some (.cells cs 30 (0,0))
 p:W.heap[w.heap.size+1]? =some (.cells ps 33 (0,0))
theorem BCP.below{w W W':zg}{cs ps:Array Value}(h:BCP w W cs ps)(hb:Below W.heap.size W W'):BCP w W' cs ps:=
 ⟨h.b.trans (hb.mono h.b.size),za0 hb (za2 h.c) h.c,za0 hb (za2 h.p) h.p⟩
theorem BCP.size{w W:zg}{cs ps:Array Value}(h:BCP w W cs ps):w.heap.size+2<=W.heap.size:=za2 h.p
theorem BCP.set{w W:zg}{cs ps:Array Value}(h:BCP w W cs ps){k i:Nat}{v:Value}(hk:w.heap.size+2<=k):BCP w (W.setCell ⟨k,i,none⟩ v) cs ps:=
 ⟨h.b.setCell (by simp;omega) _,za6 h.c (by omega),za6 h.p (by omega)⟩
theorem BCP.new(w:zg)(cs ps:Array Value):BCP w ((w.alloc (.cells cs 30)).alloc (.cells ps 33)) cs ps:=⟨(zK _).alloc (by simp) _,xb _ _ _,y8 _ _ _⟩
