import Derived.Test.YtjobhigmdaiinaaGreatPack0
import Derived.Test.YtjobhigmdaiinaaGreatPack1
import Derived.Test.YtjobhigmdaiinaaGreatPack8
import Derived.Test.YtjobhigmdaiinaaGreatKinTail
namespace Go.Proofs.YtjobhigmdaiinaaGreat
open Go.RowKit
theorem yf0(n x y:Nat)(a:Option Addr)(len cap:Nat)(l:List Int)(w:World)(hn:n<=16)(hx:x<n)(hy:y<n)(hl:l.length=n*n)(hlen:len=n*n)(hA:za0 w a l):
 Calls Tryz.prog 120 #[.agg #[.int .i64 n,.slice a len cap],.int .i64 x,.int .i64 y] w fun e w'=>e=.returned (.int .i64 (tm n l x y))/\Below w.heap.size w w':=
 zz8 n x y a len cap l w hn hx hy hl hlen hA
theorem zg8{W:World}{b o k i:Nat}{v x:Value}(h:W.cell? ⟨b,o,none⟩=some x)(hne:b≠k):(W.setCell ⟨k,i,none⟩ v).cell? ⟨b,o,none⟩=some x:=by
 rw[World.cell?_of_block (w:=W) (heap_setCell_other W ⟨k,i,none⟩ b v hne)];exact h
def SC(w X:World)(n:Nat)(a:Option Addr)(cap:Nat)(zs:List Int)(ko g c:Nat)(l r:List Int):Prop:=
 Below w.heap.size w X/\X.heap[w.heap.size]? =some (.cells #[Value.int .i64 n,Value.slice a zs.length cap] 26 (0,0))/\X.heap[w.heap.size+1]? =some (.cells #[Value.int .i64 0,Value.slice none 0 0] 26 (0,0))∧
 X.heap[ko]? =some (.cells #[Value.int .i64 n,Value.slice (some ⟨g,0,none⟩) zs.length c] 26 (0,0))/\X.heap[g]? =some (.cells (cellsOf (l++r)) 2 (0,0))/\w.heap.size+1<ko/\w.heap.size+1<g/\ko≠g
theorem SC.below{w X X':World}{n:Nat}{a:Option Addr}{cap:Nat}{zs:List Int}{ko g c:Nat}{l r:List Int}(h:SC w X n a cap zs ko g c l r)(hb:Below X.heap.size X X'):SC w X' n a cap zs ko g c l r:=by
 obtain⟨h1,h2,h3,h4,h5,h6⟩:=h;exact⟨h1.trans (hb.mono h1.size),za1 hb (za3 h2) h2,za1 hb (za3 h3) h3,za1 hb (za3 h4) h4,za1 hb (za3 h5) h5,h6⟩
theorem SC.set{w X:World}{n:Nat}{a:Option Addr}{cap:Nat}{zs:List Int}{ko g c:Nat}{l r:List Int}(h:SC w X n a cap zs ko g c l r){i:Nat}(hi:i<l.length)(v:Int):SC w (X.setCell ⟨g,i,none⟩ (.int .i64 v)) n a cap zs ko g c (l.set i v) r:=by
 obtain⟨h1,h2,h3,h4,h5,h6,h7,h8⟩:=h;refine⟨h1.setCell (by simp<;>omega) _,?_,?_,?_,?_,h6,h7,h8⟩
 ·rw[heap_setCell_other _ _ _ _ (by simp<;>omega)];exact h2
 ·rw[heap_setCell_other _ _ _ _ (by simp<;>omega)];exact h3
 ·rw[heap_setCell_other _ _ _ _ (by simpa using h8)];exact h4
 ·rw[heap_setCell_same _ _ _ _ _ _ h5,z46,List.set_append_left _ _ hi]
theorem zs9(w:World)(a b c:Obj):(((w.alloc a).alloc b).alloc c).heap[w.heap.size+1+1]? =some c:=by
 have h:=heap_alloc_new ((w.alloc a).alloc b) c;simpa using h
theorem zz3(w:World)(a b c:Obj):(((w.alloc a).alloc b).alloc c).heap[w.heap.size+1]? =some b:=by
 have h:=heap_alloc2_new w a b;exact(heap_alloc_old _ _ (Array.getElem?_eq_some_iff.1 h).1).trans h
theorem z92(w:World)(a b c:Obj):(((w.alloc a).alloc b).alloc c).heap[w.heap.size]? =some a:=by
 have h:=heap_alloc2_old w a b;exact(heap_alloc_old _ _ (Array.getElem?_eq_some_iff.1 h).1).trans h
theorem zq9(w:World)(a b c:Obj):Below w.heap.size w (((w.alloc a).alloc b).alloc c).drew.drew:=
 ((((Below.refl _ _).alloc (Nat.le_refl _) _).alloc (by simp) _).alloc (by simp;omega) _).drew.drew
theorem SC.mk0{w w1 X:World}{n:Nat}{a:Option Addr}{cap:Nat}{zs:List Int}{ko g c:Nat}{l r:List Int}(hB:Below w.heap.size w w1)(hP:w1.heap[w.heap.size]? =some (.cells #[Value.int .i64 n,Value.slice a zs.length cap] 26 (0,0)))(hQ:w1.heap[w.heap.size+1]? =some (.cells #[Value.int .i64 0,Value.slice none 0 0] 26 (0,0)))
 (hX:Below w1.heap.size w1 X) (hk:X.heap[ko]? =some (.cells #[Value.int .i64 n,Value.slice (some ⟨g,0,none⟩) zs.length c] 26 (0,0))) (hg:X.heap[g]? =some (.cells (cellsOf (l++r)) 2 (0,0))) (h1:w1.heap.size<=ko) (h2:w1.heap.size<=g) (hne:ko≠g):SC w X n a cap zs ko g c l r:=by
 have:=za3 hQ;exact⟨hB.trans (hX.mono hB.size),za1 hX (za3 hP) hP,za1 hX (za3 hQ) hQ,hk,hg,by omega,by omega,hne⟩
set_option maxRecDepth 10000 in
set_option maxHeartbeats 2000000 in
theorem zu8(n:Nat)(a:Option Addr)(cap:Nat)(zs:List Int)(w:World)(hA:za0 w a zs)(hm:zm2 n zs=true):
 Calls Tryz.prog 121 #[.agg #[.int .i64 n,.slice a zs.length cap]] w fun e w'=>∃g c r,w.heap.size<=g/\e=.returned (.agg #[.int .i64 n,.slice (some ⟨g,0,none⟩) (n*n) c])/\n*n<=c/\Below w.heap.size w w'/\w'.heap[g]? =some (.cells (cellsOf (clo n zs++r)) 2 (0,0)):=by
 have HB0:Hid (Below w.heap.size w ((w.alloc (Obj.cells #[Value.int .i64 n,Value.slice a zs.length cap] 26)).alloc (Obj.cells #[Value.int .i64 0,Value.slice none 0 0] 26))):=((Below.refl _ _).alloc (Nat.le_refl _) _).alloc (by simp) _;have HA:Hid (za0 w a zs):=hA;obtain⟨hn1,hn2,hl,_⟩:=zi7 hm;have HL:Hid (zs.length=n*n):=by
  rw[<-Int.natCast_mul]at hl;show _=_;omega
 have HM:Hid _:=hm;clear hA hm hl;go_enter Tryz.func121,Tryz.ntmps121
 go_wp2_with fail
 have P0:Hid (((w.alloc (Obj.cells #[Value.int .i64 n,Value.slice a zs.length cap] 26)).alloc (Obj.cells #[Value.int .i64 0,Value.slice none 0 0] 26)).heap[w.heap.size]? =_):=heap_alloc2_old _ _ _;have Q0:Hid (((w.alloc (Obj.cells #[Value.int .i64 n,Value.slice a zs.length cap] 26)).alloc (Obj.cells #[Value.int .i64 0,Value.slice none 0 0] 26)).heap[w.heap.size+1]? =_):=heap_alloc2_new _ _ _;generalize(w.alloc (Obj.cells #[Value.int .i64 n,Value.slice a zs.length cap] 26)).alloc (Obj.cells #[Value.int .i64 0,Value.slice none 0 0] 26)=W at*;refine(zj3 n a cap zs _ (HA.below HB0.out)).mono ?_;rintro e w1 ⟨rfl,hb⟩;rw[HM.out];obtain⟨B1,q1,z0,z1⟩:=zG2 hb HB0.out Q0.out;obtain⟨_,p1,c0,c1⟩:=zG2 hb HB0.out P0.out;have HB1:Hid _:=B1;have HQ1:Hid _:=q1;have HP1:Hid _:=p1;clear hb q1 p1 B1 HB0 Q0 P0 z0 z1
 go_wp2_with fail
 rename_i Kx hKx
 have key:∀(ko g c sl:Nat) (r:List Int) (X:World),zs.length<=c->SC w X n a cap zs ko g c zs r->Kx {tmps:=#[.agg #[.int .i64 n,.slice a zs.length cap],.pointer (some ⟨w.heap.size,0,none⟩),.pointer (some ⟨w.heap.size+1,0,none⟩),.pointer (some ⟨ko,0,none⟩),undef,undef,undef,.agg #[.int .i64 n,.slice a zs.length cap],.bool true,.bool false,undef,.pointer (some ⟨w.heap.size,0,none⟩),.int .i64 n,.slice (some ⟨sl,0,none⟩) 0 0,.pointer (some ⟨w.heap.size,1,none⟩),.slice a zs.length cap,.slice (some ⟨g,0,none⟩) zs.length c,.agg #[.int .i64 n,.slice (some ⟨g,0,none⟩) zs.length c],undef,undef,undef,undef,undef,undef,undef,undef,undef,undef,undef,undef,undef,undef,undef,undef,undef,undef,undef,undef,undef,undef,undef,undef,undef,undef,undef,undef,undef,undef,undef,undef,undef,undef,undef,undef,undef,undef,undef,undef,undef,undef],defers:=[]} X:=by
  intro ko g c sl r X hcc0 hT0;have hT:Hid (SC w X n a cap zs ko g c zs r):=hT0;have hcc:Hid _:=hcc0;clear hT0 hcc0 HB1 HQ1 HP1 c0 c1;apply hKx;clear hKx
  go_wp2_with fail
  have HZ:Hid (okL zs):=zW1 HM.out;go_loopw[4] (fun t wr=>∃k:Nat,k<=n/\t=.int .i64 k/\SC w wr n a cap zs ko g c (zn2 n zs ((k*n+0)*n+0)) r) (fun t _=>n - (intOf t).toNat)
  case atStart=>exact⟨0,Nat.zero_le _,rfl,by simpa[zn2]using hT.out⟩
  case round=>
   clear hT;obtain⟨k,hk,rfl,hs⟩:=hrel;have HS:Hid (SC w wr n a cap zs ko g c (zn2 n zs ((k*n+0)*n+0)) r):=hs;clear hs;have c0:=cell_of_row _ _ 0 _ _ _ HS.2.1;simp at c0;by_cases hlt:k<n
   ·go_wp2_with fail
    clear c0;go_loopw[5] (fun t wr=>∃x:Nat,x<=n/\t=.int .i64 x/\SC w wr n a cap zs ko g c (zn2 n zs ((k*n+x)*n+0)) r) (fun t _=>n - (intOf t).toNat)
    case atStart=>exact⟨0,Nat.zero_le _,rfl,HS.out⟩
    case round=>
     clear HS;obtain⟨x,hx,rfl,hs⟩:=hrel;have HS:Hid (SC w wr n a cap zs ko g c (zn2 n zs ((k*n+x)*n+0)) r):=hs;clear hs;have c0:=cell_of_row _ _ 0 _ _ _ HS.2.1;simp at c0;by_cases hxlt:x<n
     ·go_wp2_with fail
      clear c0;go_loopw[6] (fun t wr=>∃y:Nat,y<=n/\t=.int .i64 y/\SC w wr n a cap zs ko g c (zn2 n zs ((k*n+x)*n+y)) r) (fun t _=>n - (intOf t).toNat)
      case atStart=>exact⟨0,Nat.zero_le _,rfl,HS.out⟩
      case round=>
       clear HS;obtain⟨y,hy,rfl,hs⟩:=hrel;obtain⟨l,HLL⟩:=nmd (zn2 n zs ((k*n+x)*n+y));rw[HLL.out]at hs;have HS:Hid (SC w wr n a cap zs ko g c l r):=hs;clear hs;have c0:=cell_of_row _ _ 0 _ _ _ HS.2.1;simp at c0;by_cases hylt:y<n
       ·have d0:=cell_of_row _ _ 0 _ _ _ HS.2.2.2.1
        have d1:=cell_of_row _ _ 1 _ _ _ HS.2.2.2.1;simp at d0 d1;have HIL:Hid (za0 wr (some ⟨g,0,none⟩) l):=za0.pre (za0.of_row HS.2.2.2.2.1);have HLn:Hid (l.length=n*n):=by rw[<-HLL.out,zn5];exact HL.out
        have hok:okL l:=by rw[<-HLL.out];exact zG9 HZ.out _
        have t1:=yf1 (n:=n) hok x y;have t2:=yf1 (n:=n) hok x k;have t3:=yf1 (n:=n) hok k y;have hws:IntKind.i64.wrap (tm n l x k+tm n l k y)=tm n l x k+tm n l k y:=by
         rw[IntKind.wrap_i64];omega
        have hnn:n*n<=256:=zu2 n n (by omega) (by omega);have hxy:x*n+y<n*n:=by
         have:=Nat.mul_le_mul_right n (show x+1<=n by omega);rw[Nat.add_mul]at this;omega
        have hwm:IntKind.i64.wrap ((x:Int)*(n:Int))=(x:Int)*(n:Int):=by
         rw[IntKind.wrap_i64,<-Int.natCast_mul];have:=zu2 x n (by omega) (by omega);omega
        obtain⟨i,HIX⟩:=nmd (x*n+y);have hidx:(x:Int)*(n:Int)+(y:Int)=(i:Int):=by
         have:=HIX.out;rw[<-this];simp
        have hil:i<zs.length:=by
         have h1:=HIX.out;have h2:=HL.out;omega
        have hib:i<=256:=by have h1:=HIX.out;omega
        have hwi:IntKind.i64.wrap (i:Int)=(i:Int):=by rw[IntKind.wrap_i64];omega
        have hwi2:wrap64 (i:Int)=(i:Int):=IntWalk.wrap64_in _ (by omega);have hwm2:wrap64 ((x:Int)*(n:Int))=(x:Int)*(n:Int):=IntWalk.wrap64_in _ (by rw[<-Int.natCast_mul];have:=zu2 x n (by omega) (by omega);omega);clear hnn hxy;have cg:=cell_of_row _ _ i _ _ _ HS.2.2.2.2.1;rw[zo9 _ _ (by rw[List.length_append,HLn.out,<-HL.out];exact Nat.lt_add_right _ hil)]at cg;have fg:=frozen_of_row _ _ i _ _ HS.2.2.2.2.1;clear hok;have HTT:Hid ((0<=tm n l x y/\tm n l x y<=10000)/\(0<=tm n l x k/\tm n l x k<=10000)/\(0<=tm n l k y/\tm n l k y<=10000)):=⟨t1,t2,t3⟩;clear t1 t2 t3;have HC:∀(p q:Nat) (s:Kin wr),p<n->q<n->Calls Tryz.prog 120 #[.agg #[.int .i64 n,.slice (some ⟨g,0,none⟩) zs.length c],.int .i64 p,.int .i64 q] s.w fun e w'=>e=.returned (.int .i64 (tm n l p q))/\Below s.w.heap.size s.w w':=fun p q s hp hq=>
         yf0 n p q _ _ _ l _ (Int.ofNat_le.1 hn2) hp hq HLn.out HL.out (HIL.below s.below)
        go_wp2_with fail
        have e0:=fun s:Kin wr=>s.cell c0;have e1:=fun s:Kin wr=>s.cell d0;have e2:=fun s:Kin wr=>s.cell d1;have hkin:=Kin.there wr;refine zo0 23 (by kernel_rfl) (by kernel_rfl) ?_;simp only[List.take_succ_cons,List.take_zero,List.drop_succ_cons,List.drop_zero]
        repeat(go_big_quiet_step ((go_at_call 120;exact Kin.call (HC _ _ _ (by omega) (by omega)))))
        refine wpQuiet_nil ?_;rintro _ ⟨s,rfl⟩;have HS2:Hid (SC w s.w n a cap zs ko g c l r):=HS.below s.below;have cg2:=s.cell cg;clear e0 e1 e2 hkin HC HS HIL c0 d0 d1 cg fg hws hwm hwi hwi2 hwm2 hidx hib;generalize s.w=w2 at*;have fg2:=frozen_of_row _ _ i _ _ HS2.2.2.2.2.1;have hNX:Hid (SC w (w2.setCell ⟨g,i,none⟩ (.int .i64 (if tm n l x k+tm n l k y<tm n l x y then tm n l x k+tm n l k y else tm n l x y))) n a cap zs ko g c (zn2 n zs ((k*n+x)*n+(y+1))) r):=by
         rw[zT2 _ _ _ _ _ hxlt hylt,HLL.out];unfold yp5;rw[HIX.out];have hmn:(if tm n l x k+tm n l k y<tm n l x y then tm n l x k+tm n l k y else tm n l x y)=min (tm n l x y) (tm n l x k+tm n l k y):=by
          split<;>omega
         rw[hmn];exact HS2.set (by rw[HLn.out,<-HL.out];exact hil) _
        go_wp2;exact zz4 hylt (fun y'=>SC w _ n a cap zs ko g c (zn2 n zs ((k*n+x)*n+y')) r) hNX.out
       ·have hye:y=n:=by omega
        have hNX:Hid (SC w wr n a cap zs ko g c (zn2 n zs ((k*n+(x+1))*n+0)) r):=by
         have e:(k*n+(x+1))*n+0=(k*n+x)*n+y:=by rw[hye,<-Nat.add_assoc,Nat.add_mul (k*n+x) 1 n,Nat.one_mul,Nat.add_zero]
         rw[e,HLL.out];exact HS.out
        clear hye;go_wp2;exact zz4 hxlt (fun y'=>SC w _ n a cap zs ko g c (zn2 n zs ((k*n+y')*n+0)) r) hNX.out
     ·have hxe:x=n:=by omega
      have hNX:Hid (SC w wr n a cap zs ko g c (zn2 n zs (((k+1)*n+0)*n+0)) r):=by
       have e:((k+1)*n+0)*n+0=(k*n+x)*n+0:=by rw[hxe,Nat.add_mul k 1 n,Nat.one_mul];simp
       rw[e];exact HS.out
      clear hxe;go_wp2;exact zz4 hlt (fun y'=>SC w _ n a cap zs ko g c (zn2 n zs ((y'*n+0)*n+0)) r) hNX.out
   ·have hke:k=n:=by omega
    have hNX:Hid (SC w wr n a cap zs ko g c (clo n zs) r):=by
     have e:n*n*n=(k*n+0)*n+0:=by rw[hke];simp
     show SC w wr n a cap zs ko g c (zn2 n zs (n*n*n)) r;rw[e];exact HS.out
    have d0:=cell_of_row _ _ 0 _ _ _ HS.2.2.2.1;have d1:=cell_of_row _ _ 1 _ _ _ HS.2.2.2.1;have z0:=cell_of_row _ _ 0 _ _ _ HS.2.2.1;have z1:=cell_of_row _ _ 1 _ _ _ HS.2.2.1;simp at d0 d1 z0 z1;have f0:=fun i=>frozen_of_row _ _ i _ _ HS.2.2.1;have hgg:=HS.2.2.2.2.2.2.1;clear hke HS;go_wp2;refine bodyPost_ret (v:=.agg #[.int .i64 n,.slice (some ⟨g,0,none⟩) zs.length c]) (by simp[results,Tryz.results121,go_sem,z0,z1]) rfl ⟨g,c,r,by omega,by rw[HL.out],by rw[<-HL.out];exact hcc.out,(hNX.1.setCell (by simp<;>omega) _).setCell (by simp<;>omega) _,(heap_setCell_other _ _ _ _ (by simp<;>omega)).trans ((heap_setCell_other _ _ _ _ (by simp<;>omega)).trans hNX.2.2.2.2.1)⟩
 have hz0:0<zs.length:=by rw[HL.out];exact Nat.mul_pos (by omega) (by omega)
 have hz1:zs.length<=1048576:=by rw[HL.out];have:=zu2 n n (by omega) (by omega);omega
 have HI1:Hid (za0 w1 a zs):=HA.below HB1.out;have hw1:=za3 HP1.out;have hne1:¬w.heap.size=w1.heap.size:=by omega
 have hne2:¬w.heap.size=w1.heap.size+1:=by omega
 have hne3:¬w.heap.size=w1.heap.size+1+1:=by omega
 have hlt2:w.heap.size<w1.heap.size+1:=by omega
 have hlt3:w.heap.size<w1.heap.size+1+1:=by omega
 obtain⟨gc,HGC⟩:∃f:World->Nat,Hid ((fun W:World=>grownCap W zs.length 0 2)=f):=⟨_,rfl⟩;have HAP:Hid (∀(W:World) (ty:TypeId) (gb:Nat),za0 W a zs->(Builtin.append_ #[24,24] ty #[.slice (some ⟨gb,0,none⟩) 0 0,.slice a zs.length cap]).run Tryz.prog W=
  .ok (.slice (some ⟨W.heap.size,0,none⟩) zs.length (gc W)) (W.drew.alloc (.cells (cellsOf (zs++List.replicate (gc W - zs.length) 0)) 2))):=by
  intro W ty gb h;rw[<-HGC.out];exact zN3 W ty gb cap a zs h hz0 hz1
 have HCC:∀W,zs.length<=gc W:=fun W=>by rw[<-HGC.out];exact grownCap_ge _ _ _ _
 clear hz0 hz1
 go_region_held3 (fun W=>W.cell? ⟨w.heap.size,0,none⟩=some (.int .i64 n)/\W.cell? ⟨w.heap.size,1,none⟩=some (.slice a zs.length cap)) (exact⟨zA4 c0 (by repeat(first|with_reducible exact Below.refl _ _|with_reducible refine Below.drew ?_|with_reducible refine Below.alloc ?_ (by simp<;>omega) _|with_reducible refine Below.setCell ?_ (by simp<;>omega) _)),zA4 c1 (by repeat(first|with_reducible exact Below.refl _ _|with_reducible refine Below.drew ?_|with_reducible refine Below.alloc ?_ (by simp<;>omega) _|with_reducible refine Below.setCell ?_ (by simp<;>omega) _))⟩) ((first
  |(refine zC8 _ rfl (zw2 (.tmp 13) (.tmp 15) 24 _ _ rfl rfl rfl (HAP.out (w1.alloc (Obj.cells #[] 2)).drew _ _ (HI1.below ((Below.refl _ _).alloc (Nat.le_refl _) _).drew))) ?_)
  |(refine zC8 _ rfl (zw2 (.tmp 13) (.tmp 15) 24 _ _ rfl rfl rfl (HAP.out ((w1.alloc (Obj.cells #[] 2)).alloc (Obj.cells #[Value.int .i64 0,Value.slice none 0 0] 26)).drew _ _ (HI1.below (((Below.refl _ _).alloc (Nat.le_refl _) _).alloc (by simp) _).drew))) ?_)
  |(refine zC8 _ rfl (zw2 (.tmp 13) (.tmp 15) 24 _ _ rfl rfl rfl (HAP.out ((w1.alloc (Obj.cells #[Value.int .i64 0,Value.slice none 0 0] 26)).alloc (Obj.cells #[] 2)).drew _ _ (HI1.below (((Below.refl _ _).alloc (Nat.le_refl _) _).alloc (by simp) _).drew))) ?_)))
 ·exact key _ _ _ _ _ _ (HCC _) (SC.mk0 HB1.out HP1.out HQ1.out (zq9 _ _ _ _) (zs9 _ _ _ _) (zz3 _ _ _ _) (by omega) (by omega) (by omega))
 ·exact key _ _ _ _ _ _ (HCC _) (SC.mk0 HB1.out HP1.out HQ1.out (zq9 _ _ _ _) (zz3 _ _ _ _) (zs9 _ _ _ _) (by omega) (by omega) (by omega))
 ·exact key _ _ _ _ _ _ (HCC _) (SC.mk0 HB1.out HP1.out HQ1.out (zq9 _ _ _ _) (z92 _ _ _ _) (zs9 _ _ _ _) (by omega) (by omega) (by omega))
end Go.Proofs.YtjobhigmdaiinaaGreat
