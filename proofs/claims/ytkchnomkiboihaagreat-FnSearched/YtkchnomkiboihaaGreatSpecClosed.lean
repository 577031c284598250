import Derived.Test.YtkchnomkiboihaaGreatPack6
import Derived.Test.YtkchnomkiboihaaGreatKinTail
set_option maxHeartbeats 2000000
namespace Go.Proofs.YtkchnomkiboihaaGreat
open RowKit renaming Below→Za,Hid→Zb
theorem qD:type_of% @Go.RowKit.Below.drew:=@Go.RowKit.Below.drew
open Value renaming slice→za,int→ze
open IntKind renaming i64→zd
open Obj renaming cells→zg
open Proofs.Tryz renaming prog→zh
open Go renaming World→zi
open Go.RowKit
open Q
theorem yy6(n x y:Nat)(a:Option Addr)(dH ac:Nat)(l:List Int)(w:zi)(hn:n<=16)(hx:x<n)(hy:y<n)(hl:l.length=n*n)(aL:dH=n*n)(hA:za3 w a l):
 Calls zh 109 #[.agg #[ze zd n,za a dH ac],ze zd x,ze zd y] w fun e w'=>e=.returned (ze zd (tm n l x y))/\Za w.heap.size w w':=
 z74 n x y a dH ac l w hn hx hy hl aL hA
theorem zj4{W:zi}{b o k i:Nat}{v x:Value}(h:W.cell? ⟨b,o,none⟩=some x)(aq:b≠k):(W.setCell ⟨k,i,none⟩ v).cell? ⟨b,o,none⟩=some x:=by
 rw[World.cell?_of_block (w:=W) (xy W ⟨k,i,none⟩ b v aq)];exact h
def SC(w X:zi)(n:Nat)(a:Option Addr)(ac:Nat)(zs:List Int)(ko g c:Nat)(l r:List Int):Prop:=
 Za w.heap.size w X/\X.heap[w.heap.size]? =some (zg #[ze zd n,za a zs.length ac] 26 (0,0))/\X.heap[w.heap.size+1]? =some (zg #[ze zd 0,za none 0 0] 26 (0,0))∧
 X.heap[ko]? =some (zg #[ze zd n,za (some ⟨g,0,none⟩) zs.length c] 26 (0,0))/\X.heap[g]? =some (.cells (cellsOf (l++r)) 2 (0,0))/\w.heap.size+1<ko/\w.heap.size+1<g/\ko≠g
theorem SC.below{w X X':zi}{n:Nat}{a:Option Addr}{ac:Nat}{zs:List Int}{ko g c:Nat}{l r:List Int}(h:SC w X n a ac zs ko g c l r)(hb:Za X.heap.size X X'):SC w X' n a ac zs ko g c l r:=by
 obtain⟨h1,h2,h3,h4,h5,h6⟩:=h;exact⟨h1.trans (hb.mono h1.size),za0 hb (za2 h2) h2,za0 hb (za2 h3) h3,za0 hb (za2 h4) h4,za0 hb (za2 h5) h5,h6⟩
theorem SC.set{w X:zi}{n:Nat}{a:Option Addr}{ac:Nat}{zs:List Int}{ko g c:Nat}{l r:List Int}(h:SC w X n a ac zs ko g c l r){i:Nat}(hi:i<l.length)(v:Int):SC w (X.setCell ⟨g,i,none⟩ (ze zd v)) n a ac zs ko g c (l.set i v) r:=by
 obtain⟨h1,h2,h3,h4,h5,h6,h7,h8⟩:=h;refine⟨h1.setCell (by simp<;>omega) _,?_,?_,?_,?_,h6,h7,h8⟩
 ·rw[xy _ _ _ _ (by simp<;>omega)];exact h2
 ·rw[xy _ _ _ _ (by simp<;>omega)];exact h3
 ·rw[xy _ _ _ _ (by simpa using h8)];exact h4
 ·rw[xb _ _ _ _ _ _ h5,zJ6,List.set_append_left _ _ hi]
theorem z01(w:zi)(a b c:Obj):(((w.alloc a).alloc b).alloc c).heap[w.heap.size+1+1]? =some c:=by
 have h:=zS ((w.alloc a).alloc b) c;simpa using h
theorem z90(w:zi)(a b c:Obj):(((w.alloc a).alloc b).alloc c).heap[w.heap.size+1]? =some b:=by
 have h:=xh w a b;exact(xg _ _ (Array.getElem?_eq_some_iff.1 h).1).trans h
theorem zL8(w:zi)(a b c:Obj):(((w.alloc a).alloc b).alloc c).heap[w.heap.size]? =some a:=by
 have h:=xm w a b;exact(xg _ _ (Array.getElem?_eq_some_iff.1 h).1).trans h
theorem zx1(w:zi)(a b c:Obj):Za w.heap.size w (((w.alloc a).alloc b).alloc c).drew.drew:=
 (((zP _).alloc (by simp) _).alloc (by simp;omega) _).drew.drew
theorem SC.mk0{w w1 X:zi}{n:Nat}{a:Option Addr}{ac:Nat}{zs:List Int}{ko g c:Nat}{l r:List Int}(hB:Za w.heap.size w w1)(hP:w1.heap[w.heap.size]? =some (zg #[ze zd n,za a zs.length ac] 26 (0,0)))(hQ:w1.heap[w.heap.size+1]? =some (zg #[ze zd 0,za none 0 0] 26 (0,0)))
 (hX:Za w1.heap.size w1 X) (hk:X.heap[ko]? =some (zg #[ze zd n,za (some ⟨g,0,none⟩) zs.length c] 26 (0,0))) (hg:X.heap[g]? =some (.cells (cellsOf (l++r)) 2 (0,0))) (h1:w1.heap.size<=ko) (h2:w1.heap.size<=g) (aq:ko≠g):SC w X n a ac zs ko g c l r:=by
 have:=za2 hQ;exact⟨hB.trans (hX.mono hB.size),za0 hX (za2 hP) hP,za0 hX (za2 hQ) hQ,hk,hg,by omega,by omega,aq⟩
set_option maxRecDepth 10000 in
theorem z04(n:Nat)(a:Option Addr)(ac:Nat)(zs:List Int)(w:zi)(hA:za3 w a zs)(hm:zq9 n zs=true):
 Calls zh 110 #[.agg #[ze zd n,za a zs.length ac]] w fun e w'=>∃g c r,w.heap.size<=g/\e=.returned (.agg #[ze zd n,za (some ⟨g,0,none⟩) (n*n) c])/\n*n<=c/\Za w.heap.size w w'/\w'.heap[g]? =some (.cells (cellsOf (clo n zs++r)) 2 (0,0)):=by
 have aU:Zb (Za w.heap.size w ((w.alloc (zg #[ze zd n,za a zs.length ac] 26)).alloc (zg #[ze zd 0,za none 0 0] 26))):=(zP _).alloc (by simp) _;have HA:=za4 hA;obtain⟨aZ,cR,hl,_⟩:=zm1 hm;have HL:Zb (zs.length=n*n):=by
  rw[<-xD]at hl;show _=_;omega
 have HM:Zb _:=hm;clear hA hm hl;go_enter Tryz.func110,Tryz.ntmps110
 go_wp2_with fail
 have P0:Zb (((w.alloc (zg #[ze zd n,za a zs.length ac] 26)).alloc (zg #[ze zd 0,za none 0 0] 26)).heap[w.heap.size]? =_):=xm _ _ _;have Q0:Zb (((w.alloc (zg #[ze zd n,za a zs.length ac] 26)).alloc (zg #[ze zd 0,za none 0 0] 26)).heap[w.heap.size+1]? =_):=xh _ _ _;generalize(w.alloc _).alloc _=W at*;refine(zn6 n a ac zs _ (HA.below aU.X)).mono ?_;rintro e w1 ⟨rfl,hb⟩;rw[HM.X];obtain⟨B1,q1,z0,z1⟩:=zV2 hb aU.X Q0.X;obtain⟨_,p1,c0,c1⟩:=zV2 hb aU.X P0.X;have eD:Zb _:=B1;have gI:Zb _:=q1;have rC:Zb _:=p1;clear hb q1 p1 B1 aU Q0 P0 z0 z1
 go_wp2_with fail
 rename_i Kx hKx
 have key:∀(ko g c sl:Nat) (r:List Int) (X:zi),zs.length<=c->SC w X n a ac zs ko g c zs r->Kx {tmps:=#[.agg #[ze zd n,za a zs.length ac],.pointer (some ⟨w.heap.size,0,none⟩),.pointer (some ⟨w.heap.size+1,0,none⟩),.pointer (some ⟨ko,0,none⟩),undef,undef,undef,.agg #[ze zd n,za a zs.length ac],.bool true,.bool false,undef,.pointer (some ⟨w.heap.size,0,none⟩),ze zd n,za (some ⟨sl,0,none⟩) 0 0,.pointer (some ⟨w.heap.size,1,none⟩),za a zs.length ac,za (some ⟨g,0,none⟩) zs.length c,.agg #[ze zd n,za (some ⟨g,0,none⟩) zs.length c],undef,undef,undef,undef,undef,undef,undef,undef,undef,undef,undef,undef,undef,undef,undef,undef,undef,undef,undef,undef,undef,undef,undef,undef,undef,undef,undef,undef,undef,undef,undef,undef,undef,undef,undef,undef,undef,undef,undef,undef,undef,undef],defers:=[]} X:=by
  intro ko g c sl r X hcc0 hT0;have hT:=za4 hT0;have fC:Zb _:=hcc0;clear hT0 hcc0 eD gI rC c0 c1;apply hKx;clear hKx
  go_wp2_with fail
  have HZ:Zb (okL zs):=yp1 HM.X;go_loopw[4] (fun t wr=>∃k:Nat,k<=n/\t=ze zd k/\SC w wr n a ac zs ko g c (zt2 n zs ((k*n+0)*n+0)) r) (fun t _=>n - (intOf t).toNat)
  case atStart=>exact⟨0,xi _,rfl,by simpa[zt2]using hT.X⟩
  case round=>
   clear hT;obtain⟨k,hk,rfl,hs⟩:=hrel;have HS:=za4 hs;clear hs;have c0:=zU _ _ 0 _ _ _ HS.2.1;simp at c0;by_cases ah:k<n
   ·go_wp2_with fail
    clear c0;go_loopw[5] (fun t wr=>∃x:Nat,x<=n/\t=ze zd x/\SC w wr n a ac zs ko g c (zt2 n zs ((k*n+x)*n+0)) r) (fun t _=>n - (intOf t).toNat)
    case atStart=>exact⟨0,xi _,rfl,HS.X⟩
    case round=>
     clear HS;obtain⟨x,hx,rfl,hs⟩:=hrel;have HS:=za4 hs;clear hs;have c0:=zU _ _ 0 _ _ _ HS.2.1;simp at c0;by_cases hxlt:x<n
     ·go_wp2_with fail
      clear c0;go_loopw[6] (fun t wr=>∃y:Nat,y<=n/\t=ze zd y/\SC w wr n a ac zs ko g c (zt2 n zs ((k*n+x)*n+y)) r) (fun t _=>n - (intOf t).toNat)
      case atStart=>exact⟨0,xi _,rfl,HS.X⟩
      case round=>
       clear HS;obtain⟨y,hy,rfl,hs⟩:=hrel;obtain⟨l,ec⟩:=nmd (zt2 n zs ((k*n+x)*n+y));rw[ec.X]at hs;have HS:=za4 hs;clear hs;have c0:=zU _ _ 0 _ _ _ HS.2.1;simp at c0;by_cases hylt:y<n
       ·have d0:=zU _ _ 0 _ _ _ HS.2.2.2.1
        have d1:=zU _ _ 1 _ _ _ HS.2.2.2.1;simp at d0 d1;have oU:Zb (za3 wr (some ⟨g,0,none⟩) l):=za3.pre (za3.of_row HS.2.2.2.2.1);have FT:Zb (l.length=n*n):=by rw[<-ec.X,zr7];exact HL.X
        have aP:okL l:=by rw[<-ec.X];exact zY0 HZ.X _
        have t1:=yx4 (n:=n) aP x y;have t2:=yx4 (n:=n) aP x k;have t3:=yx4 (n:=n) aP k y;have EV:IntKind.i64.wrap (tm n l x k+tm n l k y)=tm n l x k+tm n l k y:=by
         rw[xu];omega
        have e_:n*n<=256:=z03 n n (by omega) (by omega);have fZ:x*n+y<n*n:=by
         have:=yK n (show x+1<=n by omega);rw[yT]at this;omega
        have C5:IntKind.i64.wrap ((x:Int)*(n:Int))=(x:Int)*(n:Int):=by
         rw[xu,<-xD];have:=z03 x n (by omega) (by omega);omega
        obtain⟨i,DE⟩:=nmd (x*n+y);have Et:(x:Int)*(n:Int)+(y:Int)=(i:Int):=by
         have:=DE.X;rw[<-this];simp
        have JO:i<zs.length:=by
         have h1:=DE.X;have h2:=HL.X;omega
        have pu:i<=256:=by have h1:=DE.X;omega
        have I0:IntKind.i64.wrap (i:Int)=(i:Int):=by rw[xu];omega
        have Es:wrap64 (i:Int)=(i:Int):=xB _ (by omega);have E4:wrap64 ((x:Int)*(n:Int))=(x:Int)*(n:Int):=xB _ (by rw[<-xD];have:=z03 x n (by omega) (by omega);omega);clear e_ fZ;have cg:=zU _ _ i _ _ _ HS.2.2.2.2.1;rw[zv4 _ _ (by rw[xY,FT.X,<-HL.X];exact Nat.lt_add_right _ JO)]at cg;have fg:=yZ _ _ i _ _ HS.2.2.2.2.1;clear aP;have eO:Zb ((0<=tm n l x y/\tm n l x y<=10000)/\(0<=tm n l x k/\tm n l x k<=10000)/\(0<=tm n l k y/\tm n l k y<=10000)):=⟨t1,t2,t3⟩;clear t1 t2 t3;have HC:∀(p q:Nat) (s:Kin wr),p<n->q<n->Calls zh 109 #[.agg #[ze zd n,za (some ⟨g,0,none⟩) zs.length c],ze zd p,ze zd q] s.w fun e w'=>e=.returned (ze zd (tm n l p q))/\Za s.w.heap.size s.w w':=fun p q s hp hq=>
         yy6 n p q _ _ _ l _ (Int.ofNat_le.1 cR) hp hq FT.X HL.X (oU.below s.below)
        go_wp2_with fail
        have e0:=fun s:Kin wr=>s.cell c0;have e1:=fun s:Kin wr=>s.cell d0;have e2:=fun s:Kin wr=>s.cell d1;have aV:=Kin.there wr;refine zm5 23 (by kernel_rfl) (by kernel_rfl) ?_;simp only[List.take_succ_cons,List.take_zero,List.drop_succ_cons,List.drop_zero]
        repeat(go_big_quiet_step ((go_at_call 109;exact Kin.call (HC _ _ _ (by omega) (by omega)))))
        refine xA ?_;rintro _ ⟨s,rfl⟩;have d5:=za4 (HS.below s.below);have kP:=s.cell cg;clear e0 e1 e2 aV HC HS oU c0 d0 d1 cg fg EV C5 I0 Es E4 Et pu;generalize s.w=w2 at*;have Qv:=yZ _ _ i _ _ d5.2.2.2.2.1;have rI:Zb (SC w (w2.setCell ⟨g,i,none⟩ (ze zd (if tm n l x k+tm n l k y<tm n l x y then tm n l x k+tm n l k y else tm n l x y))) n a ac zs ko g c (zt2 n zs ((k*n+x)*n+(y+1))) r):=by
         rw[yo6 _ _ _ _ _ hxlt hylt,ec.X];unfold yE2;rw[DE.X];have Dw:(if tm n l x k+tm n l k y<tm n l x y then tm n l x k+tm n l k y else tm n l x y)=min (tm n l x y) (tm n l x k+tm n l k y):=by
          split<;>omega
         rw[Dw];exact d5.set (by rw[FT.X,<-HL.X];exact JO) _
        go_wp2;exact z76 hylt (fun y'=>SC w _ n a ac zs ko g c (zt2 n zs ((k*n+x)*n+y')) r) rI.X
       ·have u':y=n:=by omega
        have rI:Zb (SC w wr n a ac zs ko g c (zt2 n zs ((k*n+(x+1))*n+0)) r):=by
         have e:(k*n+(x+1))*n+0=(k*n+x)*n+y:=by rw[u',<-yz,yT (k*n+x) 1 n,Nat.one_mul,Nat.add_zero]
         rw[e,ec.X];exact HS.X
        clear u';go_wp2;exact z76 hxlt (fun y'=>SC w _ n a ac zs ko g c (zt2 n zs ((k*n+y')*n+0)) r) rI.X
     ·have o_:x=n:=by omega
      have rI:Zb (SC w wr n a ac zs ko g c (zt2 n zs (((k+1)*n+0)*n+0)) r):=by
       have e:((k+1)*n+0)*n+0=(k*n+x)*n+0:=by rw[o_,yT k 1 n,Nat.one_mul];simp
       rw[e];exact HS.X
      clear o_;go_wp2;exact z76 ah (fun y'=>SC w _ n a ac zs ko g c (zt2 n zs ((y'*n+0)*n+0)) r) rI.X
   ·have cV:k=n:=by omega
    have rI:Zb (SC w wr n a ac zs ko g c (clo n zs) r):=by
     have e:n*n*n=(k*n+0)*n+0:=by rw[cV];simp
     show SC w wr n a ac zs ko g c (zt2 n zs (n*n*n)) r;rw[e];exact HS.X
    have d0:=zU _ _ 0 _ _ _ HS.2.2.2.1;have d1:=zU _ _ 1 _ _ _ HS.2.2.2.1;have z0:=zU _ _ 0 _ _ _ HS.2.2.1;have z1:=zU _ _ 1 _ _ _ HS.2.2.1;simp at d0 d1 z0 z1;have f0:=fun i=>yZ _ _ i _ _ HS.2.2.1;have uQ:=HS.2.2.2.2.2.2.1;clear cV HS;go_wp2;refine xe (v:=.agg #[ze zd n,za (some ⟨g,0,none⟩) zs.length c]) (by simp[results,Tryz.results110,go_sem,z0,z1]) rfl ⟨g,c,r,by omega,by rw[HL.X],by rw[<-HL.X];exact fC.X,(rI.1.setCell (by simp<;>omega) _).setCell (by simp<;>omega) _,(xy _ _ _ _ (by simp<;>omega)).trans ((xy _ _ _ _ (by simp<;>omega)).trans rI.2.2.2.2.1)⟩
 have bR:0<zs.length:=by rw[HL.X];exact Nat.mul_pos (by omega) (by omega)
 have ba:zs.length<=1048576:=by rw[HL.X];have:=z03 n n (by omega) (by omega);omega
 have Ij:=za4 (HA.below eD.X);have iR:=za2 rC.X;have NM:¬w.heap.size=w1.heap.size:=by omega
 have o6:¬w.heap.size=w1.heap.size+1:=by omega
 have Pg:¬w.heap.size=w1.heap.size+1+1:=by omega
 have Ec:w.heap.size<w1.heap.size+1:=by omega
 have Gr:w.heap.size<w1.heap.size+1+1:=by omega
 obtain⟨gc,KD⟩:∃f:zi->Nat,Zb ((fun W:zi=>grownCap W zs.length 0 2)=f):=⟨_,rfl⟩;have oK:Zb (∀(W:zi) (ty:TypeId) (gb:Nat),za3 W a zs->(Builtin.append_ #[24,24] ty #[za (some ⟨gb,0,none⟩) 0 0,za a zs.length ac]).run zh W=
  .ok (za (some ⟨W.heap.size,0,none⟩) zs.length (gc W)) (W.drew.alloc (.cells (cellsOf (zs++List.replicate (gc W - zs.length) 0)) 2))):=by
  intro W ty gb h;rw[<-KD.X];exact yh4 W ty gb ac a zs h bR ba
 have Hx:∀W,zs.length<=gc W:=fun W=>by rw[<-KD.X];exact grownCap_ge _ _ _ _
 clear bR ba
 go_region_held3 (fun W=>W.cell? ⟨w.heap.size,0,none⟩=some (ze zd n)/\W.cell? ⟨w.heap.size,1,none⟩=some (za a zs.length ac)) (exact⟨zN8 c0 (by repeat(first|with_reducible exact y5 _ _|with_reducible refine qD ?_|with_reducible refine xG ?_ (by simp<;>omega) _|with_reducible refine xq ?_ (by simp<;>omega) _)),zN8 c1 (by repeat(first|with_reducible exact y5 _ _|with_reducible refine qD ?_|with_reducible refine xG ?_ (by simp<;>omega) _|with_reducible refine xq ?_ (by simp<;>omega) _))⟩) ((first
  |(refine zO4 _ rfl (z31 (.tmp 13) (.tmp 15) 24 _ _ rfl rfl rfl (oK.X (w1.alloc (zg #[] 2)).drew _ _ (Ij.below (zP _).drew))) ?_)
  |(refine zO4 _ rfl (z31 (.tmp 13) (.tmp 15) 24 _ _ rfl rfl rfl (oK.X ((w1.alloc (zg #[] 2)).alloc (zg #[ze zd 0,za none 0 0] 26)).drew _ _ (Ij.below ((zP _).alloc (by simp) _).drew))) ?_)
  |(refine zO4 _ rfl (z31 (.tmp 13) (.tmp 15) 24 _ _ rfl rfl rfl (oK.X ((w1.alloc (zg #[ze zd 0,za none 0 0] 26)).alloc (zg #[] 2)).drew _ _ (Ij.below ((zP _).alloc (by simp) _).drew))) ?_)))
 ·exact key _ _ _ _ _ _ (Hx _) (SC.mk0 eD.X rC.X gI.X (zx1 _ _ _ _) (z01 _ _ _ _) (z90 _ _ _ _) (by omega) (by omega) (by omega))
 ·exact key _ _ _ _ _ _ (Hx _) (SC.mk0 eD.X rC.X gI.X (zx1 _ _ _ _) (z90 _ _ _ _) (z01 _ _ _ _) (by omega) (by omega) (by omega))
 ·exact key _ _ _ _ _ _ (Hx _) (SC.mk0 eD.X rC.X gI.X (zx1 _ _ _ _) (zL8 _ _ _ _) (z01 _ _ _ _) (by omega) (by omega) (by omega))
