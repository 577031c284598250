import Derived.WalkSpells
import Derived.Deep.WholeRow
set_option linter.unusedSimpArgs false
namespace Go.Proofs.YtkchnomkiboihaaGreat
open RowKit renaming Below→Za
theorem Q.Go.RowKit.Hid.X{p:Prop}(h:Go.RowKit.Hid p):p:=h
open Q
theorem zP{w:World}(o:Obj):RowKit.Below w.heap.size w (w.alloc o):=(RowKit.Below.refl _ _).alloc (Nat.le_refl _) o
theorem zQ:type_of% @List.getD_eq_getElem?_getD:=@List.getD_eq_getElem?_getD
theorem zR:type_of% @List.getElem?_eq_getElem:=@List.getElem?_eq_getElem
theorem zS:type_of% @Go.heap_alloc_new:=@Go.heap_alloc_new
theorem zT:type_of% @Nat.le_refl:=@Nat.le_refl
theorem zU:type_of% @Go.cell_of_row:=@Go.cell_of_row
theorem zV:type_of% @Go.block_lt_of_cell:=@Go.block_lt_of_cell
theorem zW:type_of% @decide_eq_true:=@decide_eq_true
theorem zX:type_of% @decide_eq_false:=@decide_eq_false
theorem zY:type_of% @Bool.and_eq_true:=@Bool.and_eq_true
theorem zZ:type_of% @of_decide_eq_true:=@of_decide_eq_true
theorem z7:type_of% @if_pos:=@if_pos
theorem yb:type_of% @Nat.zero_add:=@Nat.zero_add
theorem ye:type_of% @if_neg:=@if_neg
theorem yg:type_of% @List.getElem?_eq_none:=@List.getElem?_eq_none
theorem yh:type_of% @List.length_take:=@List.length_take
theorem yi:type_of% @List.append_assoc:=@List.append_assoc
theorem yj:type_of% @List.mem_append:=@List.mem_append
theorem ym:type_of% @List.take_length:=@List.take_length
theorem yo:type_of% @List.length_cons:=@List.length_cons
theorem yp:type_of% @List.length_filter_le:=@List.length_filter_le
theorem yq:type_of% @List.take_succ_eq_append_getElem:=@List.take_succ_eq_append_getElem
theorem yr:type_of% @List.getElem?_map:=@List.getElem?_map
theorem yt:type_of% @List.mem_cons_of_mem:=@List.mem_cons_of_mem
theorem yu:type_of% @Int.toNat_natCast:=@Int.toNat_natCast
theorem yw:type_of% @List.nil_append:=@List.nil_append
theorem yx:type_of% @List.mem_cons:=@List.mem_cons
theorem yy:type_of% @List.pairwise_iff_getElem:=@List.pairwise_iff_getElem
theorem yz:type_of% @Nat.add_assoc:=@Nat.add_assoc
theorem yA:type_of% @List.find?_range_eq_some:=@List.find?_range_eq_some
theorem yB:type_of% @List.mem_cons_self:=@List.mem_cons_self
theorem yC:type_of% @List.filter_eq_self:=@List.filter_eq_self
theorem yD:type_of% @List.filter_cons_of_pos:=@List.filter_cons_of_pos
theorem yE:type_of% @List.getElem?_append_left:=@List.getElem?_append_left
theorem yF:type_of% @List.mem_map:=@List.mem_map
theorem yG:type_of% @Option.map_some:=@Option.map_some
theorem yH:type_of% @List.foldl_append:=@List.foldl_append
theorem yI:type_of% @List.take_add_one:=@List.take_add_one
theorem yJ:type_of% @List.nodup_append:=@List.nodup_append
theorem yK:type_of% @Nat.mul_le_mul_right:=@Nat.mul_le_mul_right
theorem yL:type_of% @List.getElem?_take:=@List.getElem?_take
theorem yM:type_of% @List.foldl_cons:=@List.foldl_cons
theorem yN:type_of% @List.range_succ:=@List.range_succ
theorem yO:type_of% @List.pairwise_cons:=@List.pairwise_cons
theorem yP:type_of% @List.filter_append:=@List.filter_append
theorem yQ:type_of% @List.mem_of_mem_drop:=@List.mem_of_mem_drop
theorem yR:type_of% @Option.getD_some:=@Option.getD_some
theorem yS:type_of% @List.getElem?_append_right:=@List.getElem?_append_right
theorem yT:type_of% @Nat.add_mul:=@Nat.add_mul
theorem yU:type_of% @Nat.add_sub_cancel:=@Nat.add_sub_cancel
theorem yV:type_of% @List.find?_eq_none:=@List.find?_eq_none
theorem yW:type_of% @List.cons_append:=@List.cons_append
theorem yX:type_of% @Or.inl:=@Or.inl
theorem yY:type_of% @List.nodup_cons:=@List.nodup_cons
open IntKind renaming i64→zd
open Value renaming int→ze
open Obj renaming cells→zg
open _root_.Go renaming World→zi
open List renaming range→zt
open _root_.Go.RowKit
theorem za4{p:Prop}(h:p):Hid p:=h
theorem nmd{α:Sort _}(x:α):∃v,Hid (x=v):=⟨x,rfl⟩
theorem zz4{P:Program}{ap:Array Oper}{rest:List Oper}{o:Oper}{a:Act}{w w':zi}{Q:Exit->Act->zi->Prop}(v:Value)(uz:o.guard=none)
 (aQ:(execOp a.eval o).run P w=.ok (.value v) w') (h:wpList P ap Q rest (a.put o.dst v) w'):wpList P ap Q (o::rest) a w:=
 wpList_plain uz fun _ hK=>by unfold Oper.wp;rw[aQ];exact hK _ _ h
theorem zf4(zs:List Int)(k:Nat)(h:k<zs.length):zs.take (k+1)=zs.take k++[zs.getD k 0]:=by
 rw[yq h];simp[List.getD,h]
theorem zb6{a b:Bool}(h:a=b):Ending.returned (.bool a)=.returned (.bool b):=by rw[h]
theorem zl1{k:IntKind}{a b:Int}(h:a=b):Ending.returned (.int k a)=.returned (.int k b):=by rw[h]
def inB(n lo hi:Int):Bool:=decide (lo<=n/\n<=hi)
theorem zf0{n lo hi:Int}(h:lo<=n/\n<=hi):inB n lo hi=true:=zW h
theorem zx2{n lo hi:Int}(h:¬(lo<=n/\n<=hi)):inB n lo hi=false:=zX h
theorem zc8{n lo hi:Int}(h:inB n lo hi=true):lo<=n/\n<=hi:=zZ h
def cellsOf(l:List Int):Array Value:=(l.map (ze zd)).toArray
theorem zo6(l:List Int):(cellsOf l).size=l.length:=by simp[cellsOf]
theorem zv4(l:List Int)(i:Nat)(h:i<l.length):(cellsOf l)[i]? =some (ze zd (l.getD i 0)):=by
 simp[cellsOf,List.getD,h]
theorem zJ6(l:List Int)(i:Nat)(v:Int):(cellsOf l).setIfInBounds i (ze zd v)=cellsOf (l.set i v):=by
 simp[cellsOf,List.map_set]
theorem zn4(l:List Int):(cellsOf l).all (·.oneCell')=true:=by
 simp[cellsOf,Value.oneCell']
theorem zl4{B:Nat}{a w:zi}(h:Za B a w){g:Nat}(hg:B<=g)(cs:Array Value):Za B a (w.setRow g cs):=
 h.trans ⟨rfl,rfl,rfl,by simp,fun k hk=>setRow_other w g k cs (by omega)⟩
def za3(w:zi)(a:Option Addr)(zs:List Int):Prop:=
 ∀j,j<zs.length->∃b off,a=some ⟨b,off,none⟩/\w.cell? ⟨b,off+j,none⟩=some (ze zd (zs.getD j 0))
theorem za3.some{w:zi}{a:Option Addr}{zs:List Int}(h:za3 w a zs){j:Nat}(hj:j<zs.length):
 ∃b off,a=some ⟨b,off,none⟩/\∀j,j<zs.length->w.cell? ⟨b,off+j,none⟩=.some (ze zd (zs.getD j 0)):=by
 obtain⟨b,off,e,_⟩:=h j hj;refine⟨b,off,e,fun k hk=> ?_⟩;obtain⟨b',aR,e',hc⟩:=h k hk;rw[e]at e';simp at e';obtain⟨rfl,rfl⟩:=e';exact hc
theorem za3.below{w w':zi}{a:Option Addr}{zs:List Int}(h:za3 w a zs)(hb:Za w.heap.size w w'):za3 w' a zs:=by
 intro j hj;obtain⟨b,off,e,hc⟩:=h j hj;refine⟨b,off,e,?_⟩;have hl:=zV hc;rw[hb.cell (p:=⟨b,off+j,none⟩) hl];exact hc
theorem za3.of_row{w:zi}{g:Nat}{zs:List Int}{t:TypeId}(h:w.heap[g]? =.some (.cells (cellsOf zs) t (0,0))):za3 w (.some ⟨g,0,none⟩) zs:=by
 intro j hj;refine⟨g,0,rfl,?_⟩;rw[yb,zU _ _ _ _ _ _ h,zv4 _ _ hj]
def zq9(n:Int)(zs:List Int):Bool:=
 decide (1<=n/\n<=16/\(zs.length:Int)=n*n/\∀i,i<zs.length->0<=zs.getD i 0/\zs.getD i 0<=10000/\(i / n.toNat=i % n.toNat->zs.getD i 0=0))
theorem zm1{n:Int}{zs:List Int}(h:zq9 n zs=true):1<=n/\n<=16/\(zs.length:Int)=n*n/\∀i,i<zs.length->0<=zs.getD i 0/\zs.getD i 0<=10000/\(i / n.toNat=i % n.toNat->zs.getD i 0=0):=
 zZ h
theorem y02{n:Int}{zs:List Int}(h:1<=n/\n<=16/\(zs.length:Int)=n*n/\∀i,i<zs.length->0<=zs.getD i 0/\zs.getD i 0<=10000/\(i / n.toNat=i % n.toNat->zs.getD i 0=0)):zq9 n zs=true:=
 zW h
theorem z65{n:Int}{zs:List Int}(h:¬(1<=n/\n<=16/\(zs.length:Int)=n*n/\∀i,i<zs.length->0<=zs.getD i 0/\zs.getD i 0<=10000/\(i / n.toNat=i % n.toNat->zs.getD i 0=0))):zq9 n zs=false:=
 zX h
def zi6(n:Nat)(zs:List Int)(a b:Nat):List Int:=
 (zt 256).map fun k=>if k / 16<n/\k % 16<n/\(k / 16<a∨k / 16=a/\k % 16<b)then zs.getD (k / 16*n+k % 16) 0 else 0
theorem zk0(n:Nat)(zs:List Int)(a b:Nat):(zi6 n zs a b).length=256:=by simp[zi6]
theorem yc0(n:Nat)(zs:List Int)(a b:Nat)(ha:a<n)(hb:b<n)(hn:n<=16):
 (zi6 n zs a b).set (a*16+b) (zs.getD (a*n+b) 0)=zi6 n zs a (b+1):=by
 apply List.ext_getElem
 ·simp[zi6]
 ·intro k h1 h2
  have hk:=by simpa[zi6]using h2
  by_cases e:a*16+b=k
  ·subst e
   have e1:(a*16+b) / 16=a:=by omega
   have e2:(a*16+b) % 16=b:=by omega
   simp only[zi6,List.getElem_set,List.getElem_map,List.getElem_range,e1,e2,if_true];rw[z7 ⟨ha,hb,Or.inr ⟨trivial,by omega⟩⟩]
  ·simp only[zi6,List.getElem_set,List.getElem_map,List.getElem_range,ye e]
   have:¬(k / 16=a/\k % 16=b):=by omega
   by_cases c:k / 16<n/\k % 16<n/\(k / 16<a∨k / 16=a/\k % 16<b)
   ·rw[z7 c,z7 ⟨c.1,c.2.1,by omega⟩]
   ·rw[ye c,ye (by omega)]
theorem yp4(n:Nat)(zs:List Int)(a:Nat):zi6 n zs a n=zi6 n zs (a+1) 0:=by
 unfold zi6;apply List.map_congr_left;intro k _;by_cases c:k / 16<n/\k % 16<n/\(k / 16<a∨k / 16=a/\k % 16<n)
 ·rw[z7 c,z7 (by omega)]
 ·rw[ye c,ye (by omega)]
def zs2:List Int:=(zt 256).map fun _=>0
theorem ze5:zs2.length=256:=by simp[zs2]
theorem yd7(n:Nat)(zs:List Int):zi6 n zs 0 0=zs2:=by
 unfold zi6 zs2;apply List.map_congr_left;intro k _;rw[ye (by omega)]
def zv2(n:Int)(zs:List Int):List Int:=if zq9 n zs=true then zi6 n.toNat zs n.toNat 0 else zs2
theorem zW4{n:Nat}{zs:List Int}(h:zq9 n zs=true):zv2 n zs=zi6 n zs n 0:=by
 unfold zv2;rw[z7 h];simp
theorem zp8{n:Int}{zs:List Int}(h:zq9 n zs=false):zv2 n zs=zs2:=by
 unfold zv2;rw[h];simp
theorem z13(n:Int)(zs:List Int):(zv2 n zs).length=256:=by
 unfold zv2;split
 ·exact zk0 _ _ _ _
 ·exact ze5
def y31(n:Nat)(zs:List Int)(a b:Nat):Prop:=
 ∀i j,i<n->j<n->(i<a∨i=a/\j<b)->0<=zs.getD (i*n+j) 0/\zs.getD (i*n+j) 0<=10000/\(i=j->zs.getD (i*n+j) 0=0)
theorem y14(n:Nat)(zs:List Int):y31 n zs 0 0:=by intro i j _ _ h;omega
theorem y12{n:Nat}{zs:List Int}{a b:Nat}(h:y31 n zs a b)(h0:0<=zs.getD (a*n+b) 0)(h1:zs.getD (a*n+b) 0<=10000)(h2:a=b->zs.getD (a*n+b) 0=0):y31 n zs a (b+1):=by
 intro i j hi hj lN;by_cases e:i=a/\j=b
 ·obtain⟨rfl,rfl⟩:=e;exact⟨h0,h1,h2⟩
 ·exact h i j hi hj (by omega)
theorem y63{n:Nat}{zs:List Int}{a:Nat}(h:y31 n zs a n):y31 n zs (a+1) 0:=by
 intro i j hi hj lN;exact h i j hi hj (by omega)
theorem zz1(n i j:Nat)(hj:j<n):(i*n+j) / n=i/\(i*n+j) % n=j:=by
 have hn:0<n:=by omega
 constructor
 ·rw[Nat.add_comm,Nat.add_mul_div_right _ _ hn,Nat.div_eq_of_lt hj,yb]
 ·rw[Nat.add_comm,Nat.add_mul_mod_self_right,Nat.mod_eq_of_lt hj]
theorem yo2(n k:Nat)(h:k<n*n):k / n<n/\k % n<n/\k / n*n+k % n=k:=by
 have hn:0<n:=by rcases Nat.eq_zero_or_pos n with e|e;·subst e;simp at h
                 exact e
 exact⟨(Nat.div_lt_iff_lt_mul hn).2 h,Nat.mod_lt _ hn,by rw[Nat.mul_comm];exact Nat.div_add_mod k n⟩
theorem zX4(n:Nat)(zs:List Int)(h1:1<=n)(h2:n<=16)(hl:zs.length=n*n)(h:y31 n zs n 0):zq9 n zs=true:=by
 refine y02 ⟨by omega,by omega,by rw[hl];simp,fun i hi=> ?_⟩;obtain⟨a,b,c⟩:=yo2 n i (by omega);have:=h (i / n) (i % n) a b (yX a);rw[c]at this;simpa using this
theorem y58(n:Nat)(zs:List Int)(x y:Nat)(hx:x<n)(hy:y<n)(hl:zs.length=n*n)(h:¬(0<=zs.getD (x*n+y) 0/\zs.getD (x*n+y) 0<=10000/\(x=y->zs.getD (x*n+y) 0=0))):zq9 n zs=false:=by
 refine z65 fun⟨_,_,_,hh⟩=>h ?_;obtain⟨e1,e2⟩:=zz1 n x y hy;have ah:x*n+y<zs.length:=by
  rw[hl];have:=yK n (show x+1<=n by omega);rw[yT]at this;omega
 have:=hh (x*n+y) ah;simp only[yu,e1,e2]at this;exact this
theorem z03(a n:Nat)(h1:a<=16)(h2:n<=16):a*n<=256:=Nat.mul_le_mul h1 h2
theorem y78(n:Nat)(zs:List Int)(h1:1<=n)(h2:n<=16)(hl:zs.length=n*n)(h:∀i,i<n*n->0<=zs.getD i 0/\zs.getD i 0<=10000/\(i / n=i % n->zs.getD i 0=0)):zq9 n zs=true:=
 y02 ⟨by omega,by omega,by rw[hl];simp,fun i hi=>by rw[yu];exact h i (by omega)⟩
theorem yt3(n:Nat)(zs:List Int)(hl:zs.length=n*n)(k:Nat)(hk:k<n*n)(h:¬(0<=zs.getD k 0/\zs.getD k 0<=10000/\(k / n=k % n->zs.getD k 0=0))):zq9 n zs=false:=
 z65 fun⟨_,_,_,hh⟩=>h (by have:=hh k (by omega);rwa [yu]at this)
theorem za0{B:Nat}{W w1:zi}(hb:Za B W w1){k:Nat}{o:Obj}(hk:k<B)(h:W.heap[k]? =some o):w1.heap[k]? =some o:=by
 rw[hb.block k hk];exact h
theorem za2{W:zi}{k:Nat}{o:Obj}(h:W.heap[k]? =some o):k<W.heap.size:=by
 by_cases ah:k<W.heap.size
 ·exact ah
 ·have hn:W.heap[k]? =none:=by simp;omega
  rw[hn]at h;cases h
theorem zV2{w w1 w2:zi}{k:Nat}{c0 c1:Value}{T:TypeId}(hb:Za w1.heap.size w1 w2)(hB:Za w.heap.size w w1)(hr:w1.heap[k]? =some (zg #[c0,c1] T (0,0))):
 Za w.heap.size w w2/\w2.heap[k]? =some (zg #[c0,c1] T (0,0))/\w2.cell? ⟨k,0,none⟩=some c0/\w2.cell? ⟨k,1,none⟩=some c1:=by
 have r:=za0 hb (za2 hr) hr;refine⟨hB.trans (hb.mono hB.size),r,?_,?_⟩
 ·rw[zU _ _ 0 _ _ _ r];simp
 ·rw[zU _ _ 1 _ _ _ r];simp
theorem z26{a b:List Int}{p q:Bool}(h:a=b)(k:p=q):Ending.returned (.tuple #[.agg (cellsOf a),.bool p])=Ending.returned (.tuple #[.agg (cellsOf b),.bool q]):=by rw[h,k]
def tm(n:Nat)(zs:List Int)(x y:Nat):Int:=zs.getD (x*n+y) 0
def og6(zs:List Int)(i f:Nat):Int:=zs.getD (i*6+f) 0
theorem zu5{w:zi}{b off:Nat}{zs:List Int}{n:Nat}(h:∀j,j<zs.length->w.cell? ⟨b,off+j,none⟩=some (ze zd (zs.getD j 0)))(hl:zs.length=n*6)(i:Nat)(hi:i<n):
 w.cell? ⟨b,off+i*6,none⟩=some (ze zd (og6 zs i 0))/\w.cell? ⟨b,off+i*6+1,none⟩=some (ze zd (og6 zs i 1))/\w.cell? ⟨b,off+i*6+2,none⟩=some (ze zd (og6 zs i 2))/\w.cell? ⟨b,off+i*6+3,none⟩=some (ze zd (og6 zs i 3))/\w.cell? ⟨b,off+i*6+4,none⟩=some (ze zd (og6 zs i 4))/\w.cell? ⟨b,off+i*6+5,none⟩=some (ze zd (og6 zs i 5)):=by
 have hb:i*6+6<=zs.length:=by omega
 refine⟨?_,?_,?_,?_,?_,?_⟩
 ·exact h (i*6) (by omega)
 ·rw[yz];exact h (i*6+1) (by omega)
 ·rw[yz];exact h (i*6+2) (by omega)
 ·rw[yz];exact h (i*6+3) (by omega)
 ·rw[yz];exact h (i*6+4) (by omega)
 ·rw[yz];exact h (i*6+5) (by omega)
def og5(zs:List Int)(i f:Nat):Int:=zs.getD (i*5+f) 0
theorem zI1{w:zi}{b off:Nat}{zs:List Int}{n:Nat}(h:∀j,j<zs.length->w.cell? ⟨b,off+j,none⟩=some (ze zd (zs.getD j 0)))(hl:zs.length=n*5)(i:Nat)(hi:i<n):
 w.cell? ⟨b,off+i*5,none⟩=some (ze zd (og5 zs i 0))/\w.cell? ⟨b,off+i*5+1,none⟩=some (ze zd (og5 zs i 1))/\w.cell? ⟨b,off+i*5+2,none⟩=some (ze zd (og5 zs i 2))/\w.cell? ⟨b,off+i*5+3,none⟩=some (ze zd (og5 zs i 3))/\w.cell? ⟨b,off+i*5+4,none⟩=some (ze zd (og5 zs i 4)):=by
 have hb:i*5+5<=zs.length:=by omega
 refine⟨?_,?_,?_,?_,?_⟩
 ·exact h (i*5) (by omega)
 ·rw[yz];exact h (i*5+1) (by omega)
 ·rw[yz];exact h (i*5+2) (by omega)
 ·rw[yz];exact h (i*5+3) (by omega)
 ·rw[yz];exact h (i*5+4) (by omega)
def zh9(f t:Int):Bool:=inB f 0 1000000&&inB t f 1000000
theorem ys5{f t:Int}(h1:0<=f)(h2:f<=t)(h3:t<=1000000):zh9 f t=true:=by
 unfold zh9;rw[zf0 (by omega),zf0 (by omega)];rfl
theorem z68{f t:Int}(h:¬(0<=f/\f<=t/\t<=1000000)):zh9 f t=false:=by
 unfold zh9;cases h1:inB f 0 1000000
 ·rfl
 ·cases h2:inB t f 1000000
  ·rfl
  ·have:=zc8 h1;have:=zc8 h2;omega
def zt8(n o1 o2 o3 o4 o5:Int):Bool:=inB o1 0 (n - 1)&&inB o2 0 1000&&zh9 o3 o4&&inB o5 0 10000
def zG3(n o0 o1 o2 o3 o4 o5:Int):Bool:=inB o0 1 1000000000&&zt8 n o1 o2 o3 o4 o5
def zx4(n o1 o2 o3 o4:Int):Bool:=inB o1 0 (n - 1)&&inB o2 0 1000&&zh9 o3 o4
def zL5(n o0 o1 o2 o3 o4:Int):Bool:=inB o0 1 1000000000&&zx4 n o1 o2 o3 o4
def zw2(n:Int)(zs:List Int)(k:Nat):Prop:=∀i,i<k->zG3 n (og6 zs i 0) (og6 zs i 1) (og6 zs i 2) (og6 zs i 3) (og6 zs i 4) (og6 zs i 5)=true/\(0<i->og6 zs (i - 1) 0<og6 zs i 0)
def zs7(n:Int)(zs:List Int)(k:Nat):Bool:=decide (k<=12/\∀i,i<k->zG3 n (og6 zs i 0) (og6 zs i 1) (og6 zs i 2) (og6 zs i 3) (og6 zs i 4) (og6 zs i 5)=true/\(0<i->og6 zs (i - 1) 0<og6 zs i 0))
theorem zV4{n:Int}{zs:List Int}{k:Nat}(h:k<=12)(ht:zw2 n zs k):zs7 n zs k=true:=by
 unfold zs7;exact zW ⟨h,ht⟩
theorem zd9{n:Int}{zs:List Int}{k:Nat}(h:zs7 n zs k=true):k<=12/\zw2 n zs k:=by
 unfold zs7 at h;have:=zZ h;exact⟨this.1,this.2⟩
theorem yn4{n:Int}{zs:List Int}{k:Nat}(h:¬k<=12):zs7 n zs k=false:=zX fun x=>h x.1
theorem z62{n:Int}{zs:List Int}{m k:Nat}(hk:k<m)(h:¬(zG3 n (og6 zs k 0) (og6 zs k 1) (og6 zs k 2) (og6 zs k 3) (og6 zs k 4) (og6 zs k 5)=true/\(0<k->og6 zs (k - 1) 0<og6 zs k 0))):zs7 n zs m=false:=zX fun x=>h (x.2 k hk)
theorem zG9(n:Int)(zs:List Int):zw2 n zs 0:=fun i hi=>by omega
theorem z21{n:Int}{zs:List Int}{k:Nat}(h:zw2 n zs k)(h1:zG3 n (og6 zs k 0) (og6 zs k 1) (og6 zs k 2) (og6 zs k 3) (og6 zs k 4) (og6 zs k 5)=true)(h2:0<k->og6 zs (k - 1) 0<og6 zs k 0):zw2 n zs (k+1):=by
 intro i hi;by_cases e:i=k
 ·subst e;exact⟨h1,h2⟩
 ·exact h i (by omega)
def zo0(zs:List Int):Nat->Int
 |0=>0
 |k+1=>og6 zs k 0
theorem zI2{n:Int}{zs:List Int}{k:Nat}(h:zw2 n zs k):0<=zo0 zs k/\zo0 zs k<=1000000000:=by
 cases k with
 |zero=>simp[zo0]
 |succ k=>
  have h1:=(h k (by omega)).1;unfold zG3 at h1;rw[zY]at h1;have:=zc8 h1.1;show 0<=og6 zs k 0/\og6 zs k 0<=1000000000;omega
theorem yC4{n:Int}{zs:List Int}{k:Nat}(h:zw2 n zs k)(h1:inB (og6 zs k 0) (zo0 zs k+1) 1000000000=true)(h2:zt8 n (og6 zs k 1) (og6 zs k 2) (og6 zs k 3) (og6 zs k 4) (og6 zs k 5)=true):
 zG3 n (og6 zs k 0) (og6 zs k 1) (og6 zs k 2) (og6 zs k 3) (og6 zs k 4) (og6 zs k 5)=true/\(0<k->og6 zs (k - 1) 0<og6 zs k 0):=by
 have hb:=zI2 h;have hi:=zc8 h1;refine⟨?_,fun hk=> ?_⟩
 ·unfold zG3;rw[zf0 (by omega),h2];rfl
 ·obtain⟨j,rfl⟩:∃j,k=j+1:=⟨k - 1,by omega⟩
  simp only[zo0]at hi;simp only[yU];omega
theorem zL4{n:Int}{zs:List Int}{k:Nat}(h:¬(inB (og6 zs k 0) (zo0 zs k+1) 1000000000=true/\zt8 n (og6 zs k 1) (og6 zs k 2) (og6 zs k 3) (og6 zs k 4) (og6 zs k 5)=true)):
 ¬(zG3 n (og6 zs k 0) (og6 zs k 1) (og6 zs k 2) (og6 zs k 3) (og6 zs k 4) (og6 zs k 5)=true/\(0<k->og6 zs (k - 1) 0<og6 zs k 0)):=by
 rintro⟨h1,h2⟩;unfold zG3 at h1;rw[zY]at h1;refine h ⟨zf0 ?_,h1.2⟩;have hi:=zc8 h1.1;cases k with
 |zero=>simp only[zo0];omega
 |succ j=>
  have:=h2 (by omega);simp only[yU]at this;simp only[zo0];omega
def zw1(n:Int)(zs:List Int)(k:Nat):Prop:=∀i,i<k->zL5 n (og5 zs i 0) (og5 zs i 1) (og5 zs i 2) (og5 zs i 3) (og5 zs i 4)=true/\(0<i->og5 zs (i - 1) 0<og5 zs i 0)
def zx9(n:Int)(zs:List Int)(k:Nat):Bool:=decide (k<=5/\∀i,i<k->zL5 n (og5 zs i 0) (og5 zs i 1) (og5 zs i 2) (og5 zs i 3) (og5 zs i 4)=true/\(0<i->og5 zs (i - 1) 0<og5 zs i 0))
theorem yb1{n:Int}{zs:List Int}{k:Nat}(h:k<=5)(ht:zw1 n zs k):zx9 n zs k=true:=by
 unfold zx9;exact zW ⟨h,ht⟩
theorem zf2{n:Int}{zs:List Int}{k:Nat}(h:zx9 n zs k=true):k<=5/\zw1 n zs k:=by
 unfold zx9 at h;have:=zZ h;exact⟨this.1,this.2⟩
theorem yp2{n:Int}{zs:List Int}{k:Nat}(h:¬k<=5):zx9 n zs k=false:=zX fun x=>h x.1
theorem z53{n:Int}{zs:List Int}{m k:Nat}(hk:k<m)(h:¬(zL5 n (og5 zs k 0) (og5 zs k 1) (og5 zs k 2) (og5 zs k 3) (og5 zs k 4)=true/\(0<k->og5 zs (k - 1) 0<og5 zs k 0))):zx9 n zs m=false:=zX fun x=>h (x.2 k hk)
theorem zF0(n:Int)(zs:List Int):zw1 n zs 0:=fun i hi=>by omega
theorem z15{n:Int}{zs:List Int}{k:Nat}(h:zw1 n zs k)(h1:zL5 n (og5 zs k 0) (og5 zs k 1) (og5 zs k 2) (og5 zs k 3) (og5 zs k 4)=true)(h2:0<k->og5 zs (k - 1) 0<og5 zs k 0):zw1 n zs (k+1):=by
 intro i hi;by_cases e:i=k
 ·subst e;exact⟨h1,h2⟩
 ·exact h i (by omega)
def zn9(zs:List Int):Nat->Int
 |0=>0
 |k+1=>og5 zs k 0
theorem zH1{n:Int}{zs:List Int}{k:Nat}(h:zw1 n zs k):0<=zn9 zs k/\zn9 zs k<=1000000000:=by
 cases k with
 |zero=>simp[zn9]
 |succ k=>
  have h1:=(h k (by omega)).1;unfold zL5 at h1;rw[zY]at h1;have:=zc8 h1.1;show 0<=og5 zs k 0/\og5 zs k 0<=1000000000;omega
theorem yG6{n:Int}{zs:List Int}{k:Nat}(h:zw1 n zs k)(h1:inB (og5 zs k 0) (zn9 zs k+1) 1000000000=true)(h2:zx4 n (og5 zs k 1) (og5 zs k 2) (og5 zs k 3) (og5 zs k 4)=true):
 zL5 n (og5 zs k 0) (og5 zs k 1) (og5 zs k 2) (og5 zs k 3) (og5 zs k 4)=true/\(0<k->og5 zs (k - 1) 0<og5 zs k 0):=by
 have hb:=zH1 h;have hi:=zc8 h1;refine⟨?_,fun hk=> ?_⟩
 ·unfold zL5;rw[zf0 (by omega),h2];rfl
 ·obtain⟨j,rfl⟩:∃j,k=j+1:=⟨k - 1,by omega⟩
  simp only[zn9]at hi;simp only[yU];omega
theorem zO2{n:Int}{zs:List Int}{k:Nat}(h:¬(inB (og5 zs k 0) (zn9 zs k+1) 1000000000=true/\zx4 n (og5 zs k 1) (og5 zs k 2) (og5 zs k 3) (og5 zs k 4)=true)):
 ¬(zL5 n (og5 zs k 0) (og5 zs k 1) (og5 zs k 2) (og5 zs k 3) (og5 zs k 4)=true/\(0<k->og5 zs (k - 1) 0<og5 zs k 0)):=by
 rintro⟨h1,h2⟩;unfold zL5 at h1;rw[zY]at h1;refine h ⟨zf0 ?_,h1.2⟩;have hi:=zc8 h1.1;cases k with
 |zero=>simp only[zn9];omega
 |succ j=>
  have:=h2 (by omega);simp only[yU]at this;simp only[zn9];omega
def zd0(n:Int)(zs os vs:List Int)(ko kv:Nat)(fine:Int):Bool:=zq9 n zs&&zs7 n os ko&&zx9 n vs kv&&inB fine 0 1000000
theorem y90{w w1:zi}{c0 c1 c2 c3 c4:Value}{T:TypeId}(hb:Za (w.alloc (zg #[c0,c1,c2,c3,c4] T)).heap.size (w.alloc (zg #[c0,c1,c2,c3,c4] T)) w1):
 Za w.heap.size w w1/\w1.heap[w.heap.size]? =some (zg #[c0,c1,c2,c3,c4] T (0,0)):=
 ⟨(zP _).trans (hb.mono (by simp)),za0 hb (by simp) (zS _ _)⟩
theorem z37{w w1 w2:zi}{k:Nat}{o:Obj}(hb:Za w1.heap.size w1 w2)(hB:Za w.heap.size w w1)(hr:w1.heap[k]? =some o):
 Za w.heap.size w w2/\w2.heap[k]? =some o:=⟨hB.trans (hb.mono hB.size),za0 hb (za2 hr) hr⟩
theorem za7{w:zi}{k:Nat}{c0 c1 c2 c3 c4:Value}{T:TypeId}(r:w.heap[k]? =some (zg #[c0,c1,c2,c3,c4] T (0,0))):
 w.cell? ⟨k,0,none⟩=some c0/\w.cell? ⟨k,1,none⟩=some c1/\w.cell? ⟨k,2,none⟩=some c2/\w.cell? ⟨k,3,none⟩=some c3/\w.cell? ⟨k,4,none⟩=some c4:=by
 refine⟨?_,?_,?_,?_,?_⟩
 ·rw[zU _ _ 0 _ _ _ r];simp
 ·rw[zU _ _ 1 _ _ _ r];simp
 ·rw[zU _ _ 2 _ _ _ r];simp
 ·rw[zU _ _ 3 _ _ _ r];simp
 ·rw[zU _ _ 4 _ _ _ r];simp
theorem zi0{w:zi}{k:Nat}{c0 c1 c2 c3 c4 c5:Value}{T:TypeId}(r:w.heap[k]? =some (zg #[c0,c1,c2,c3,c4,c5] T (0,0))):
 w.cell? ⟨k,0,none⟩=some c0/\w.cell? ⟨k,1,none⟩=some c1/\w.cell? ⟨k,2,none⟩=some c2/\w.cell? ⟨k,3,none⟩=some c3/\w.cell? ⟨k,4,none⟩=some c4/\w.cell? ⟨k,5,none⟩=some c5:=by
 refine⟨?_,?_,?_,?_,?_,?_⟩
 ·rw[zU _ _ 0 _ _ _ r];simp
 ·rw[zU _ _ 1 _ _ _ r];simp
 ·rw[zU _ _ 2 _ _ _ r];simp
 ·rw[zU _ _ 3 _ _ _ r];simp
 ·rw[zU _ _ 4 _ _ _ r];simp
 ·rw[zU _ _ 5 _ _ _ r];simp
end Go.Proofs.YtkchnomkiboihaaGreat
namespace Go.Proofs.YtkchnomkiboihaaGreat
open List renaming range→zt
open Q
def zU0(zs:List Int)(n:Nat)(id:Int):Option Nat:=(zt n).find? fun i=>og6 zs i 0==id
def zl8(zs:List Int)(n:Nat)(id:Int):Bool:=(zU0 zs n id).isSome
def zd1(zs:List Int)(n:Nat)(id:Int)(f:Nat):Int:=match zU0 zs n id with
 |some i=>og6 zs i f
 |none=>0
theorem yw9{zs:List Int}{n:Nat}{id:Int}{i:Nat}(hi:i<n)(h:og6 zs i 0=id)(a_:∀j,j<i->og6 zs j 0≠id):zU0 zs n id=some i:=by
 unfold zU0;rw[yA];exact⟨by simp[h],by simpa using hi,fun j hj=>by simpa using a_ j hj⟩
theorem zZ7{zs:List Int}{n:Nat}{id:Int}(a_:∀j,j<n->og6 zs j 0≠id):zU0 zs n id=none:=by
 unfold zU0;rw[yV];intro j hj;have:=a_ j (by simpa using hj);simpa using this
theorem yl4{zs:List Int}{n:Nat}{id:Int}{i:Nat}(h:zU0 zs n id=some i)(f:Nat):zd1 zs n id f=og6 zs i f:=by unfold zd1;rw[h]
theorem zN3{zs:List Int}{n:Nat}{id:Int}(h:zU0 zs n id=none)(f:Nat):zd1 zs n id f=0:=by unfold zd1;rw[h]
theorem yl8{zs:List Int}{n:Nat}{id:Int}{i:Nat}(h:zU0 zs n id=some i):zl8 zs n id=true:=by unfold zl8;rw[h];rfl
theorem zN4{zs:List Int}{n:Nat}{id:Int}(h:zU0 zs n id=none):zl8 zs n id=false:=by unfold zl8;rw[h];rfl
def yb2(zs:List Int)(n:Nat)(id:Int):Option Nat:=(zt n).find? fun i=>og5 zs i 0==id
def fnd5T(zs:List Int)(n:Nat)(id:Int):Bool:=(yb2 zs n id).isSome
def zc4(zs:List Int)(n:Nat)(id:Int)(f:Nat):Int:=match yb2 zs n id with
 |some i=>og5 zs i f
 |none=>0
theorem yw7{zs:List Int}{n:Nat}{id:Int}{i:Nat}(hi:i<n)(h:og5 zs i 0=id)(a_:∀j,j<i->og5 zs j 0≠id):yb2 zs n id=some i:=by
 unfold yb2;rw[yA];exact⟨by simp[h],by simpa using hi,fun j hj=>by simpa using a_ j hj⟩
theorem zZ8{zs:List Int}{n:Nat}{id:Int}(a_:∀j,j<n->og5 zs j 0≠id):yb2 zs n id=none:=by
 unfold yb2;rw[yV];intro j hj;have:=a_ j (by simpa using hj);simpa using this
theorem yl1{zs:List Int}{n:Nat}{id:Int}{i:Nat}(h:yb2 zs n id=some i)(f:Nat):zc4 zs n id f=og5 zs i f:=by unfold zc4;rw[h]
theorem zK7{zs:List Int}{n:Nat}{id:Int}(h:yb2 zs n id=none)(f:Nat):zc4 zs n id f=0:=by unfold zc4;rw[h]
theorem yk7{zs:List Int}{n:Nat}{id:Int}{i:Nat}(h:yb2 zs n id=some i):fnd5T zs n id=true:=by unfold fnd5T;rw[h];rfl
theorem zM9{zs:List Int}{n:Nat}{id:Int}(h:yb2 zs n id=none):fnd5T zs n id=false:=by unfold fnd5T;rw[h];rfl
end Go.Proofs.YtkchnomkiboihaaGreat
namespace Go.Proofs.YtkchnomkiboihaaGreat
open List renaming range→zt
open Go.RowKit
open Q
def zn0(os:List Int)(ko:Nat)(ids:List Int):Nat->Int
 |0=>0
 |k+1=>zn0 os ko ids k+zd1 os ko (ids.getD k 0) 2
theorem z92{n:Int}{os:List Int}{ko:Nat}(h:zs7 n os ko=true)(id:Int):0<=zd1 os ko id 2/\zd1 os ko id 2<=1000:=by
 unfold zd1;cases hf:zU0 os ko id with
 |none=>simp
 |some i=>
  have hi:i<ko:=by
   unfold zU0 at hf;rw[yA]at hf;have:=hf.2.1;simpa using this
  have:=((zd9 h).2 i hi).1;unfold zG3 zt8 at this;simp only[zY]at this;have:=zc8 this.2.1.1.2;simpa using this
theorem zM4{n:Int}{zs os vs:List Int}{ko kv:Nat}{fine:Int}(h:zd0 n zs os vs ko kv fine=true):zs7 n os ko=true:=by
 unfold zd0 at h;simp only[zY]at h;exact h.1.1.2
theorem zI7{n:Int}{os:List Int}{ko:Nat}(h:zs7 n os ko=true)(ids:List Int):∀k,0<=zn0 os ko ids k/\zn0 os ko ids k<=1000*k
 |0=>by simp[zn0]
 |k+1=>by
  have ih:=zI7 h ids k;have:=z92 h (ids.getD k 0);unfold zn0;omega
def z02(ids:List Int)(k:Nat)(id:Int):Bool:=(zt k).any fun j=>ids.getD j 0==id
theorem zF9{ids:List Int}{k j:Nat}{id:Int}(hj:j<k)(h:ids.getD j 0=id):z02 ids k id=true:=by
 unfold z02;rw[List.any_eq_true];exact⟨j,by simpa using hj,by rw[h];simp⟩
theorem zD8{ids:List Int}{k:Nat}{id:Int}(h:∀j,j<k->ids.getD j 0≠id):z02 ids k id=false:=by
 unfold z02;rw[List.any_eq_false];intro j hj;have:=h j (by simpa using hj);simpa using this
def zW7(os:List Int)(ko:Nat)(ids:List Int)(k:Nat):Bool:=zl8 os ko (ids.getD k 0)&& !z02 ids k (ids.getD k 0)
def zu4(os:List Int)(ko:Nat)(ids:List Int)(k:Nat):Prop:=∀j,j<k->zW7 os ko ids j=true
def zp2(os:List Int)(ko:Nat)(ids:List Int):Bool:=decide (ids.length<=12/\∀j,j<ids.length->zW7 os ko ids j=true)
theorem z71{os:List Int}{ko:Nat}{ids:List Int}(h:ids.length<=12)(ht:zu4 os ko ids ids.length):zp2 os ko ids=true:=by
 unfold zp2;exact zW ⟨h,ht⟩
theorem zg3{os:List Int}{ko:Nat}{ids:List Int}(h:zp2 os ko ids=true):ids.length<=12/\zu4 os ko ids ids.length:=by
 unfold zp2 at h;have:=zZ h;exact⟨this.1,this.2⟩
theorem zF4{os:List Int}{ko:Nat}{ids:List Int}(h:¬ids.length<=12):zp2 os ko ids=false:=zX fun x=>h x.1
theorem zz6{os:List Int}{ko:Nat}{ids:List Int}{k:Nat}(hk:k<ids.length)(h:zW7 os ko ids k=false):zp2 os ko ids=false:=zX fun x=>by
 have:=x.2 k hk;rw[h]at this;cases this
theorem zA2(os:List Int)(ko:Nat)(ids:List Int):zu4 os ko ids 0:=fun j hj=>by omega
theorem zA1{os:List Int}{ko:Nat}{ids:List Int}{k:Nat}(h:zu4 os ko ids k)(h1:zW7 os ko ids k=true):zu4 os ko ids (k+1):=by
 intro j hj;by_cases e:j=k
 ·rw[e];exact h1
 ·exact h j (by omega)
theorem zz7{os:List Int}{ko:Nat}{ids:List Int}{k:Nat}{id:Int}(cz:ids.getD k 0=id){a b:Bool}(h1:zl8 os ko id=a)(h2:z02 ids k id=b):zW7 os ko ids k=(a&& !b):=by
 unfold zW7;rw[cz,h1,h2]
def zm7(c:Bool)(vs os:List Int)(kv ko:Nat)(ab:Int)(ids:List Int):Int:=
 if c=false then 1 else if fnd5T vs kv ab=false then 2 else if zp2 os ko ids=false then 3 else if zc4 vs kv ab 2<zn0 os ko ids ids.length then 4 else 0
theorem yD6{c:Bool}{vs os:List Int}{kv ko:Nat}{ab:Int}{ids:List Int}(h:c=false):zm7 c vs os kv ko ab ids=1:=by
 unfold zm7;rw[z7 h]
theorem yx7{c:Bool}{vs os:List Int}{kv ko:Nat}{ab:Int}{ids:List Int}(h:c=true)(h2:fnd5T vs kv ab=false):zm7 c vs os kv ko ab ids=2:=by
 unfold zm7;rw[ye (by simp[h]),z7 h2]
theorem zT9{c:Bool}{vs os:List Int}{kv ko:Nat}{ab:Int}{ids:List Int}(h:c=true)(h2:fnd5T vs kv ab=true)(h3:zp2 os ko ids=false):zm7 c vs os kv ko ab ids=3:=by
 unfold zm7;rw[ye (by simp[h]),ye (by simp[h2]),z7 h3]
theorem y22{c:Bool}{vs os:List Int}{kv ko:Nat}{ab:Int}{ids:List Int}(h:c=true)(h2:fnd5T vs kv ab=true)(h3:zp2 os ko ids=true)(h4:zc4 vs kv ab 2<zn0 os ko ids ids.length):zm7 c vs os kv ko ab ids=4:=by
 unfold zm7;rw[ye (by simp[h]),ye (by simp[h2]),ye (by simp[h3]),z7 h4]
theorem yt9{c:Bool}{vs os:List Int}{kv ko:Nat}{ab:Int}{ids:List Int}(h:c=true)(h2:fnd5T vs kv ab=true)(h3:zp2 os ko ids=true)(h4:¬zc4 vs kv ab 2<zn0 os ko ids ids.length):zm7 c vs os kv ko ab ids=0:=by
 unfold zm7;rw[ye (by simp[h]),ye (by simp[h2]),ye (by simp[h3]),ye h4]
theorem zf3{c:Bool}{vs os:List Int}{kv ko:Nat}{ab:Int}{ids:List Int}(h:zm7 c vs os kv ko ab ids=0):c=true/\fnd5T vs kv ab=true/\zp2 os ko ids=true:=by
 unfold zm7 at h;by_cases c1:c=false
 ·rw[z7 c1]at h;omega
 ·rw[ye c1]at h
  by_cases c2:fnd5T vs kv ab=false
  ·rw[z7 c2]at h;omega
  ·rw[ye c2]at h
   by_cases c3:zp2 os ko ids=false
   ·rw[z7 c3]at h;omega
   ·exact⟨by simpa using c1,by simpa using c2,by simpa using c3⟩
def zd6(os:List Int)(ko:Nat)(ids:List Int):List Int:=(zt (ids.length*6)).map fun j=>zd1 os ko (ids.getD (j / 6) 0) (j % 6)
theorem zj2(os:List Int)(ko:Nat)(ids:List Int):(zd6 os ko ids).length=ids.length*6:=by simp[zd6]
theorem zj8(os:List Int)(ko:Nat)(ids:List Int){k f:Nat}(hk:k<ids.length)(hf:f<6):og6 (zd6 os ko ids) k f=zd1 os ko (ids.getD k 0) f:=by
 unfold og6 zd6;have hj:k*6+f<ids.length*6:=by omega
 have e1:(k*6+f) / 6=k:=by omega
 have e2:(k*6+f) % 6=f:=by omega
 rw[List.getD,yr,List.getElem?_range hj];simp only[yG,yR,e1,e2]
theorem zQ1{n:Int}{os:List Int}{ko:Nat}(h:zs7 n os ko=true)(hn:1<=n)(id:Int):
 (0<=zd1 os ko id 1/\zd1 os ko id 1<n)/\(0<=zd1 os ko id 2/\zd1 os ko id 2<=1000)/\(0<=zd1 os ko id 3/\zd1 os ko id 3<=1000000)/\(0<=zd1 os ko id 4/\zd1 os ko id 4<=1000000)/\(0<=zd1 os ko id 5/\zd1 os ko id 5<=10000):=by
 unfold zd1;cases hf:zU0 os ko id with
 |none=>simp;omega
 |some i=>
  have hi:i<ko:=by
   unfold zU0 at hf;rw[yA]at hf;have:=hf.2.1;simpa using this
  have:=((zd9 h).2 i hi).1;unfold zG3 zt8 zh9 at this;simp only[zY]at this;obtain⟨_,⟨⟨h1,h2⟩,h3,h4⟩,h5⟩:=this;have h1:=zc8 h1;have h2:=zc8 h2;have h3:=zc8 h3;have h4:=zc8 h4;have h5:=zc8 h5;simp only[];omega
theorem zr5{n:Int}{vs:List Int}{kv:Nat}(h:zx9 n vs kv=true)(hn:1<=n)(id:Int):
 (0<=zc4 vs kv id 1/\zc4 vs kv id 1<n)/\(0<=zc4 vs kv id 2/\zc4 vs kv id 2<=1000)/\(0<=zc4 vs kv id 3/\zc4 vs kv id 3<=1000000)/\(0<=zc4 vs kv id 4/\zc4 vs kv id 4<=1000000):=by
 unfold zc4;cases hf:yb2 vs kv id with
 |none=>simp;omega
 |some i=>
  have hi:i<kv:=by
   unfold yb2 at hf;rw[yA]at hf;have:=hf.2.1;simpa using this
  have:=((zf2 h).2 i hi).1;unfold zL5 zx4 zh9 at this;simp only[zY]at this;obtain⟨_,⟨h1,h2⟩,h3,h4⟩:=this;have h1:=zc8 h1;have h2:=zc8 h2;have h3:=zc8 h3;have h4:=zc8 h4;simp only[];omega
theorem zb2{n:Int}{zs os vs:List Int}{ko kv:Nat}{fine:Int}(h:zd0 n zs os vs ko kv fine=true):zq9 n zs=true/\zs7 n os ko=true/\zx9 n vs kv=true/\1<=n/\0<=fine/\fine<=1000000:=by
 unfold zd0 at h;simp only[zY]at h;exact⟨h.1.1.1,h.1.1.2,h.1.2,(zm1 h.1.1.1).1,zc8 h.2⟩
def tmI(n:Int)(zs:List Int)(x y:Int):Int:=zs.getD (x.toNat*n.toNat+y.toNat) 0
theorem zx8{n:Int}{zs:List Int}(h:zq9 n zs=true)(x y:Int):0<=tmI n zs x y/\tmI n zs x y<=10000:=by
 unfold tmI;by_cases hl:x.toNat*n.toNat+y.toNat<zs.length
 ·have:=(zm1 h).2.2.2 _ hl
  exact⟨this.1,this.2.1⟩
 ·rw[List.getD,yg (by omega)]
  simp
def plc(ros:List Int)(home:Int):Nat->Int
 |0=>home
 |k+1=>og6 ros k 1
def z61(n:Int)(ros:List Int)(m:Nat):Prop:=∀k,k<m->(0<=og6 ros k 1/\og6 ros k 1<n)/\(0<=og6 ros k 2/\og6 ros k 2<=1000)/\(0<=og6 ros k 3/\og6 ros k 3<=1000000)/\(0<=og6 ros k 4/\og6 ros k 4<=1000000)/\(0<=og6 ros k 5/\og6 ros k 5<=10000)
theorem z55{n:Int}{os:List Int}{ko:Nat}(h:zs7 n os ko=true)(hn:1<=n)(ids:List Int):z61 n (zd6 os ko ids) ids.length:=by
 intro k hk;rw[zj8 os ko ids hk (by omega),zj8 os ko ids hk (by omega),zj8 os ko ids hk (by omega),zj8 os ko ids hk (by omega),zj8 os ko ids hk (by omega)];exact zQ1 h hn _
theorem zY7{n:Int}{ros:List Int}{m:Nat}(h:z61 n ros m){home:Int}(h0:0<=home)(h1:home<n):∀k,k<=m->0<=plc ros home k/\plc ros home k<n
 |0,_=>⟨h0,h1⟩
 |k+1,hk=>(h k (by omega)).1
def zz0(n:Int)(zs ros:List Int)(home am:Int):Nat->Int
 |0=>am
 |k+1=>max (zz0 n zs ros home am k+tmI n zs (plc ros home k) (og6 ros k 1)) (og6 ros k 3)+og6 ros k 5
def yi6(n:Int)(zs ros:List Int)(home am:Int)(k:Nat):Int:=zz0 n zs ros home am k+tmI n zs (plc ros home k) (og6 ros k 1)
def zi1(n:Int)(zs ros:List Int)(home am:Int)(k:Nat):Int:=max (yi6 n zs ros home am k) (og6 ros k 3)
theorem ya3(n:Int)(zs ros:List Int)(home am:Int)(k:Nat):zz0 n zs ros home am (k+1)=zi1 n zs ros home am k+og6 ros k 5:=rfl
def homeV(n:Int)(zs ros:List Int)(m:Nat)(home am:Int):Int:=zz0 n zs ros home am m+tmI n zs (plc ros home m) home
theorem zS6{n:Int}{zs ros:List Int}{m:Nat}{home am:Int}(hz:zq9 n zs=true)(h:z61 n ros m)(hf:0<=am/\am<=1000000):∀k,k<=m->0<=zz0 n zs ros home am k/\zz0 n zs ros home am k<=1000000+20000*k
 |0,_=>by simp only[zz0];omega
 |k+1,hk=>by
  have ih:=zS6 (home:=home) hz h hf k (by omega);have h1:=zx8 hz (plc ros home k) (og6 ros k 1);have h2:=h k (by omega);simp only[zz0];omega
def zy9(n:Int)(zs ros:List Int)(home am:Int)(k:Nat):Prop:=∀j,j<k->zi1 n zs ros home am j<=og6 ros j 4
theorem zP2{n:Int}{zs ros:List Int}{home am:Int}{k:Nat}(h:zy9 n zs ros home am k)(h1:zi1 n zs ros home am k<=og6 ros k 4):zy9 n zs ros home am (k+1):=by
 intro j hj;by_cases e:j=k
 ·rw[e];exact h1
 ·exact h j (by omega)
def zw0(n:Int)(zs ros:List Int)(m:Nat)(home am to:Int):Int:=
 if∀j,j<m->zi1 n zs ros home am j<=og6 ros j 4 then(if to<homeV n zs ros m home am then 6 else 0)else 5
theorem zF8{n:Int}{zs ros:List Int}{m:Nat}{home am to:Int}{k:Nat}(hk:k<m)(h:og6 ros k 4<zi1 n zs ros home am k):zw0 n zs ros m home am to=5:=by
 unfold zw0;rw[ye (fun x=>by have:=x k hk;omega)]
theorem zF5{n:Int}{zs ros:List Int}{m:Nat}{home am to:Int}(h:zy9 n zs ros home am m)(h2:to<homeV n zs ros m home am):zw0 n zs ros m home am to=6:=by
 have h:∀j,j<m->zi1 n zs ros home am j<=og6 ros j 4:=h;unfold zw0;rw[z7 h,z7 h2]
theorem zU9{n:Int}{zs ros:List Int}{m:Nat}{home am to:Int}(h:zy9 n zs ros home am m)(h2:¬to<homeV n zs ros m home am):zw0 n zs ros m home am to=0:=by
 have h:∀j,j<m->zi1 n zs ros home am j<=og6 ros j 4:=h;unfold zw0;rw[z7 h,ye h2]
def codeV(c:Bool)(n:Int)(zs os vs:List Int)(ko kv:Nat)(ab:Int)(ids:List Int):Int:=
 if zm7 c vs os kv ko ab ids=0 then zw0 n zs (zd6 os ko ids) ids.length (zc4 vs kv ab 1) (zc4 vs kv ab 3) (zc4 vs kv ab 4)else zm7 c vs os kv ko ab ids
theorem z95{c:Bool}{n:Int}{zs os vs:List Int}{ko kv:Nat}{ab:Int}{ids:List Int}(h:zm7 c vs os kv ko ab ids≠0):codeV c n zs os vs ko kv ab ids=zm7 c vs os kv ko ab ids:=by
 unfold codeV;rw[ye h]
theorem zu6{c:Bool}{n:Int}{zs os vs:List Int}{ko kv:Nat}{ab:Int}{ids:List Int}(h:zm7 c vs os kv ko ab ids=0):codeV c n zs os vs ko kv ab ids=zw0 n zs (zd6 os ko ids) ids.length (zc4 vs kv ab 1) (zc4 vs kv ab 3) (zc4 vs kv ab 4):=by
 unfold codeV;rw[z7 h]
theorem zg8{c:Bool}{n:Int}{zs os vs:List Int}{ko kv:Nat}{ab:Int}{ids:List Int}(h:codeV c n zs os vs ko kv ab ids=0):zm7 c vs os kv ko ab ids=0/\zw0 n zs (zd6 os ko ids) ids.length (zc4 vs kv ab 1) (zc4 vs kv ab 3) (zc4 vs kv ab 4)=0:=by
 by_cases h1:zm7 c vs os kv ko ab ids=0
 ·exact⟨h1,by rw[zu6 h1]at h;exact h⟩
 ·exact absurd (by rw[z95 h1]at h;exact h) h1
def zr1(n:Int)(zs ros:List Int)(home:Int):Nat->Int
 |0=>0
 |k+1=>zr1 n zs ros home k+tmI n zs (plc ros home k) (og6 ros k 1)
theorem z51{n:Int}{zs ros:List Int}{home:Int}(hz:zq9 n zs=true):∀k:Nat,0<=zr1 n zs ros home k/\zr1 n zs ros home k<=10000*k
 |0=>by simp only[zr1];omega
 |k+1=>by
  have ih:=z51 (ros:=ros) (home:=home) hz k;have h1:=zx8 hz (plc ros home k) (og6 ros k 1);simp only[zr1];omega
def zq7(n:Int)(zs ros:List Int)(m:Nat)(home:Int):Int:=zr1 n zs ros home m+tmI n zs (plc ros home m) home
def zl2(ids:List Int)(i:Nat):List Int:=ids.take i++ids.drop (i+1)
def insL(ids:List Int)(i:Nat)(id:Int):List Int:=ids.take i++id::ids.drop i
theorem zk8{ids:List Int}{i:Nat}(h:i<ids.length):(zl2 ids i).length=ids.length - 1:=by
 simp[zl2];omega
theorem zr2{ids:List Int}{i:Nat}(id:Int)(h:i<=ids.length):(insL ids i id).length=ids.length+1:=by
 simp[insL];omega
def rcV(n:Int)(zs os vs:List Int)(ko kv:Nat)(ab:Int)(ids:List Int):Int:=
 if codeV true n zs os vs ko kv ab ids=0 then zq7 n zs (zd6 os ko ids) ids.length (zc4 vs kv ab 1)else 0
theorem yA1{n:Int}{zs os vs:List Int}{ko kv:Nat}{ab:Int}{ids:List Int}(h:codeV true n zs os vs ko kv ab ids≠0):rcV n zs os vs ko kv ab ids=0:=by
 unfold rcV;rw[ye h]
theorem z18{n:Int}{zs os vs:List Int}{ko kv:Nat}{ab:Int}{ids:List Int}(h:codeV true n zs os vs ko kv ab ids=0):rcV n zs os vs ko kv ab ids=zq7 n zs (zd6 os ko ids) ids.length (zc4 vs kv ab 1):=by
 unfold rcV;rw[z7 h]
theorem zk2{c:Bool}{n:Int}{zs os vs:List Int}{ko kv:Nat}{ab:Int}{ids:List Int}(h:codeV c n zs os vs ko kv ab ids=0):ids.length<=12:=
 (zg3 (zf3 (zg8 h).1).2.2).1
theorem zF3{c:Bool}{n:Int}{zs os vs:List Int}{ko kv:Nat}{ab:Int}{ids:List Int}(h:codeV c n zs os vs ko kv ab ids=0):c=true:=
 (zf3 (zg8 h).1).1
theorem zu8{n:Int}{zs:List Int}(hz:zq9 n zs=true)(ros:List Int)(m:Nat)(hm:m<=12)(home:Int):0<=zq7 n zs ros m home/\zq7 n zs ros m home<=130000:=by
 have h1:=z51 (ros:=ros) (home:=home) hz m;have h2:=zx8 hz (plc ros home m) home;unfold zq7;omega
theorem yA0{n:Int}{zs:List Int}(hz:zq9 n zs=true)(os vs:List Int)(ko kv:Nat)(ab:Int)(ids:List Int):0<=rcV n zs os vs ko kv ab ids/\rcV n zs os vs ko kv ab ids<=130000:=by
 by_cases h:codeV true n zs os vs ko kv ab ids=0
 ·rw[z18 h]
  exact zu8 hz _ _ (zk2 h) _
 ·rw[yA1 h];omega
def chB(c:Bool)(n:Int)(zs os vs:List Int)(ko kv:Nat)(ab:Int)(ids:List Int)(ok:Bool)(aK:List Int):Bool:=
 decide (codeV c n zs os vs ko kv ab ids=0)&&(ok&&decide (codeV c n zs os vs ko kv ab aK=0))
def chI(ch:Bool)(v:Int):Int:=if ch then v else 0
def chL(ch:Bool)(aK:List Int):List Int:=if ch then aK else []
def chD(ch:Bool)(n:Int)(zs os vs:List Int)(ko kv:Nat)(ab:Int)(ids aK:List Int):Int:=
 if ch then rcV n zs os vs ko kv ab aK - rcV n zs os vs ko kv ab ids else 0
theorem yg9{c:Bool}{n:Int}{zs os vs:List Int}{ko kv:Nat}{ab:Int}{ids:List Int}(h:codeV c n zs os vs ko kv ab ids≠0)(ok:Bool)(aK:List Int):chB c n zs os vs ko kv ab ids ok aK=false:=by
 unfold chB;rw[zX h];rfl
theorem ye1{c:Bool}{n:Int}{zs os vs:List Int}{ko kv:Nat}{ab:Int}{ids:List Int}{ok:Bool}(h:ok=false)(aK:List Int):chB c n zs os vs ko kv ab ids ok aK=false:=by
 unfold chB;rw[h];simp
theorem yg2{c:Bool}{n:Int}{zs os vs:List Int}{ko kv:Nat}{ab:Int}{ids aK:List Int}(ok:Bool)(h:codeV c n zs os vs ko kv ab aK≠0):chB c n zs os vs ko kv ab ids ok aK=false:=by
 unfold chB;rw[zX h];simp
theorem yd1{c:Bool}{n:Int}{zs os vs:List Int}{ko kv:Nat}{ab:Int}{ids aK:List Int}{ok:Bool}(h:codeV c n zs os vs ko kv ab ids=0)(ho:ok=true)(h':codeV c n zs os vs ko kv ab aK=0):chB c n zs os vs ko kv ab ids ok aK=true:=by
 unfold chB;rw[zW h,ho,zW h'];rfl
def yE2(n:Nat)(l:List Int)(k a b:Nat):List Int:=l.set (a*n+b) (min (tm n l a b) (tm n l a k+tm n l k b))
def zt2(n:Nat)(zs:List Int):Nat->List Int
 |0=>zs
 |m+1=>yE2 n (zt2 n zs m) (m / n / n) (m / n % n) (m % n)
theorem yv1(n k a b:Nat)(ha:a<n)(hb:b<n):((k*n+a)*n+b) / n / n=k/\((k*n+a)*n+b) / n % n=a/\((k*n+a)*n+b) % n=b:=by
 obtain⟨h1,h2⟩:=zz1 n (k*n+a) b hb;obtain⟨h3,h4⟩:=zz1 n k a ha;exact⟨by rw[h1,h3],by rw[h1,h4],h2⟩
theorem yo6(n:Nat)(zs:List Int)(k a b:Nat)(ha:a<n)(hb:b<n):
 zt2 n zs ((k*n+a)*n+(b+1))=yE2 n (zt2 n zs ((k*n+a)*n+b)) k a b:=by
 obtain⟨h1,h2,h3⟩:=yv1 n k a b ha hb;rw[<-yz,zt2,h1,h2,h3]
theorem ye8(n:Nat)(l:List Int)(k a b:Nat):(yE2 n l k a b).length=l.length:=by simp[yE2]
theorem zr7(n:Nat)(zs:List Int):∀m,(zt2 n zs m).length=zs.length
 |0=>rfl
 |m+1=>by rw[zt2,ye8,zr7 n zs m]
def okL(l:List Int):Prop:=∀i,0<=l.getD i 0/\l.getD i 0<=10000
theorem yG7{l:List Int}(h:okL l){i:Nat}{v:Int}(h0:0<=v)(h1:v<=10000):okL (l.set i v):=by
 intro j;have hj:=h j;rw[zQ]at hj⊢;rw[List.getElem?_set];split
 ·split
  ·simp;omega
  ·simp
 ·exact hj
theorem y39{n:Nat}{l:List Int}(h:okL l)(k a b:Nat):okL (yE2 n l k a b):=by
 have h1:=h (a*n+b);have h2:=h (a*n+k);have h3:=h (k*n+b);unfold yE2 tm;refine yG7 h ?_ ?_
 ·omega
 ·omega
theorem zY0{n:Nat}{zs:List Int}(h:okL zs):∀m,okL (zt2 n zs m)
 |0=>h
 |m+1=>y39 (zY0 h m) _ _ _
theorem yp1{n:Int}{zs:List Int}(h:zq9 n zs=true):okL zs:=by
 intro i;by_cases hi:i<zs.length
 ·have:=(zm1 h).2.2.2 i hi
  exact⟨this.1,this.2.1⟩
 ·rw[zQ,yg (by omega)];simp
theorem yx4{n:Nat}{l:List Int}(h:okL l)(x y:Nat):0<=tm n l x y/\tm n l x y<=10000:=h _
def clo(n:Nat)(zs:List Int):List Int:=zt2 n zs (n*n*n)
theorem za3.pre{w:World}{a:Option Addr}{l r:List Int}(h:za3 w a (l++r)):za3 w a l:=by
 intro j hj;obtain⟨b,off,e,hc⟩:=h j (by simp;omega);refine⟨b,off,e,?_⟩;rw[hc,zQ,yE hj,<-zQ]
def zz3:List Int->Int->List Int
 |[],x=>[x]
 |y::l,x=>if y<x then y::zz3 l x else x::y::l
def zr3(l:List Int):List Int:=l.foldl zz3 []
theorem zU2(l:List Int)(x:Int):zr3 (l++[x])=zz3 (zr3 l) x:=by simp[zr3,yH]
theorem z47:∀(l:List Int) (x:Int),(zz3 l x).length=l.length+1
 |[],x=>rfl
 |y::l,x=>by
  unfold zz3;split
  ·rw[yo,z47 l x,yo]
  ·simp
theorem yj9:∀(l i7:List Int),(l.foldl zz3 i7).length=i7.length+l.length
 |[],i7=>rfl
 |x::l,i7=>by rw[yM,yj9 l,z47,yo];omega
theorem zo4(l:List Int):(zr3 l).length=l.length:=by
 unfold zr3;rw[yj9];simp
theorem zy8:∀(l:List Int) (x y:Int),y∈zz3 l x↔y=x∨y∈l
 |[],x,y=>by simp[zz3]
 |z::l,x,y=>by
  unfold zz3;split
  ·rw[yx,zy8 l x y,yx]
   constructor
   ·rintro(h|h|h)
    ·exact .inr (.inl h)
    ·exact .inl h
    ·exact .inr (.inr h)
   ·rintro(h|h|h)
    ·exact .inr (.inl h)
    ·exact .inl h
    ·exact .inr (.inr h)
  ·simp
theorem yl3:∀(l i7:List Int) (y:Int),y∈l.foldl zz3 i7↔y∈i7∨y∈l
 |[],i7,y=>by simp
 |x::l,i7,y=>by
  rw[yM,yl3 l,zy8,yx];constructor
  ·rintro((h|h)|h)
   ·exact .inr (.inl h)
   ·exact .inl h
   ·exact .inr (.inr h)
  ·rintro(h|h|h)
   ·exact .inl (.inr h)
   ·exact .inl (.inl h)
   ·exact .inr h
theorem zD5(l:List Int)(y:Int):y∈zr3 l↔y∈l:=by
 unfold zr3;rw[yl3];simp
theorem zP7:∀(l:List Int) (x:Int) (k:Nat),k<=l.length->(∀j,j<k->l.getD j 0<x)->(k<l.length->¬l.getD k 0<x)->insL l k x=zz3 l x
 |[],x,k,hk,_,_=>by
  have:k=0:=by simpa using hk
  subst this;rfl
 |y::l,x,0,_,_,h2=>by
  have:¬y<x:=by simpa using h2 (by simp)
  unfold zz3 insL;rw[ye this];rfl
 |y::l,x,k+1,hk,h1,h2=>by
  have hy:y<x:=by simpa using h1 0 (by omega)
  unfold zz3;rw[z7 hy,<-zP7 l x k (by simpa using hk) (fun j hj=>by simpa using h1 (j+1) (by omega)) (fun h=>by simpa using h2 (by simpa using h))];rfl
theorem zE8:∀(l:List Int) (x:Int),l.Pairwise (· <·)->x∉l->(zz3 l x).Pairwise (· <·)
 |[],x,_,_=>by simp[zz3]
 |y::l,x,h,hx=>by
  rw[yO]at h;unfold zz3;split
  ·rename_i hy
   rw[yO];refine⟨fun a ha=> ?_,zE8 l x h.2 (fun e=>hx (yt _ e))⟩;rcases(zy8 l x a).1 ha with e|e
   ·rw[e];exact hy
   ·exact h.1 a e
  ·rename_i hy
   have aq:x≠y:=fun e=>hx (by rw[e];exact yB ..)
   rw[yO];refine⟨fun a ha=> ?_,yO.2 h⟩;rcases yx.1 ha with e|e
   ·rw[e];omega
   ·have:=h.1 a e
    omega
theorem zY2:∀(l i7:List Int),i7.Pairwise (· <·)->l.Nodup->(∀x∈l,x∉i7)->(l.foldl zz3 i7).Pairwise (· <·)
 |[],i7,h,_,_=>h
 |x::l,i7,h,hn,hd=>by
  rw[yM];rw[yY]at hn;refine zY2 l _ (zE8 i7 x h (hd x (yB ..))) hn.2 fun y hy e=> ?_;rcases(zy8 i7 x y).1 e with e|e
  ·rw[e]at hy;exact hn.1 hy
  ·exact hd y (yt _ hy) e
theorem ya4{l:List Int}(h:l.Nodup):(zr3 l).Pairwise (· <·):=zY2 l [] List.Pairwise.nil h (fun x _=>by simp)
theorem y25{l:List Int}(h:l.Pairwise (· <·)){i j:Nat}(hi:i<j)(hj:j<l.length):l.getD i 0<l.getD j 0:=by
 have:=yy.1 h i j (by omega) hj hi;rw[zQ,zQ,zR hj,zR (show i<l.length by omega)];exact this
theorem y56{P D:List Int}{x:Int}{j:Nat}(hj:j<P.length):((insL P (j+1) x++D).set (j+1) (P.getD j 0)).set j x=insL P j x++D:=by
 have hd:P.drop j=P.getD j 0::P.drop (j+1):=by
  rw[List.drop_eq_getElem_cons hj,zQ,zR hj];rfl
 have ht:P.take (j+1)=P.take j++[P.getD j 0]:=by
  rw[yI,zQ,zR hj];rfl
 have hl:(P.take j).length=j:=by rw[yh];omega
 unfold insL;rw[hd,ht];simp only[yi,yW,yw];rw[List.set_append_right _ _ (by rw[hl];omega),hl,show j+1 - j=1 by omega,List.set_append_right _ _ (by rw[hl];omega),hl,Nat.sub_self];rfl
theorem yJ1{P D:List Int}{x:Int}{j:Nat}(hj:j<=P.length):(insL P j x++D).getD j 0=x:=by
 have hl:(P.take j).length=j:=by rw[yh];omega
 unfold insL;rw[yi,zQ,yS (by omega),hl,Nat.sub_self];rfl
theorem yt0{P D:List Int}{x:Int}{j:Nat}(hj:j<P.length):(insL P (j+1) x++D).getD j 0=P.getD j 0:=by
 unfold insL;rw[yi,zQ,yE (by rw[yh];omega),yL,z7 (by omega),zQ]
theorem ym6{P:List Int}{x:Int}{j:Nat}(hp:P.Pairwise (· <·))(hx:x∉P)(hj:j<=P.length)(h1:∀q,j<=q->q<P.length->x<P.getD q 0)(h2:0<j->¬x<P.getD (j - 1) 0):insL P j x=zz3 P x:=by
 refine zP7 P x j hj (fun q hq=> ?_) (fun h=>by have:=h1 j (zT _) h;omega);have h3:=h2 (by omega);have hm:P.getD (j - 1) 0∈P:=by rw[zQ,zR (show j - 1<P.length by omega)];simp
 have aq:P.getD (j - 1) 0≠x:=fun e=>hx (e▸hm);by_cases e:q=j - 1
 ·rw[e];omega
 ·have:=y25 hp (i:=q) (j:=j - 1) (by omega) (by omega)
  omega
theorem yD3(l:List Int):zr3 (l.take 1)++l.drop 1=l:=by
 cases l with
 |nil=>rfl
 |cons x l=>rfl
theorem y65{l:List Int}{i:Nat}(h:i<l.length):zr3 (l.take (i+1))=zz3 (zr3 (l.take i)) (l.getD i 0):=by
 rw[yI,zR h,zQ,zR h];exact zU2 _ _
theorem y27{l:List Int}{i:Nat}(h:i<l.length):l.drop i=l.getD i 0::l.drop (i+1):=by
 rw[List.drop_eq_getElem_cons h,zQ,zR h];rfl
theorem y82(P:List Int)(x:Int):insL P P.length x=P++[x]:=by
 unfold insL;rw[ym,List.drop_length]
theorem yn6{l:List Int}{i:Nat}(hn:l.Nodup)(h:i<l.length):l.getD i 0∉l.take i:=by
 have:(l.take (i+1)).Nodup:=hn.sublist (List.take_sublist _ _);rw[yI,zR h]at this;have h2:=yJ.1 this;rw[zQ,zR h];intro e;exact h2.2.2 _ e _ (by simp) rfl
end Go.Proofs.YtkchnomkiboihaaGreat
namespace Go.Proofs.YtkchnomkiboihaaGreat
open Q
def zm6(s:Int):Int:=bif inB s 0 2147483647 then(s*1103515245+12345) % 2147483648 else 0
theorem zS3{s:Int}(h:inB s 0 2147483647=false):zm6 s=0:=by unfold zm6;rw[h];rfl
theorem zG4{s:Int}(h:inB s 0 2147483647=true):zm6 s=(s*1103515245+12345) % 2147483648:=by unfold zm6;rw[h];rfl
theorem zT3(s:Int):inB (zm6 s) 0 2147483647=true:=by
 refine zf0 ?_;cases h:inB s 0 2147483647
 ·rw[zS3 h];omega
 ·rw[zG4 h];omega
end Go.Proofs.YtkchnomkiboihaaGreat
namespace Go.Proofs.YtkchnomkiboihaaGreat
open List renaming range→zt
open Go.RowKit
open Q
def av(c:Nat)(pre:List Nat):List Nat:=(zt c).filter fun p=>decide (p∉pre)
def z32(c:Nat):List Int:=(zt c).map fun(p:Nat)=>(p:Int)
theorem zh8(c:Nat):(z32 c).length=c:=by simp[z32]
theorem zY8(c:Nat):z32 (c+1)=z32 c++[(c:Int)]:=by simp[z32,yN]
end Go.Proofs.YtkchnomkiboihaaGreat
namespace Go.Proofs.YtkchnomkiboihaaGreat
open Q
def cutP(l:List Int)(v:Int):List Int:=l.filter fun x=>x !=v
theorem yk2{l:List Int}{v:Int}(h:v∉l):cutP l v=l:=by
 unfold cutP;rw[yC];intro a ha;have:a≠v:=fun e=>h (e▸ha);simpa using this
theorem zR6{l:List Int}(h:l.Nodup):∀{i:Nat},i<l.length->cutP l (l.getD i 0)=zl2 l i:=by
 induction l with
 |nil=>intro i hi;simp at hi
 |cons a l ih=>
  intro i hi;rw[yY]at h;cases i with
  |zero=>
   show cutP (a::l) a=_;have e:cutP (a::l) a=cutP l a:=by simp[cutP]
   rw[e,yk2 h.1];simp[zl2]
  |succ i=>
   have rG:i<l.length:=by simpa using hi
   have e1:(a::l).getD (i+1) 0=l.getD i 0:=rfl;have aq:a≠l.getD i 0:=by
    intro e;apply h.1;rw[e,zQ,zR rG];simp
   have e2:cutP (a::l) (l.getD i 0)=a::cutP l (l.getD i 0):=by
    unfold cutP;rw[yD (by simpa using aq)]
   rw[e1,e2,ih h.2 rG];simp[zl2]
theorem zK5(l:List Int)(v:Int)(k:Nat)(h:k<l.length):cutP (l.take (k+1)) v=if l.getD k 0=v then cutP (l.take k) v else cutP (l.take k) v++[l.getD k 0]:=by
 have e:l.take (k+1)=l.take k++[l.getD k 0]:=by
  rw[yI,zQ,zR h];rfl
 rw[e];unfold cutP;rw[yP];by_cases hv:l.getD k 0=v
 ·rw[z7 hv,hv];simp
 ·rw[ye hv]
  congr 1
  rw[yD (by simpa using hv)];rfl
theorem y06(l:List Int)(v:Int):(cutP l v).length<=l.length:=yp _ _
theorem zL2{l:List Int}(h:l.Nodup)(i:Nat):(zl2 l i).Nodup:=by
 have:(zl2 l i).Sublist l:=by
  unfold zl2;rw[<-List.eraseIdx_eq_take_drop_succ];exact List.eraseIdx_sublist l i
 exact h.sublist this
theorem z80(c:Nat):(z32 c).Nodup:=by
 unfold z32;exact(List.pairwise_map.2 (List.nodup_range.imp fun h=>by omega))
def pkAt(s:Int)(m:Nat):Nat:=(s / 65536 % (m:Int)).toNat
theorem yd0{s:Int}{m:Nat}(h:0<m):pkAt s m<m:=by
 have h1:=Int.emod_lt_of_pos (s / 65536) (show(0:Int)<m by omega);have h2:=Int.emod_nonneg (s / 65536) (show(m:Int)≠0 by omega);unfold pkAt;omega
theorem yF1{s:Int}{m:Nat}(h:0<m):s / 65536 % (m:Int)=(pkAt s m:Nat):=by
 have h2:=Int.emod_nonneg (s / 65536) (show(m:Int)≠0 by omega);unfold pkAt;omega
def pkL:Nat->List Int->Int->List Int×Int
 |0,_,s=>([],s)
 |k+1,L,s=>(L.getD (pkAt (zm6 s) L.length) 0::(pkL k (zl2 L (pkAt (zm6 s) L.length)) (zm6 s)).1,(pkL k (zl2 L (pkAt (zm6 s) L.length)) (zm6 s)).2)
theorem yo0(k:Nat):∀L s,(pkL k L s).1.length=k:=by
 induction k with
 |zero=>intro L s;rfl
 |succ k ih=>intro L s;simp[pkL,ih]
def zv8(s n k:Int):Bool:=inB n 0 64&&inB k 0 n&&inB s 0 2147483647
def zs4(s n k:Int):List Int:=bif zv8 s n k then(pkL k.toNat (z32 n.toNat) s).1 else []
def z77(s n k:Int):Int:=bif zv8 s n k then(pkL k.toNat (z32 n.toNat) s).2 else -1
theorem yw0{s n k:Int}(h:zv8 s n k=false):zs4 s n k=[]/\z77 s n k= -1:=by unfold zs4 z77;rw[h];exact⟨rfl,rfl⟩
theorem zv6{s:Int}{n k:Nat}(h:zv8 s n k=true):zs4 s n k=(pkL k (z32 n) s).1/\z77 s n k=(pkL k (z32 n) s).2:=by unfold zs4 z77;rw[h];exact⟨rfl,rfl⟩
theorem zI4{s n k:Int}(h:zv8 s n k=true):∃n' k':Nat,n=n'/\k=k'/\n'<=64/\k'<=n'/\0<=s/\s<=2147483647:=by
 unfold zv8 at h;simp only[zY]at h;have h1:=zc8 h.1.1;have h2:=zc8 h.1.2;have h3:=zc8 h.2;exact⟨n.toNat,k.toNat,by omega,by omega,by omega,by omega,by omega,by omega⟩
end Go.Proofs.YtkchnomkiboihaaGreat
namespace Go.Proofs.YtkchnomkiboihaaGreat
open Q
theorem zU4{L:List Int}{i:Nat}(h:i<L.length):L.getD i 0∈L:=by
 rw[zQ,zR h];simp
theorem y64{L:List Int}{i:Nat}{x:Int}(h:x∈zl2 L i):x∈L:=by
 unfold zl2 at h;rcases yj.1 h with h|h
 ·exact List.mem_of_mem_take h
 ·exact yQ h
theorem yr7(k:Nat):∀(L:List Int) (s:Int),k<=L.length->∀x∈(pkL k L s).1,x∈L:=by
 induction k with
 |zero=>intro L s _ x hx;simp[pkL]at hx
 |succ k ih=>
  intro L s hk x hx;have gV:pkAt (zm6 s) L.length<L.length:=yd0 (by omega);simp only[pkL,yx]at hx;rcases hx with rfl|hx
  ·exact zU4 gV
  ·exact y64 (ih _ _ (by rw[zk8 gV];omega) x hx)
theorem zW2(k:Nat):∀(L:List Int) (s:Int),L.Nodup->k<=L.length->(pkL k L s).1.Nodup:=by
 induction k with
 |zero=>intro L s _ _;simp[pkL]
 |succ k ih=>
  intro L s hn hk;have gV:pkAt (zm6 s) L.length<L.length:=yd0 (by omega);have hr:k<=(zl2 L (pkAt (zm6 s) L.length)).length:=by rw[zk8 gV];omega
  simp only[pkL,yY];refine⟨fun h=> ?_,ih _ _ (zL2 hn _) hr⟩;have h2:=yr7 k _ _ hr _ h;rw[<-zR6 hn gV]at h2;unfold cutP at h2;simp at h2
theorem y96(k:Nat):∀(j:Nat) (L:List Int) (s:Int),j<=k->(pkL j L s).1=(pkL k L s).1.take j:=by
 induction k with
 |zero=>
  intro j L s hj;have:j=0:=by omega
  subst this;rfl
 |succ k ih=>
  intro j L s hj;cases j with
  |zero=>rfl
  |succ j=>simp only[pkL,List.take_succ_cons];rw[ih j _ _ (by omega)]
theorem y89(k:Nat):∀(L:List Int) (s:Int),0<=s->0<=(pkL k L s).2:=by
 induction k with
 |zero=>intro L s h;exact h
 |succ k ih=>intro L s _;exact ih _ _ (zc8 (zT3 s)).1
theorem y67{N:Nat}{x:Int}(h:x∈z32 N):∃y:Nat,y<N/\(y:Int)=x:=by
 unfold z32 at h;simp only[yF,List.mem_range]at h;exact h
theorem yp9{s:Int}{N K:Nat}(h:zv8 s N K=true):K<=N/\N<=64/\(zs4 s N K).length=K/\0<=z77 s N K/\(∀i,i<K->0<=(zs4 s N K).getD i 0/\(zs4 s N K).getD i 0<N/\z02 (zs4 s N K) i ((zs4 s N K).getD i 0)=false)/\zs4 s N ((K / 2:Nat):Int)=(zs4 s N K).take (K / 2)/\zv8 s N ((K / 2:Nat):Int)=true:=by
 obtain⟨N',K',e1,e2,h1,h2,h3,h4⟩:=zI4 h;have:N=N':=by omega
 subst this;have:K=K':=by omega
 subst this;have aC:zv8 s N ((K / 2:Nat):Int)=true:=by
  unfold zv8;rw[zf0 (show(0:Int)<=N/\(N:Int)<=64 by omega),zf0 (show(0:Int)<=((K / 2:Nat):Int)/\((K / 2:Nat):Int)<=N by omega),zf0 (show 0<=s/\s<=2147483647 by omega)];rfl
 rw[(zv6 h).1,(zv6 h).2,(zv6 aC).1];have hl:(pkL K (z32 N) s).1.length=K:=yo0 K _ _;have hm:=yr7 K (z32 N) s (by rw[zh8];exact h2);have hn:=zW2 K (z32 N) s (z80 N) (by rw[zh8];exact h2);refine⟨h2,h1,hl,y89 _ _ _ h3,?_,y96 K (K / 2) _ _ (by omega),aC⟩;intro i hi;have hx:=hm _ (zU4 (i:=i) (by rw[hl];exact hi));obtain⟨y,hy,e⟩:=y67 hx;clear hx;refine⟨by omega,by omega,zD8 fun j hj e2=> ?_⟩;have rG:i<(pkL K (z32 N) s).1.length:=by omega
 have r_:j<(pkL K (z32 N) s).1.length:=by omega
 rw[zQ,zQ,zR rG,zR r_]at e2;simp only[yR]at e2;exact yy.1 hn j i r_ rG hj e2
