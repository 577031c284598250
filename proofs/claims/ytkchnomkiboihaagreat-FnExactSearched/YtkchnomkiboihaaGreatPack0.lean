import Derived.WalkSpells
import Derived.Deep.WholeRow
set_option linter.unusedSimpArgs false
namespace Go.Proofs.YtkchnomkiboihaaGreat
theorem Q.Go.RowKit.Hid.X{p:Prop}(h:Go.RowKit.Hid p):p:=h
open Q
theorem zK{w:World}(o:Obj):RowKit.Below w.heap.size w (w.alloc o):=(RowKit.Below.refl _ _).alloc (Nat.le_refl _) o
theorem zL:type_of% @List.set_cons_zero:=@List.set_cons_zero
theorem zM:type_of% @List.getD_eq_getElem?_getD:=@List.getD_eq_getElem?_getD
theorem zN:type_of% @Go.heap_alloc_new:=@Go.heap_alloc_new
theorem zO:type_of% @List.getElem?_eq_getElem:=@List.getElem?_eq_getElem
theorem zP:type_of% @Go.heap_setCell_same:=@Go.heap_setCell_same
theorem zQ:type_of% @Nat.le_refl:=@Nat.le_refl
theorem zR:type_of% @Go.cell_of_row:=@Go.cell_of_row
theorem zS:type_of% @decide_eq_true:=@decide_eq_true
theorem zT:type_of% @Go.block_lt_of_cell:=@Go.block_lt_of_cell
theorem zU:type_of% @decide_eq_false:=@decide_eq_false
theorem zV:type_of% @if_pos:=@if_pos
theorem zW:type_of% @if_neg:=@if_neg
theorem zX:type_of% @of_decide_eq_true:=@of_decide_eq_true
theorem zY:type_of% @Bool.and_eq_true:=@Bool.and_eq_true
theorem zZ:type_of% @List.length_take:=@List.length_take
theorem z6:type_of% @Nat.zero_add:=@Nat.zero_add
theorem z7:type_of% @List.append_assoc:=@List.append_assoc
theorem yb:type_of% @List.getElem?_eq_none:=@List.getElem?_eq_none
theorem yc:type_of% @List.take_length:=@List.take_length
theorem yd:type_of% @List.take_succ_eq_append_getElem:=@List.take_succ_eq_append_getElem
theorem ye:type_of% @List.getElem?_map:=@List.getElem?_map
theorem yg:type_of% @List.length_cons:=@List.length_cons
theorem yh:type_of% @List.mem_cons_of_mem:=@List.mem_cons_of_mem
theorem yi:type_of% @List.mem_append:=@List.mem_append
theorem yj:type_of% @List.length_filter_le:=@List.length_filter_le
theorem yk:type_of% @Int.toNat_natCast:=@Int.toNat_natCast
theorem ym:type_of% @List.mem_cons_self:=@List.mem_cons_self
theorem yn:type_of% @List.mem_cons:=@List.mem_cons
theorem yo:type_of% @List.nil_append:=@List.nil_append
theorem yp:type_of% @List.pairwise_cons:=@List.pairwise_cons
theorem yq:type_of% @List.getElem?_take:=@List.getElem?_take
theorem yr:type_of% @List.pairwise_iff_getElem:=@List.pairwise_iff_getElem
theorem yt:type_of% @List.find?_range_eq_some:=@List.find?_range_eq_some
theorem yu:type_of% @List.filter_eq_self:=@List.filter_eq_self
theorem yv:type_of% @List.filter_cons_of_pos:=@List.filter_cons_of_pos
theorem yw:type_of% @List.getElem?_append_right:=@List.getElem?_append_right
theorem yx:type_of% @Nat.add_assoc:=@Nat.add_assoc
theorem yy:type_of% @List.mem_map:=@List.mem_map
theorem yz:type_of% @List.take_add_one:=@List.take_add_one
theorem yA:type_of% @List.foldl_append:=@List.foldl_append
theorem yB:type_of% @List.nodup_append:=@List.nodup_append
theorem yC:type_of% @Option.map_some:=@Option.map_some
theorem yD:type_of% @List.foldl_cons:=@List.foldl_cons
theorem yE:type_of% @List.filter_append:=@List.filter_append
theorem yF:type_of% @Nat.sub_self:=@Nat.sub_self
theorem yG:type_of% @List.range_succ:=@List.range_succ
theorem yH:type_of% @Nat.mul_le_mul_right:=@Nat.mul_le_mul_right
theorem yI:type_of% @List.mem_of_mem_drop:=@List.mem_of_mem_drop
theorem yJ:type_of% @Option.getD_some:=@Option.getD_some
theorem yK:type_of% @List.set_append_right:=@List.set_append_right
theorem yL:type_of% @List.getElem?_append_left:=@List.getElem?_append_left
theorem yM:type_of% @List.take_succ_cons:=@List.take_succ_cons
theorem yN:type_of% @List.getElem_range:=@List.getElem_range
theorem yO:type_of% @Nat.add_sub_cancel:=@Nat.add_sub_cancel
theorem yP:type_of% @List.find?_eq_none:=@List.find?_eq_none
theorem yQ:type_of% @List.getElem_map:=@List.getElem_map
theorem yR:type_of% @List.cons_append:=@List.cons_append
theorem yS:type_of% @Or.inl:=@Or.inl
theorem yT:type_of% @List.nodup_cons:=@List.nodup_cons
open IntKind renaming i64→zb
open Value renaming int→zc
open Obj renaming cells→zd
open _root_.Go renaming World→zg
open List renaming replicate→zn,range→zo,getD→zw
open _root_.Go.RowKit
theorem za4{p:Prop}(h:p):Hid p:=h
theorem nmd{α:Sort _}(x:α):∃v,Hid (x=v):=⟨x,rfl⟩
theorem z92{P:Program}{ops:Array Oper}{rest:List Oper}{o:Oper}{a:Act}{w w':zg}{Q:Exit->Act->zg->Prop}(v:Value)(hgd:o.guard=none)
 (hrun:(execOp a.eval o).run P w=.ok (.value v) w') (h:wpList P ops Q rest (a.put o.dst v) w'):wpList P ops Q (o::rest) a w:=
 wpList_plain hgd fun _ hK=>by unfold Oper.wp;rw[hrun];exact hK _ _ h
theorem yJ3{W w1:zg}(hb:Below W.heap.size W w1):(∀b o,b<W.heap.size->w1.cell? ⟨b,o,none⟩=W.cell? ⟨b,o,none⟩)/\(∀b o,b<W.heap.size->w1.frozen? ⟨b,o,none⟩=W.frozen? ⟨b,o,none⟩):=
 ⟨fun b o h=>hb.cell (p:=⟨b,o,none⟩) h,fun b o h=>hb.frozen (p:=⟨b,o,none⟩) h⟩
theorem zg0(zs:List Int)(k:Nat)(h:k<zs.length):zs.take (k+1)=zs.take k++[zs.getD k 0]:=by
 rw[yd h];simp[zw,h]
theorem zb4{a b:Bool}(h:a=b):Ending.returned (.bool a)=.returned (.bool b):=by rw[h]
theorem zf8{k:IntKind}{a b:Int}(h:a=b):Ending.returned (.int k a)=.returned (.int k b):=by rw[h]
def inB(n lo hi:Int):Bool:=decide (lo<=n/\n<=hi)
theorem zf3{n lo hi:Int}(h:lo<=n/\n<=hi):inB n lo hi=true:=zS h
theorem zx4{n lo hi:Int}(h:¬(lo<=n/\n<=hi)):inB n lo hi=false:=zU h
theorem zc7{n lo hi:Int}(h:inB n lo hi=true):lo<=n/\n<=hi:=zX h
def cellsOf(l:List Int):Array Value:=(l.map (zc zb)).toArray
theorem zf2(l:List Int):(cellsOf l).size=l.length:=by simp[cellsOf]
theorem zd7(l:List Int)(i:Nat)(h:i<l.length):(cellsOf l)[i]? =some (zc zb (l.getD i 0)):=by
 simp[cellsOf,zw,h]
theorem z15(l:List Int)(i:Nat)(v:Int):(cellsOf l).setIfInBounds i (zc zb v)=cellsOf (l.set i v):=by
 simp[cellsOf,List.map_set]
theorem zn6(l:List Int):(cellsOf l).all (·.oneCell')=true:=by
 simp[cellsOf,Value.oneCell']
theorem zl8{B:Nat}{a w:zg}(h:Below B a w){g:Nat}(hg:B<=g)(cs:Array Value):Below B a (w.setRow g cs):=
 h.trans ⟨rfl,rfl,rfl,by simp,fun k hk=>setRow_other w g k cs (by omega)⟩
def za3(w:zg)(a:Option Addr)(zs:List Int):Prop:=
 ∀j,j<zs.length->∃b off,a=some ⟨b,off,none⟩/\w.cell? ⟨b,off+j,none⟩=some (zc zb (zs.getD j 0))
theorem za3.some{w:zg}{a:Option Addr}{zs:List Int}(h:za3 w a zs){j:Nat}(hj:j<zs.length):
 ∃b off,a=some ⟨b,off,none⟩/\∀j,j<zs.length->w.cell? ⟨b,off+j,none⟩=.some (zc zb (zs.getD j 0)):=by
 obtain⟨b,off,e,_⟩:=h j hj;refine⟨b,off,e,fun k hk=> ?_⟩;obtain⟨b',off',e',hc⟩:=h k hk;rw[e]at e';simp at e';obtain⟨rfl,rfl⟩:=e';exact hc
theorem za3.below{w w':zg}{a:Option Addr}{zs:List Int}(h:za3 w a zs)(hb:Below w.heap.size w w'):za3 w' a zs:=by
 intro j hj;obtain⟨b,off,e,hc⟩:=h j hj;refine⟨b,off,e,?_⟩;have hl:=zT hc;rw[hb.cell (p:=⟨b,off+j,none⟩) hl];exact hc
theorem za3.of_row{w:zg}{g:Nat}{zs:List Int}{t:TypeId}(h:w.heap[g]? =.some (.cells (cellsOf zs) t (0,0))):za3 w (.some ⟨g,0,none⟩) zs:=by
 intro j hj;refine⟨g,0,rfl,?_⟩;rw[z6,zR _ _ _ _ _ _ h,zd7 _ _ hj]
def zs6(n:Int)(zs:List Int):Bool:=
 decide (1<=n/\n<=16/\(zs.length:Int)=n*n/\∀i,i<zs.length->0<=zs.getD i 0/\zs.getD i 0<=10000/\(i / n.toNat=i % n.toNat->zs.getD i 0=0))
theorem zr2{n:Int}{zs:List Int}(h:zs6 n zs=true):1<=n/\n<=16/\(zs.length:Int)=n*n/\∀i,i<zs.length->0<=zs.getD i 0/\zs.getD i 0<=10000/\(i / n.toNat=i % n.toNat->zs.getD i 0=0):=
 zX h
theorem yx4{n:Int}{zs:List Int}(h:1<=n/\n<=16/\(zs.length:Int)=n*n/\∀i,i<zs.length->0<=zs.getD i 0/\zs.getD i 0<=10000/\(i / n.toNat=i % n.toNat->zs.getD i 0=0)):zs6 n zs=true:=
 zS h
theorem z32{n:Int}{zs:List Int}(h:¬(1<=n/\n<=16/\(zs.length:Int)=n*n/\∀i,i<zs.length->0<=zs.getD i 0/\zs.getD i 0<=10000/\(i / n.toNat=i % n.toNat->zs.getD i 0=0))):zs6 n zs=false:=
 zU h
def zi7(n:Nat)(zs:List Int)(a b:Nat):List Int:=
 (zo 256).map fun k=>if k / 16<n/\k % 16<n/\(k / 16<a∨k / 16=a/\k % 16<b)then zs.getD (k / 16*n+k % 16) 0 else 0
theorem zk2(n:Nat)(zs:List Int)(a b:Nat):(zi7 n zs a b).length=256:=by simp[zi7]
theorem yd7(n:Nat)(zs:List Int)(a b:Nat)(ha:a<n)(hb:b<n)(hn:n<=16):
 (zi7 n zs a b).set (a*16+b) (zs.getD (a*n+b) 0)=zi7 n zs a (b+1):=by
 apply List.ext_getElem
 ·simp[zi7]
 ·intro k h1 h2
  have hk:=by simpa[zi7]using h2
  by_cases e:a*16+b=k
  ·subst e
   have e1:(a*16+b) / 16=a:=by omega
   have e2:(a*16+b) % 16=b:=by omega
   simp only[zi7,List.getElem_set,yQ,yN,e1,e2,if_true];rw[zV ⟨ha,hb,Or.inr ⟨trivial,by omega⟩⟩]
  ·simp only[zi7,List.getElem_set,yQ,yN,zW e]
   have:¬(k / 16=a/\k % 16=b):=by omega
   by_cases c:k / 16<n/\k % 16<n/\(k / 16<a∨k / 16=a/\k % 16<b)
   ·rw[zV c,zV ⟨c.1,c.2.1,by omega⟩]
   ·rw[zW c,zW (by omega)]
theorem yn4(n:Nat)(zs:List Int)(a:Nat):zi7 n zs a n=zi7 n zs (a+1) 0:=by
 unfold zi7;apply List.map_congr_left;intro k _;by_cases c:k / 16<n/\k % 16<n/\(k / 16<a∨k / 16=a/\k % 16<n)
 ·rw[zV c,zV (by omega)]
 ·rw[zW c,zW (by omega)]
def zs7:List Int:=(zo 256).map fun _=>0
theorem ze3:zs7.length=256:=by simp[zs7]
theorem yd3(n:Nat)(zs:List Int):zi7 n zs 0 0=zs7:=by
 unfold zi7 zs7;apply List.map_congr_left;intro k _;rw[zW (by omega)]
def zw4(n:Int)(zs:List Int):List Int:=if zs6 n zs=true then zi7 n.toNat zs n.toNat 0 else zs7
theorem zY5{n:Nat}{zs:List Int}(h:zs6 n zs=true):zw4 n zs=zi7 n zs n 0:=by
 unfold zw4;rw[zV h];simp
theorem zp6{n:Int}{zs:List Int}(h:zs6 n zs=false):zw4 n zs=zs7:=by
 unfold zw4;rw[h];simp
theorem z11(n:Int)(zs:List Int):(zw4 n zs).length=256:=by
 unfold zw4;split
 ·exact zk2 _ _ _ _
 ·exact ze3
def y28(n:Nat)(zs:List Int)(a b:Nat):Prop:=
 ∀i j,i<n->j<n->(i<a∨i=a/\j<b)->0<=zs.getD (i*n+j) 0/\zs.getD (i*n+j) 0<=10000/\(i=j->zs.getD (i*n+j) 0=0)
theorem yx6(n:Nat)(zs:List Int):y28 n zs 0 0:=by intro i j _ _ h;omega
theorem yu9{n:Nat}{zs:List Int}{a b:Nat}(h:y28 n zs a b)(h0:0<=zs.getD (a*n+b) 0)(h1:zs.getD (a*n+b) 0<=10000)(h2:a=b->zs.getD (a*n+b) 0=0):y28 n zs a (b+1):=by
 intro i j hi hj hij;by_cases e:i=a/\j=b
 ·obtain⟨rfl,rfl⟩:=e;exact⟨h0,h1,h2⟩
 ·exact h i j hi hj (by omega)
theorem y50{n:Nat}{zs:List Int}{a:Nat}(h:y28 n zs a n):y28 n zs (a+1) 0:=by
 intro i j hi hj hij;exact h i j hi hj (by omega)
theorem yp1(n i j:Nat)(hj:j<n):(i*n+j) / n=i/\(i*n+j) % n=j:=by
 have hn:0<n:=by omega
 constructor
 ·rw[Nat.add_comm,Nat.add_mul_div_right _ _ hn,Nat.div_eq_of_lt hj,z6]
 ·rw[Nat.add_comm,Nat.add_mul_mod_self_right,Nat.mod_eq_of_lt hj]
theorem yp4(n k:Nat)(h:k<n*n):k / n<n/\k % n<n/\k / n*n+k % n=k:=by
 have hn:0<n:=by rcases Nat.eq_zero_or_pos n with e|e;·subst e;simp at h
                 exact e
 exact⟨(Nat.div_lt_iff_lt_mul hn).2 h,Nat.mod_lt _ hn,by rw[Nat.mul_comm];exact Nat.div_add_mod k n⟩
theorem zY6(n:Nat)(zs:List Int)(h1:1<=n)(h2:n<=16)(hl:zs.length=n*n)(h:y28 n zs n 0):zs6 n zs=true:=by
 refine yx4 ⟨by omega,by omega,by rw[hl];simp,fun i hi=> ?_⟩;obtain⟨a,b,c⟩:=yp4 n i (by omega);have:=h (i / n) (i % n) a b (yS a);rw[c]at this;simpa using this
theorem y29(n:Nat)(zs:List Int)(x y:Nat)(hx:x<n)(hy:y<n)(hl:zs.length=n*n)(h:¬(0<=zs.getD (x*n+y) 0/\zs.getD (x*n+y) 0<=10000/\(x=y->zs.getD (x*n+y) 0=0))):zs6 n zs=false:=by
 refine z32 fun⟨_,_,_,hh⟩=>h ?_;obtain⟨e1,e2⟩:=yp1 n x y hy;have hlt:x*n+y<zs.length:=by
  rw[hl];have:=yH n (show x+1<=n by omega);rw[Nat.add_mul]at this;omega
 have:=hh (x*n+y) hlt;simp only[yk,e1,e2]at this;exact this
theorem zN0(a n:Nat)(h1:a<=16)(h2:n<=16):a*n<=256:=Nat.mul_le_mul h1 h2
theorem y82(n:Nat)(zs:List Int)(h1:1<=n)(h2:n<=16)(hl:zs.length=n*n)(h:∀i,i<n*n->0<=zs.getD i 0/\zs.getD i 0<=10000/\(i / n=i % n->zs.getD i 0=0)):zs6 n zs=true:=
 yx4 ⟨by omega,by omega,by rw[hl];simp,fun i hi=>by rw[yk];exact h i (by omega)⟩
theorem ys0(n:Nat)(zs:List Int)(hl:zs.length=n*n)(k:Nat)(hk:k<n*n)(h:¬(0<=zs.getD k 0/\zs.getD k 0<=10000/\(k / n=k % n->zs.getD k 0=0))):zs6 n zs=false:=
 z32 fun⟨_,_,_,hh⟩=>h (by have:=hh k (by omega);rwa [yk]at this)
theorem za0{B:Nat}{W w1:zg}(hb:Below B W w1){k:Nat}{o:Obj}(hk:k<B)(h:W.heap[k]? =some o):w1.heap[k]? =some o:=by
 rw[hb.block k hk];exact h
theorem za2{W:zg}{k:Nat}{o:Obj}(h:W.heap[k]? =some o):k<W.heap.size:=by
 by_cases hlt:k<W.heap.size
 ·exact hlt
 ·have hn:W.heap[k]? =none:=by simp;omega
  rw[hn]at h;cases h
theorem yz0(n:Nat):madeCells (zc zb 0).cells (n*1)=cellsOf (zn n 0):=by
 apply Array.ext
 ·simp[madeCells,cellsOf]
 ·intro i h1 h2
  simp[madeCells,cellsOf,Value.cells,Nat.mod_one]
theorem yz8(zs:List Int)(k:Nat)(h:k<zs.length):
 (zs.take k++zn (zs.length - k) 0).set k (zs.getD k 0)=zs.take (k+1)++zn (zs.length - (k+1)) 0:=by
 have e:zs.length - k=(zs.length - (k+1))+1:=by omega
 rw[e,List.replicate_succ,yK _ _ (by simp;omega)];have hl:(zs.take k).length=k:=by simp;omega
 have e2:zs.getD k 0=zs[k]:=by simp[zw,h]
 rw[hl,yF,zL,yd h,e2,z7];rfl
theorem z19{a b:List Int}{p q:Bool}(h:a=b)(k:p=q):Ending.returned (.tuple #[.agg (cellsOf a),.bool p])=Ending.returned (.tuple #[.agg (cellsOf b),.bool q]):=by rw[h,k]
def og6(zs:List Int)(i f:Nat):Int:=zs.getD (i*6+f) 0
theorem zq2{w:zg}{b off:Nat}{zs:List Int}{n:Nat}(h:∀j,j<zs.length->w.cell? ⟨b,off+j,none⟩=some (zc zb (zs.getD j 0)))(hl:zs.length=n*6)(i:Nat)(hi:i<n):
 w.cell? ⟨b,off+i*6,none⟩=some (zc zb (og6 zs i 0))/\w.cell? ⟨b,off+i*6+1,none⟩=some (zc zb (og6 zs i 1))/\w.cell? ⟨b,off+i*6+2,none⟩=some (zc zb (og6 zs i 2))/\w.cell? ⟨b,off+i*6+3,none⟩=some (zc zb (og6 zs i 3))/\w.cell? ⟨b,off+i*6+4,none⟩=some (zc zb (og6 zs i 4))/\w.cell? ⟨b,off+i*6+5,none⟩=some (zc zb (og6 zs i 5)):=by
 have hb:i*6+6<=zs.length:=by omega
 refine⟨?_,?_,?_,?_,?_,?_⟩
 ·exact h (i*6) (by omega)
 ·rw[yx];exact h (i*6+1) (by omega)
 ·rw[yx];exact h (i*6+2) (by omega)
 ·rw[yx];exact h (i*6+3) (by omega)
 ·rw[yx];exact h (i*6+4) (by omega)
 ·rw[yx];exact h (i*6+5) (by omega)
def og5(zs:List Int)(i f:Nat):Int:=zs.getD (i*5+f) 0
theorem zy6{w:zg}{b off:Nat}{zs:List Int}{n:Nat}(h:∀j,j<zs.length->w.cell? ⟨b,off+j,none⟩=some (zc zb (zs.getD j 0)))(hl:zs.length=n*5)(i:Nat)(hi:i<n):
 w.cell? ⟨b,off+i*5,none⟩=some (zc zb (og5 zs i 0))/\w.cell? ⟨b,off+i*5+1,none⟩=some (zc zb (og5 zs i 1))/\w.cell? ⟨b,off+i*5+2,none⟩=some (zc zb (og5 zs i 2))/\w.cell? ⟨b,off+i*5+3,none⟩=some (zc zb (og5 zs i 3))/\w.cell? ⟨b,off+i*5+4,none⟩=some (zc zb (og5 zs i 4)):=by
 have hb:i*5+5<=zs.length:=by omega
 refine⟨?_,?_,?_,?_,?_⟩
 ·exact h (i*5) (by omega)
 ·rw[yx];exact h (i*5+1) (by omega)
 ·rw[yx];exact h (i*5+2) (by omega)
 ·rw[yx];exact h (i*5+3) (by omega)
 ·rw[yx];exact h (i*5+4) (by omega)
def zi2(f t:Int):Bool:=inB f 0 1000000&&inB t f 1000000
theorem y19{f t:Int}(h1:0<=f)(h2:f<=t)(h3:t<=1000000):zi2 f t=true:=by
 unfold zi2;rw[zf3 (by omega),zf3 (by omega)];rfl
theorem z79{f t:Int}(h:¬(0<=f/\f<=t/\t<=1000000)):zi2 f t=false:=by
 unfold zi2;cases h1:inB f 0 1000000
 ·rfl
 ·cases h2:inB t f 1000000
  ·rfl
  ·have:=zc7 h1;have:=zc7 h2;omega
def zv8(n o1 o2 o3 o4 o5:Int):Bool:=inB o1 0 (n - 1)&&inB o2 0 1000&&zi2 o3 o4&&inB o5 0 10000
def zI7(n o0 o1 o2 o3 o4 o5:Int):Bool:=inB o0 1 1000000000&&zv8 n o1 o2 o3 o4 o5
def zy4(n o1 o2 o3 o4:Int):Bool:=inB o1 0 (n - 1)&&inB o2 0 1000&&zi2 o3 o4
def zM7(n o0 o1 o2 o3 o4:Int):Bool:=inB o0 1 1000000000&&zy4 n o1 o2 o3 o4
def zw5(n:Int)(zs:List Int)(k:Nat):Prop:=∀i,i<k->zI7 n (og6 zs i 0) (og6 zs i 1) (og6 zs i 2) (og6 zs i 3) (og6 zs i 4) (og6 zs i 5)=true/\(0<i->og6 zs (i - 1) 0<og6 zs i 0)
def zt4(n:Int)(zs:List Int)(k:Nat):Bool:=decide (k<=12/\∀i,i<k->zI7 n (og6 zs i 0) (og6 zs i 1) (og6 zs i 2) (og6 zs i 3) (og6 zs i 4) (og6 zs i 5)=true/\(0<i->og6 zs (i - 1) 0<og6 zs i 0))
theorem zU7{n:Int}{zs:List Int}{k:Nat}(h:k<=12)(ht:zw5 n zs k):zt4 n zs k=true:=by
 unfold zt4;exact zS ⟨h,ht⟩
theorem zd9{n:Int}{zs:List Int}{k:Nat}(h:zt4 n zs k=true):k<=12/\zw5 n zs k:=by
 unfold zt4 at h;have:=zX h;exact⟨this.1,this.2⟩
theorem yq9{n:Int}{zs:List Int}{k:Nat}(h:¬k<=12):zt4 n zs k=false:=zU fun x=>h x.1
theorem z66{n:Int}{zs:List Int}{m k:Nat}(hk:k<m)(h:¬(zI7 n (og6 zs k 0) (og6 zs k 1) (og6 zs k 2) (og6 zs k 3) (og6 zs k 4) (og6 zs k 5)=true/\(0<k->og6 zs (k - 1) 0<og6 zs k 0))):zt4 n zs m=false:=zU fun x=>h (x.2 k hk)
theorem zH5(n:Int)(zs:List Int):zw5 n zs 0:=fun i hi=>by omega
theorem z18{n:Int}{zs:List Int}{k:Nat}(h:zw5 n zs k)(h1:zI7 n (og6 zs k 0) (og6 zs k 1) (og6 zs k 2) (og6 zs k 3) (og6 zs k 4) (og6 zs k 5)=true)(h2:0<k->og6 zs (k - 1) 0<og6 zs k 0):zw5 n zs (k+1):=by
 intro i hi;by_cases e:i=k
 ·subst e;exact⟨h1,h2⟩
 ·exact h i (by omega)
def zo0(zs:List Int):Nat->Int
 |0=>0
 |k+1=>og6 zs k 0
theorem zH8{n:Int}{zs:List Int}{k:Nat}(h:zw5 n zs k):0<=zo0 zs k/\zo0 zs k<=1000000000:=by
 cases k with
 |zero=>simp[zo0]
 |succ k=>
  have h1:=(h k (by omega)).1;unfold zI7 at h1;rw[zY]at h1;have:=zc7 h1.1;show 0<=og6 zs k 0/\og6 zs k 0<=1000000000;omega
theorem yD4{n:Int}{zs:List Int}{k:Nat}(h:zw5 n zs k)(h1:inB (og6 zs k 0) (zo0 zs k+1) 1000000000=true)(h2:zv8 n (og6 zs k 1) (og6 zs k 2) (og6 zs k 3) (og6 zs k 4) (og6 zs k 5)=true):
 zI7 n (og6 zs k 0) (og6 zs k 1) (og6 zs k 2) (og6 zs k 3) (og6 zs k 4) (og6 zs k 5)=true/\(0<k->og6 zs (k - 1) 0<og6 zs k 0):=by
 have hb:=zH8 h;have hi:=zc7 h1;refine⟨?_,fun hk=> ?_⟩
 ·unfold zI7;rw[zf3 (by omega),h2];rfl
 ·obtain⟨j,rfl⟩:∃j,k=j+1:=⟨k - 1,by omega⟩
  simp only[zo0]at hi;simp only[yO];omega
theorem zK4{n:Int}{zs:List Int}{k:Nat}(h:¬(inB (og6 zs k 0) (zo0 zs k+1) 1000000000=true/\zv8 n (og6 zs k 1) (og6 zs k 2) (og6 zs k 3) (og6 zs k 4) (og6 zs k 5)=true)):
 ¬(zI7 n (og6 zs k 0) (og6 zs k 1) (og6 zs k 2) (og6 zs k 3) (og6 zs k 4) (og6 zs k 5)=true/\(0<k->og6 zs (k - 1) 0<og6 zs k 0)):=by
 rintro⟨h1,h2⟩;unfold zI7 at h1;rw[zY]at h1;refine h ⟨zf3 ?_,h1.2⟩;have hi:=zc7 h1.1;cases k with
 |zero=>simp only[zo0];omega
 |succ j=>
  have:=h2 (by omega);simp only[yO]at this;simp only[zo0];omega
def zw6(n:Int)(zs:List Int)(k:Nat):Prop:=∀i,i<k->zM7 n (og5 zs i 0) (og5 zs i 1) (og5 zs i 2) (og5 zs i 3) (og5 zs i 4)=true/\(0<i->og5 zs (i - 1) 0<og5 zs i 0)
def zx7(n:Int)(zs:List Int)(k:Nat):Bool:=decide (k<=5/\∀i,i<k->zM7 n (og5 zs i 0) (og5 zs i 1) (og5 zs i 2) (og5 zs i 3) (og5 zs i 4)=true/\(0<i->og5 zs (i - 1) 0<og5 zs i 0))
theorem zY2{n:Int}{zs:List Int}{k:Nat}(h:k<=5)(ht:zw6 n zs k):zx7 n zs k=true:=by
 unfold zx7;exact zS ⟨h,ht⟩
theorem zf6{n:Int}{zs:List Int}{k:Nat}(h:zx7 n zs k=true):k<=5/\zw6 n zs k:=by
 unfold zx7 at h;have:=zX h;exact⟨this.1,this.2⟩
theorem yq3{n:Int}{zs:List Int}{k:Nat}(h:¬k<=5):zx7 n zs k=false:=zU fun x=>h x.1
theorem z52{n:Int}{zs:List Int}{m k:Nat}(hk:k<m)(h:¬(zM7 n (og5 zs k 0) (og5 zs k 1) (og5 zs k 2) (og5 zs k 3) (og5 zs k 4)=true/\(0<k->og5 zs (k - 1) 0<og5 zs k 0))):zx7 n zs m=false:=zU fun x=>h (x.2 k hk)
theorem zE9(n:Int)(zs:List Int):zw6 n zs 0:=fun i hi=>by omega
theorem z14{n:Int}{zs:List Int}{k:Nat}(h:zw6 n zs k)(h1:zM7 n (og5 zs k 0) (og5 zs k 1) (og5 zs k 2) (og5 zs k 3) (og5 zs k 4)=true)(h2:0<k->og5 zs (k - 1) 0<og5 zs k 0):zw6 n zs (k+1):=by
 intro i hi;by_cases e:i=k
 ·subst e;exact⟨h1,h2⟩
 ·exact h i (by omega)
def zo4(zs:List Int):Nat->Int
 |0=>0
 |k+1=>og5 zs k 0
theorem zF4{n:Int}{zs:List Int}{k:Nat}(h:zw6 n zs k):0<=zo4 zs k/\zo4 zs k<=1000000000:=by
 cases k with
 |zero=>simp[zo4]
 |succ k=>
  have h1:=(h k (by omega)).1;unfold zM7 at h1;rw[zY]at h1;have:=zc7 h1.1;show 0<=og5 zs k 0/\og5 zs k 0<=1000000000;omega
theorem yB4{n:Int}{zs:List Int}{k:Nat}(h:zw6 n zs k)(h1:inB (og5 zs k 0) (zo4 zs k+1) 1000000000=true)(h2:zy4 n (og5 zs k 1) (og5 zs k 2) (og5 zs k 3) (og5 zs k 4)=true):
 zM7 n (og5 zs k 0) (og5 zs k 1) (og5 zs k 2) (og5 zs k 3) (og5 zs k 4)=true/\(0<k->og5 zs (k - 1) 0<og5 zs k 0):=by
 have hb:=zF4 h;have hi:=zc7 h1;refine⟨?_,fun hk=> ?_⟩
 ·unfold zM7;rw[zf3 (by omega),h2];rfl
 ·obtain⟨j,rfl⟩:∃j,k=j+1:=⟨k - 1,by omega⟩
  simp only[zo4]at hi;simp only[yO];omega
theorem zM4{n:Int}{zs:List Int}{k:Nat}(h:¬(inB (og5 zs k 0) (zo4 zs k+1) 1000000000=true/\zy4 n (og5 zs k 1) (og5 zs k 2) (og5 zs k 3) (og5 zs k 4)=true)):
 ¬(zM7 n (og5 zs k 0) (og5 zs k 1) (og5 zs k 2) (og5 zs k 3) (og5 zs k 4)=true/\(0<k->og5 zs (k - 1) 0<og5 zs k 0)):=by
 rintro⟨h1,h2⟩;unfold zM7 at h1;rw[zY]at h1;refine h ⟨zf3 ?_,h1.2⟩;have hi:=zc7 h1.1;cases k with
 |zero=>simp only[zo4];omega
 |succ j=>
  have:=h2 (by omega);simp only[yO]at this;simp only[zo4];omega
def zc8(n:Int)(zs os vs:List Int)(ko kv:Nat)(fine:Int):Bool:=zs6 n zs&&zt4 n os ko&&zx7 n vs kv&&inB fine 0 1000000
theorem y27{w w1:zg}{c0 c1 c2 c3 c4:Value}{T:TypeId}(hb:Below (w.alloc (zd #[c0,c1,c2,c3,c4] T)).heap.size (w.alloc (zd #[c0,c1,c2,c3,c4] T)) w1):
 Below w.heap.size w w1/\w1.heap[w.heap.size]? =some (zd #[c0,c1,c2,c3,c4] T (0,0)):=
 ⟨(zK _).trans (hb.mono (by simp)),za0 hb (by simp) (zN _ _)⟩
theorem zu7{w w1 w2:zg}{k:Nat}{o:Obj}(hb:Below w1.heap.size w1 w2)(hB:Below w.heap.size w w1)(hr:w1.heap[k]? =some o):
 Below w.heap.size w w2/\w2.heap[k]? =some o:=⟨hB.trans (hb.mono hB.size),za0 hb (za2 hr) hr⟩
theorem za7{w:zg}{k:Nat}{c0 c1 c2 c3 c4:Value}{T:TypeId}(r:w.heap[k]? =some (zd #[c0,c1,c2,c3,c4] T (0,0))):
 w.cell? ⟨k,0,none⟩=some c0/\w.cell? ⟨k,1,none⟩=some c1/\w.cell? ⟨k,2,none⟩=some c2/\w.cell? ⟨k,3,none⟩=some c3/\w.cell? ⟨k,4,none⟩=some c4:=by
 refine⟨?_,?_,?_,?_,?_⟩
 ·rw[zR _ _ 0 _ _ _ r];simp
 ·rw[zR _ _ 1 _ _ _ r];simp
 ·rw[zR _ _ 2 _ _ _ r];simp
 ·rw[zR _ _ 3 _ _ _ r];simp
 ·rw[zR _ _ 4 _ _ _ r];simp
theorem zh8{w:zg}{k:Nat}{c0 c1 c2 c3 c4 c5:Value}{T:TypeId}(r:w.heap[k]? =some (zd #[c0,c1,c2,c3,c4,c5] T (0,0))):
 w.cell? ⟨k,0,none⟩=some c0/\w.cell? ⟨k,1,none⟩=some c1/\w.cell? ⟨k,2,none⟩=some c2/\w.cell? ⟨k,3,none⟩=some c3/\w.cell? ⟨k,4,none⟩=some c4/\w.cell? ⟨k,5,none⟩=some c5:=by
 refine⟨?_,?_,?_,?_,?_,?_⟩
 ·rw[zR _ _ 0 _ _ _ r];simp
 ·rw[zR _ _ 1 _ _ _ r];simp
 ·rw[zR _ _ 2 _ _ _ r];simp
 ·rw[zR _ _ 3 _ _ _ r];simp
 ·rw[zR _ _ 4 _ _ _ r];simp
 ·rw[zR _ _ 5 _ _ _ r];simp
end Go.Proofs.YtkchnomkiboihaaGreat
namespace Go.Proofs.YtkchnomkiboihaaGreat
open List renaming range→zo
open Q
def zS7(zs:List Int)(n:Nat)(id:Int):Option Nat:=(zo n).find? fun i=>og6 zs i 0==id
def zm0(zs:List Int)(n:Nat)(id:Int):Bool:=(zS7 zs n id).isSome
def zd0(zs:List Int)(n:Nat)(id:Int)(f:Nat):Int:=match zS7 zs n id with
 |some i=>og6 zs i f
 |none=>0
theorem y07{zs:List Int}{n:Nat}{id:Int}{i:Nat}(hi:i<n)(h:og6 zs i 0=id)(hno:∀j,j<i->og6 zs j 0≠id):zS7 zs n id=some i:=by
 unfold zS7;rw[yt];exact⟨by simp[h],by simpa using hi,fun j hj=>by simpa using hno j hj⟩
theorem zZ8{zs:List Int}{n:Nat}{id:Int}(hno:∀j,j<n->og6 zs j 0≠id):zS7 zs n id=none:=by
 unfold zS7;rw[yP];intro j hj;have:=hno j (by simpa using hj);simpa using this
theorem ym5{zs:List Int}{n:Nat}{id:Int}{i:Nat}(h:zS7 zs n id=some i)(f:Nat):zd0 zs n id f=og6 zs i f:=by unfold zd0;rw[h]
theorem zK8{zs:List Int}{n:Nat}{id:Int}(h:zS7 zs n id=none)(f:Nat):zd0 zs n id f=0:=by unfold zd0;rw[h]
theorem yl2{zs:List Int}{n:Nat}{id:Int}{i:Nat}(h:zS7 zs n id=some i):zm0 zs n id=true:=by unfold zm0;rw[h];rfl
theorem zL5{zs:List Int}{n:Nat}{id:Int}(h:zS7 zs n id=none):zm0 zs n id=false:=by unfold zm0;rw[h];rfl
def ya9(zs:List Int)(n:Nat)(id:Int):Option Nat:=(zo n).find? fun i=>og5 zs i 0==id
def fnd5T(zs:List Int)(n:Nat)(id:Int):Bool:=(ya9 zs n id).isSome
def zc2(zs:List Int)(n:Nat)(id:Int)(f:Nat):Int:=match ya9 zs n id with
 |some i=>og5 zs i f
 |none=>0
theorem ys5{zs:List Int}{n:Nat}{id:Int}{i:Nat}(hi:i<n)(h:og5 zs i 0=id)(hno:∀j,j<i->og5 zs j 0≠id):ya9 zs n id=some i:=by
 unfold ya9;rw[yt];exact⟨by simp[h],by simpa using hi,fun j hj=>by simpa using hno j hj⟩
theorem zT7{zs:List Int}{n:Nat}{id:Int}(hno:∀j,j<n->og5 zs j 0≠id):ya9 zs n id=none:=by
 unfold ya9;rw[yP];intro j hj;have:=hno j (by simpa using hj);simpa using this
theorem yj1{zs:List Int}{n:Nat}{id:Int}{i:Nat}(h:ya9 zs n id=some i)(f:Nat):zc2 zs n id f=og5 zs i f:=by unfold zc2;rw[h]
theorem zN1{zs:List Int}{n:Nat}{id:Int}(h:ya9 zs n id=none)(f:Nat):zc2 zs n id f=0:=by unfold zc2;rw[h]
theorem yj7{zs:List Int}{n:Nat}{id:Int}{i:Nat}(h:ya9 zs n id=some i):fnd5T zs n id=true:=by unfold fnd5T;rw[h];rfl
theorem zN4{zs:List Int}{n:Nat}{id:Int}(h:ya9 zs n id=none):fnd5T zs n id=false:=by unfold fnd5T;rw[h];rfl
end Go.Proofs.YtkchnomkiboihaaGreat
namespace Go.Proofs.YtkchnomkiboihaaGreat
open List renaming range→zo,getD→zw
open Go.RowKit
open Q
def zn2(os:List Int)(ko:Nat)(ids:List Int):Nat->Int
 |0=>0
 |k+1=>zn2 os ko ids k+zd0 os ko (ids.getD k 0) 2
theorem z86{n:Int}{os:List Int}{ko:Nat}(h:zt4 n os ko=true)(id:Int):0<=zd0 os ko id 2/\zd0 os ko id 2<=1000:=by
 unfold zd0;cases hf:zS7 os ko id with
 |none=>simp
 |some i=>
  have hi:i<ko:=by
   unfold zS7 at hf;rw[yt]at hf;have:=hf.2.1;simpa using this
  have:=((zd9 h).2 i hi).1;unfold zI7 zv8 at this;simp only[zY]at this;have:=zc7 this.2.1.1.2;simpa using this
theorem yn8{n:Int}{zs os vs:List Int}{ko kv:Nat}{fine:Int}(h:zc8 n zs os vs ko kv fine=true):zt4 n os ko=true:=by
 unfold zc8 at h;simp only[zY]at h;exact h.1.1.2
theorem zE4{n:Int}{os:List Int}{ko:Nat}(h:zt4 n os ko=true)(ids:List Int):∀k,0<=zn2 os ko ids k/\zn2 os ko ids k<=1000*k
 |0=>by simp[zn2]
 |k+1=>by
  have ih:=zE4 h ids k;have:=z86 h (ids.getD k 0);unfold zn2;omega
def zx5(ids:List Int)(k:Nat)(id:Int):Bool:=(zo k).any fun j=>ids.getD j 0==id
theorem zH4{ids:List Int}{k j:Nat}{id:Int}(hj:j<k)(h:ids.getD j 0=id):zx5 ids k id=true:=by
 unfold zx5;rw[List.any_eq_true];exact⟨j,by simpa using hj,by rw[h];simp⟩
theorem zC9{ids:List Int}{k:Nat}{id:Int}(h:∀j,j<k->ids.getD j 0≠id):zx5 ids k id=false:=by
 unfold zx5;rw[List.any_eq_false];intro j hj;have:=h j (by simpa using hj);simpa using this
def zY7(os:List Int)(ko:Nat)(ids:List Int)(k:Nat):Bool:=zm0 os ko (ids.getD k 0)&& !zx5 ids k (ids.getD k 0)
def zv7(os:List Int)(ko:Nat)(ids:List Int)(k:Nat):Prop:=∀j,j<k->zY7 os ko ids j=true
def zp1(os:List Int)(ko:Nat)(ids:List Int):Bool:=decide (ids.length<=12/\∀j,j<ids.length->zY7 os ko ids j=true)
theorem z78{os:List Int}{ko:Nat}{ids:List Int}(h:ids.length<=12)(ht:zv7 os ko ids ids.length):zp1 os ko ids=true:=by
 unfold zp1;exact zS ⟨h,ht⟩
theorem zg3{os:List Int}{ko:Nat}{ids:List Int}(h:zp1 os ko ids=true):ids.length<=12/\zv7 os ko ids ids.length:=by
 unfold zp1 at h;have:=zX h;exact⟨this.1,this.2⟩
theorem zF8{os:List Int}{ko:Nat}{ids:List Int}(h:¬ids.length<=12):zp1 os ko ids=false:=zU fun x=>h x.1
theorem zz1{os:List Int}{ko:Nat}{ids:List Int}{k:Nat}(hk:k<ids.length)(h:zY7 os ko ids k=false):zp1 os ko ids=false:=zU fun x=>by
 have:=x.2 k hk;rw[h]at this;cases this
theorem zA0(os:List Int)(ko:Nat)(ids:List Int):zv7 os ko ids 0:=fun j hj=>by omega
theorem zA5{os:List Int}{ko:Nat}{ids:List Int}{k:Nat}(h:zv7 os ko ids k)(h1:zY7 os ko ids k=true):zv7 os ko ids (k+1):=by
 intro j hj;by_cases e:j=k
 ·rw[e];exact h1
 ·exact h j (by omega)
theorem zz0{os:List Int}{ko:Nat}{ids:List Int}{k:Nat}{id:Int}(hid:ids.getD k 0=id){a b:Bool}(h1:zm0 os ko id=a)(h2:zx5 ids k id=b):zY7 os ko ids k=(a&& !b):=by
 unfold zY7;rw[hid,h1,h2]
def zm9(c:Bool)(vs os:List Int)(kv ko:Nat)(veh:Int)(ids:List Int):Int:=
 if c=false then 1 else if fnd5T vs kv veh=false then 2 else if zp1 os ko ids=false then 3 else if zc2 vs kv veh 2<zn2 os ko ids ids.length then 4 else 0
theorem yG0{c:Bool}{vs os:List Int}{kv ko:Nat}{veh:Int}{ids:List Int}(h:c=false):zm9 c vs os kv ko veh ids=1:=by
 unfold zm9;rw[zV h]
theorem yw1{c:Bool}{vs os:List Int}{kv ko:Nat}{veh:Int}{ids:List Int}(h:c=true)(h2:fnd5T vs kv veh=false):zm9 c vs os kv ko veh ids=2:=by
 unfold zm9;rw[zW (by simp[h]),zV h2]
theorem zQ6{c:Bool}{vs os:List Int}{kv ko:Nat}{veh:Int}{ids:List Int}(h:c=true)(h2:fnd5T vs kv veh=true)(h3:zp1 os ko ids=false):zm9 c vs os kv ko veh ids=3:=by
 unfold zm9;rw[zW (by simp[h]),zW (by simp[h2]),zV h3]
theorem yv1{c:Bool}{vs os:List Int}{kv ko:Nat}{veh:Int}{ids:List Int}(h:c=true)(h2:fnd5T vs kv veh=true)(h3:zp1 os ko ids=true)(h4:zc2 vs kv veh 2<zn2 os ko ids ids.length):zm9 c vs os kv ko veh ids=4:=by
 unfold zm9;rw[zW (by simp[h]),zW (by simp[h2]),zW (by simp[h3]),zV h4]
theorem yy7{c:Bool}{vs os:List Int}{kv ko:Nat}{veh:Int}{ids:List Int}(h:c=true)(h2:fnd5T vs kv veh=true)(h3:zp1 os ko ids=true)(h4:¬zc2 vs kv veh 2<zn2 os ko ids ids.length):zm9 c vs os kv ko veh ids=0:=by
 unfold zm9;rw[zW (by simp[h]),zW (by simp[h2]),zW (by simp[h3]),zW h4]
theorem zf5{c:Bool}{vs os:List Int}{kv ko:Nat}{veh:Int}{ids:List Int}(h:zm9 c vs os kv ko veh ids=0):c=true/\fnd5T vs kv veh=true/\zp1 os ko ids=true:=by
 unfold zm9 at h;by_cases c1:c=false
 ·rw[zV c1]at h;omega
 ·rw[zW c1]at h
  by_cases c2:fnd5T vs kv veh=false
  ·rw[zV c2]at h;omega
  ·rw[zW c2]at h
   by_cases c3:zp1 os ko ids=false
   ·rw[zV c3]at h;omega
   ·exact⟨by simpa using c1,by simpa using c2,by simpa using c3⟩
def zd1(os:List Int)(ko:Nat)(ids:List Int):List Int:=(zo (ids.length*6)).map fun j=>zd0 os ko (ids.getD (j / 6) 0) (j % 6)
theorem zj4(os:List Int)(ko:Nat)(ids:List Int):(zd1 os ko ids).length=ids.length*6:=by simp[zd1]
theorem zk5(os:List Int)(ko:Nat)(ids:List Int){k f:Nat}(hk:k<ids.length)(hf:f<6):og6 (zd1 os ko ids) k f=zd0 os ko (ids.getD k 0) f:=by
 unfold og6 zd1;have hj:k*6+f<ids.length*6:=by omega
 have e1:(k*6+f) / 6=k:=by omega
 have e2:(k*6+f) % 6=f:=by omega
 rw[zw,ye,List.getElem?_range hj];simp only[yC,yJ,e1,e2]
theorem zN8{n:Int}{os:List Int}{ko:Nat}(h:zt4 n os ko=true)(hn:1<=n)(id:Int):
 (0<=zd0 os ko id 1/\zd0 os ko id 1<n)/\(0<=zd0 os ko id 2/\zd0 os ko id 2<=1000)/\(0<=zd0 os ko id 3/\zd0 os ko id 3<=1000000)/\(0<=zd0 os ko id 4/\zd0 os ko id 4<=1000000)/\(0<=zd0 os ko id 5/\zd0 os ko id 5<=10000):=by
 unfold zd0;cases hf:zS7 os ko id with
 |none=>simp;omega
 |some i=>
  have hi:i<ko:=by
   unfold zS7 at hf;rw[yt]at hf;have:=hf.2.1;simpa using this
  have:=((zd9 h).2 i hi).1;unfold zI7 zv8 zi2 at this;simp only[zY]at this;obtain⟨_,⟨⟨h1,h2⟩,h3,h4⟩,h5⟩:=this;have h1:=zc7 h1;have h2:=zc7 h2;have h3:=zc7 h3;have h4:=zc7 h4;have h5:=zc7 h5;simp only[];omega
theorem zs3{n:Int}{vs:List Int}{kv:Nat}(h:zx7 n vs kv=true)(hn:1<=n)(id:Int):
 (0<=zc2 vs kv id 1/\zc2 vs kv id 1<n)/\(0<=zc2 vs kv id 2/\zc2 vs kv id 2<=1000)/\(0<=zc2 vs kv id 3/\zc2 vs kv id 3<=1000000)/\(0<=zc2 vs kv id 4/\zc2 vs kv id 4<=1000000):=by
 unfold zc2;cases hf:ya9 vs kv id with
 |none=>simp;omega
 |some i=>
  have hi:i<kv:=by
   unfold ya9 at hf;rw[yt]at hf;have:=hf.2.1;simpa using this
  have:=((zf6 h).2 i hi).1;unfold zM7 zy4 zi2 at this;simp only[zY]at this;obtain⟨_,⟨h1,h2⟩,h3,h4⟩:=this;have h1:=zc7 h1;have h2:=zc7 h2;have h3:=zc7 h3;have h4:=zc7 h4;simp only[];omega
theorem zb3{n:Int}{zs os vs:List Int}{ko kv:Nat}{fine:Int}(h:zc8 n zs os vs ko kv fine=true):zs6 n zs=true/\zt4 n os ko=true/\zx7 n vs kv=true/\1<=n/\0<=fine/\fine<=1000000:=by
 unfold zc8 at h;simp only[zY]at h;exact⟨h.1.1.1,h.1.1.2,h.1.2,(zr2 h.1.1.1).1,zc7 h.2⟩
def tmI(n:Int)(zs:List Int)(x y:Int):Int:=zs.getD (x.toNat*n.toNat+y.toNat) 0
theorem zx8{n:Int}{zs:List Int}(h:zs6 n zs=true)(x y:Int):0<=tmI n zs x y/\tmI n zs x y<=10000:=by
 unfold tmI;by_cases hl:x.toNat*n.toNat+y.toNat<zs.length
 ·have:=(zr2 h).2.2.2 _ hl
  exact⟨this.1,this.2.1⟩
 ·rw[zw,yb (by omega)]
  simp
def plc(ros:List Int)(home:Int):Nat->Int
 |0=>home
 |k+1=>og6 ros k 1
def z64(n:Int)(ros:List Int)(m:Nat):Prop:=∀k,k<m->(0<=og6 ros k 1/\og6 ros k 1<n)/\(0<=og6 ros k 2/\og6 ros k 2<=1000)/\(0<=og6 ros k 3/\og6 ros k 3<=1000000)/\(0<=og6 ros k 4/\og6 ros k 4<=1000000)/\(0<=og6 ros k 5/\og6 ros k 5<=10000)
theorem z56{n:Int}{os:List Int}{ko:Nat}(h:zt4 n os ko=true)(hn:1<=n)(ids:List Int):z64 n (zd1 os ko ids) ids.length:=by
 intro k hk;rw[zk5 os ko ids hk (by omega),zk5 os ko ids hk (by omega),zk5 os ko ids hk (by omega),zk5 os ko ids hk (by omega),zk5 os ko ids hk (by omega)];exact zN8 h hn _
theorem zT1{n:Int}{ros:List Int}{m:Nat}(h:z64 n ros m){home:Int}(h0:0<=home)(h1:home<n):∀k,k<=m->0<=plc ros home k/\plc ros home k<n
 |0,_=>⟨h0,h1⟩
 |k+1,hk=>(h k (by omega)).1
def z02(n:Int)(zs ros:List Int)(home frm:Int):Nat->Int
 |0=>frm
 |k+1=>max (z02 n zs ros home frm k+tmI n zs (plc ros home k) (og6 ros k 1)) (og6 ros k 3)+og6 ros k 5
def ym4(n:Int)(zs ros:List Int)(home frm:Int)(k:Nat):Int:=z02 n zs ros home frm k+tmI n zs (plc ros home k) (og6 ros k 1)
def zi0(n:Int)(zs ros:List Int)(home frm:Int)(k:Nat):Int:=max (ym4 n zs ros home frm k) (og6 ros k 3)
theorem zV9(n:Int)(zs ros:List Int)(home frm:Int)(k:Nat):z02 n zs ros home frm (k+1)=zi0 n zs ros home frm k+og6 ros k 5:=rfl
def homeV(n:Int)(zs ros:List Int)(m:Nat)(home frm:Int):Int:=z02 n zs ros home frm m+tmI n zs (plc ros home m) home
theorem zN9{n:Int}{zs ros:List Int}{m:Nat}{home frm:Int}(hz:zs6 n zs=true)(h:z64 n ros m)(hf:0<=frm/\frm<=1000000):∀k,k<=m->0<=z02 n zs ros home frm k/\z02 n zs ros home frm k<=1000000+20000*k
 |0,_=>by simp only[z02];omega
 |k+1,hk=>by
  have ih:=zN9 (home:=home) hz h hf k (by omega);have h1:=zx8 hz (plc ros home k) (og6 ros k 1);have h2:=h k (by omega);simp only[z02];omega
def zr9(n:Int)(zs ros:List Int)(home frm:Int)(k:Nat):Prop:=∀j,j<k->zi0 n zs ros home frm j<=og6 ros j 4
theorem zS5{n:Int}{zs ros:List Int}{home frm:Int}{k:Nat}(h:zr9 n zs ros home frm k)(h1:zi0 n zs ros home frm k<=og6 ros k 4):zr9 n zs ros home frm (k+1):=by
 intro j hj;by_cases e:j=k
 ·rw[e];exact h1
 ·exact h j (by omega)
def zx0(n:Int)(zs ros:List Int)(m:Nat)(home frm to:Int):Int:=
 if∀j,j<m->zi0 n zs ros home frm j<=og6 ros j 4 then(if to<homeV n zs ros m home frm then 6 else 0)else 5
theorem zI4{n:Int}{zs ros:List Int}{m:Nat}{home frm to:Int}{k:Nat}(hk:k<m)(h:og6 ros k 4<zi0 n zs ros home frm k):zx0 n zs ros m home frm to=5:=by
 unfold zx0;rw[zW (fun x=>by have:=x k hk;omega)]
theorem zH6{n:Int}{zs ros:List Int}{m:Nat}{home frm to:Int}(h:zr9 n zs ros home frm m)(h2:to<homeV n zs ros m home frm):zx0 n zs ros m home frm to=6:=by
 have h:∀j,j<m->zi0 n zs ros home frm j<=og6 ros j 4:=h;unfold zx0;rw[zV h,zV h2]
theorem zX0{n:Int}{zs ros:List Int}{m:Nat}{home frm to:Int}(h:zr9 n zs ros home frm m)(h2:¬to<homeV n zs ros m home frm):zx0 n zs ros m home frm to=0:=by
 have h:∀j,j<m->zi0 n zs ros home frm j<=og6 ros j 4:=h;unfold zx0;rw[zV h,zW h2]
def codeV(c:Bool)(n:Int)(zs os vs:List Int)(ko kv:Nat)(veh:Int)(ids:List Int):Int:=
 if zm9 c vs os kv ko veh ids=0 then zx0 n zs (zd1 os ko ids) ids.length (zc2 vs kv veh 1) (zc2 vs kv veh 3) (zc2 vs kv veh 4)else zm9 c vs os kv ko veh ids
theorem z82{c:Bool}{n:Int}{zs os vs:List Int}{ko kv:Nat}{veh:Int}{ids:List Int}(h:zm9 c vs os kv ko veh ids≠0):codeV c n zs os vs ko kv veh ids=zm9 c vs os kv ko veh ids:=by
 unfold codeV;rw[zW h]
theorem zv3{c:Bool}{n:Int}{zs os vs:List Int}{ko kv:Nat}{veh:Int}{ids:List Int}(h:zm9 c vs os kv ko veh ids=0):codeV c n zs os vs ko kv veh ids=zx0 n zs (zd1 os ko ids) ids.length (zc2 vs kv veh 1) (zc2 vs kv veh 3) (zc2 vs kv veh 4):=by
 unfold codeV;rw[zV h]
theorem zg6{c:Bool}{n:Int}{zs os vs:List Int}{ko kv:Nat}{veh:Int}{ids:List Int}(h:codeV c n zs os vs ko kv veh ids=0):zm9 c vs os kv ko veh ids=0/\zx0 n zs (zd1 os ko ids) ids.length (zc2 vs kv veh 1) (zc2 vs kv veh 3) (zc2 vs kv veh 4)=0:=by
 by_cases h1:zm9 c vs os kv ko veh ids=0
 ·exact⟨h1,by rw[zv3 h1]at h;exact h⟩
 ·exact absurd (by rw[z82 h1]at h;exact h) h1
def zr6(n:Int)(zs ros:List Int)(home:Int):Nat->Int
 |0=>0
 |k+1=>zr6 n zs ros home k+tmI n zs (plc ros home k) (og6 ros k 1)
theorem z40{n:Int}{zs ros:List Int}{home:Int}(hz:zs6 n zs=true):∀k:Nat,0<=zr6 n zs ros home k/\zr6 n zs ros home k<=10000*k
 |0=>by simp only[zr6];omega
 |k+1=>by
  have ih:=z40 (ros:=ros) (home:=home) hz k;have h1:=zx8 hz (plc ros home k) (og6 ros k 1);simp only[zr6];omega
def zr1(n:Int)(zs ros:List Int)(m:Nat)(home:Int):Int:=zr6 n zs ros home m+tmI n zs (plc ros home m) home
def zo6(N:Nat)(zs:List Int)(m:Nat):List Int:=(zo N).map fun j=>if j<m then zs.getD j 0 else 0
theorem zd6(N:Nat)(zs:List Int)(m:Nat):(zo6 N zs m).length=N:=by simp[zo6]
theorem yf4(N:Nat)(zs:List Int)(m:Nat):(zo6 N zs m).set m (zs.getD m 0)=zo6 N zs (m+1):=by
 apply List.ext_getElem
 ·simp[zo6]
 ·intro j h1 h2
  by_cases e:m=j
  ·subst e
   simp only[zo6,List.getElem_set,yQ,yN,if_true];rw[zV (by omega)]
  ·simp only[zo6,List.getElem_set,yQ,yN,zW e]
   by_cases c:j<m
   ·rw[zV c,zV (by omega)]
   ·rw[zW c,zW (by omega)]
theorem zI3(zs:List Int):zo6 zs.length zs zs.length=zs:=by
 apply List.ext_getElem
 ·simp[zo6]
 ·intro j h1 h2
  simp only[zo6,yQ,yN];rw[zV h2];simp[zw,h2]
theorem zH0(N:Nat)(zs:List Int):zo6 N zs 0=List.replicate N 0:=by
 apply List.ext_getElem
 ·simp[zo6]
 ·intro j h1 h2
  simp[zo6]
theorem zm4{w:World}{g N m:Nat}{zs:List Int}{T:TypeId}{v:Int}(h:w.heap[g]? =some (.cells (cellsOf (zo6 N zs m)) T (0,0)))(hv:zs.getD m 0=v):
 (w.setCell ⟨g,m,none⟩ (.int .i64 v)).heap[g]? =some (.cells (cellsOf (zo6 N zs (m+1))) T (0,0)):=by
 rw[zP _ _ _ _ _ _ h,z15,<-hv,yf4]
def zk9(ids:List Int)(i:Nat):List Int:=ids.take i++ids.drop (i+1)
def insL(ids:List Int)(i:Nat)(id:Int):List Int:=ids.take i++id::ids.drop i
theorem zl4{ids:List Int}{i:Nat}(h:i<ids.length):(zk9 ids i).length=ids.length - 1:=by
 simp[zk9];omega
theorem zr4{ids:List Int}{i:Nat}(id:Int)(h:i<=ids.length):(insL ids i id).length=ids.length+1:=by
 simp[insL];omega
def rcV(n:Int)(zs os vs:List Int)(ko kv:Nat)(veh:Int)(ids:List Int):Int:=
 if codeV true n zs os vs ko kv veh ids=0 then zr1 n zs (zd1 os ko ids) ids.length (zc2 vs kv veh 1)else 0
theorem yA4{n:Int}{zs os vs:List Int}{ko kv:Nat}{veh:Int}{ids:List Int}(h:codeV true n zs os vs ko kv veh ids≠0):rcV n zs os vs ko kv veh ids=0:=by
 unfold rcV;rw[zW h]
theorem z21{n:Int}{zs os vs:List Int}{ko kv:Nat}{veh:Int}{ids:List Int}(h:codeV true n zs os vs ko kv veh ids=0):rcV n zs os vs ko kv veh ids=zr1 n zs (zd1 os ko ids) ids.length (zc2 vs kv veh 1):=by
 unfold rcV;rw[zV h]
theorem zk7{c:Bool}{n:Int}{zs os vs:List Int}{ko kv:Nat}{veh:Int}{ids:List Int}(h:codeV c n zs os vs ko kv veh ids=0):ids.length<=12:=
 (zg3 (zf5 (zg6 h).1).2.2).1
theorem zG8{c:Bool}{n:Int}{zs os vs:List Int}{ko kv:Nat}{veh:Int}{ids:List Int}(h:codeV c n zs os vs ko kv veh ids=0):c=true:=
 (zf5 (zg6 h).1).1
theorem zw2{n:Int}{zs:List Int}(hz:zs6 n zs=true)(ros:List Int)(m:Nat)(hm:m<=12)(home:Int):0<=zr1 n zs ros m home/\zr1 n zs ros m home<=130000:=by
 have h1:=z40 (ros:=ros) (home:=home) hz m;have h2:=zx8 hz (plc ros home m) home;unfold zr1;omega
theorem yA2{n:Int}{zs:List Int}(hz:zs6 n zs=true)(os vs:List Int)(ko kv:Nat)(veh:Int)(ids:List Int):0<=rcV n zs os vs ko kv veh ids/\rcV n zs os vs ko kv veh ids<=130000:=by
 by_cases h:codeV true n zs os vs ko kv veh ids=0
 ·rw[z21 h]
  exact zw2 hz _ _ (zk7 h) _
 ·rw[yA4 h];omega
def chB(c:Bool)(n:Int)(zs os vs:List Int)(ko kv:Nat)(veh:Int)(ids:List Int)(ok:Bool)(ids':List Int):Bool:=
 decide (codeV c n zs os vs ko kv veh ids=0)&&(ok&&decide (codeV c n zs os vs ko kv veh ids'=0))
def chI(ch:Bool)(v:Int):Int:=if ch then v else 0
def chL(ch:Bool)(ids':List Int):List Int:=if ch then ids' else []
def chD(ch:Bool)(n:Int)(zs os vs:List Int)(ko kv:Nat)(veh:Int)(ids ids':List Int):Int:=
 if ch then rcV n zs os vs ko kv veh ids' - rcV n zs os vs ko kv veh ids else 0
theorem yi0{c:Bool}{n:Int}{zs os vs:List Int}{ko kv:Nat}{veh:Int}{ids:List Int}(h:codeV c n zs os vs ko kv veh ids≠0)(ok:Bool)(ids':List Int):chB c n zs os vs ko kv veh ids ok ids'=false:=by
 unfold chB;rw[zU h];rfl
theorem yf2{c:Bool}{n:Int}{zs os vs:List Int}{ko kv:Nat}{veh:Int}{ids:List Int}{ok:Bool}(h:ok=false)(ids':List Int):chB c n zs os vs ko kv veh ids ok ids'=false:=by
 unfold chB;rw[h];simp
theorem yc4{c:Bool}{n:Int}{zs os vs:List Int}{ko kv:Nat}{veh:Int}{ids ids':List Int}(ok:Bool)(h:codeV c n zs os vs ko kv veh ids'≠0):chB c n zs os vs ko kv veh ids ok ids'=false:=by
 unfold chB;rw[zU h];simp
theorem yf0{c:Bool}{n:Int}{zs os vs:List Int}{ko kv:Nat}{veh:Int}{ids ids':List Int}{ok:Bool}(h:codeV c n zs os vs ko kv veh ids=0)(ho:ok=true)(h':codeV c n zs os vs ko kv veh ids'=0):chB c n zs os vs ko kv veh ids ok ids'=true:=by
 unfold chB;rw[zS h,ho,zS h'];rfl
end Go.Proofs.YtkchnomkiboihaaGreat
namespace Go.Proofs.YtkchnomkiboihaaGreat
open Q
def zn0(s:Int):Int:=bif inB s 0 2147483647 then(s*1103515245+12345) % 2147483648 else 0
theorem zS1{s:Int}(h:inB s 0 2147483647=false):zn0 s=0:=by unfold zn0;rw[h];rfl
theorem zG3{s:Int}(h:inB s 0 2147483647=true):zn0 s=(s*1103515245+12345) % 2147483648:=by unfold zn0;rw[h];rfl
theorem zQ2(s:Int):inB (zn0 s) 0 2147483647=true:=by
 refine zf3 ?_;cases h:inB s 0 2147483647
 ·rw[zS1 h];omega
 ·rw[zG3 h];omega
end Go.Proofs.YtkchnomkiboihaaGreat
namespace Go.Proofs.YtkchnomkiboihaaGreat
open List renaming range→zo
open Go.RowKit
open Q
def av(c:Nat)(pre:List Nat):List Nat:=(zo c).filter fun p=>decide (p∉pre)
def z24(c:Nat):List Int:=(zo c).map fun(p:Nat)=>(p:Int)
theorem zg9(c:Nat):(z24 c).length=c:=by simp[z24]
theorem zZ4(c:Nat):z24 (c+1)=z24 c++[(c:Int)]:=by simp[z24,yG]
end Go.Proofs.YtkchnomkiboihaaGreat
namespace Go.Proofs.YtkchnomkiboihaaGreat
open Q
def cutP(l:List Int)(v:Int):List Int:=l.filter fun x=>x !=v
theorem yj2{l:List Int}{v:Int}(h:v∉l):cutP l v=l:=by
 unfold cutP;rw[yu];intro a ha;have:a≠v:=fun e=>h (e▸ha);simpa using this
theorem zQ9{l:List Int}(h:l.Nodup):∀{i:Nat},i<l.length->cutP l (l.getD i 0)=zk9 l i:=by
 induction l with
 |nil=>intro i hi;simp at hi
 |cons a l ih=>
  intro i hi;rw[yT]at h;cases i with
  |zero=>
   show cutP (a::l) a=_;have e:cutP (a::l) a=cutP l a:=by simp[cutP]
   rw[e,yj2 h.1];simp[zk9]
  |succ i=>
   have hi':i<l.length:=by simpa using hi
   have e1:(a::l).getD (i+1) 0=l.getD i 0:=rfl;have hne:a≠l.getD i 0:=by
    intro e;apply h.1;rw[e,zM,zO hi'];simp
   have e2:cutP (a::l) (l.getD i 0)=a::cutP l (l.getD i 0):=by
    unfold cutP;rw[yv (by simpa using hne)]
   rw[e1,e2,ih h.2 hi'];simp[zk9]
theorem zJ3(l:List Int)(v:Int)(k:Nat)(h:k<l.length):cutP (l.take (k+1)) v=if l.getD k 0=v then cutP (l.take k) v else cutP (l.take k) v++[l.getD k 0]:=by
 have e:l.take (k+1)=l.take k++[l.getD k 0]:=by
  rw[yz,zM,zO h];rfl
 rw[e];unfold cutP;rw[yE];by_cases hv:l.getD k 0=v
 ·rw[zV hv,hv];simp
 ·rw[zW hv]
  congr 1
  rw[yv (by simpa using hv)];rfl
theorem yt4(l:List Int)(v:Int):(cutP l v).length<=l.length:=yj _ _
theorem zM1{l:List Int}(h:l.Nodup)(i:Nat):(zk9 l i).Nodup:=by
 have:(zk9 l i).Sublist l:=by
  unfold zk9;rw[<-List.eraseIdx_eq_take_drop_succ];exact List.eraseIdx_sublist l i
 exact h.sublist this
theorem z68(c:Nat):(z24 c).Nodup:=by
 unfold z24;exact(List.pairwise_map.2 (List.nodup_range.imp fun h=>by omega))
def pkAt(s:Int)(m:Nat):Nat:=(s / 65536 % (m:Int)).toNat
theorem ye8{s:Int}{m:Nat}(h:0<m):pkAt s m<m:=by
 have h1:=Int.emod_lt_of_pos (s / 65536) (show(0:Int)<m by omega);have h2:=Int.emod_nonneg (s / 65536) (show(m:Int)≠0 by omega);unfold pkAt;omega
theorem yF4{s:Int}{m:Nat}(h:0<m):s / 65536 % (m:Int)=(pkAt s m:Nat):=by
 have h2:=Int.emod_nonneg (s / 65536) (show(m:Int)≠0 by omega);unfold pkAt;omega
def pkL:Nat->List Int->Int->List Int×Int
 |0,_,s=>([],s)
 |k+1,L,s=>(L.getD (pkAt (zn0 s) L.length) 0::(pkL k (zk9 L (pkAt (zn0 s) L.length)) (zn0 s)).1,(pkL k (zk9 L (pkAt (zn0 s) L.length)) (zn0 s)).2)
theorem yp7(k:Nat):∀L s,(pkL k L s).1.length=k:=by
 induction k with
 |zero=>intro L s;rfl
 |succ k ih=>intro L s;simp[pkL,ih]
def zu3(s n k:Int):Bool:=inB n 0 64&&inB k 0 n&&inB s 0 2147483647
def zt0(s n k:Int):List Int:=bif zu3 s n k then(pkL k.toNat (z24 n.toNat) s).1 else []
def z88(s n k:Int):Int:=bif zu3 s n k then(pkL k.toNat (z24 n.toNat) s).2 else -1
theorem yy2{s n k:Int}(h:zu3 s n k=false):zt0 s n k=[]/\z88 s n k= -1:=by unfold zt0 z88;rw[h];exact⟨rfl,rfl⟩
theorem zu4{s:Int}{n k:Nat}(h:zu3 s n k=true):zt0 s n k=(pkL k (z24 n) s).1/\z88 s n k=(pkL k (z24 n) s).2:=by unfold zt0 z88;rw[h];exact⟨rfl,rfl⟩
theorem zG4{s n k:Int}(h:zu3 s n k=true):∃n' k':Nat,n=n'/\k=k'/\n'<=64/\k'<=n'/\0<=s/\s<=2147483647:=by
 unfold zu3 at h;simp only[zY]at h;have h1:=zc7 h.1.1;have h2:=zc7 h.1.2;have h3:=zc7 h.2;exact⟨n.toNat,k.toNat,by omega,by omega,by omega,by omega,by omega,by omega⟩
end Go.Proofs.YtkchnomkiboihaaGreat
namespace Go.Proofs.YtkchnomkiboihaaGreat
open Go.RowKit
open Q
def zz7:List Int->Int->List Int
 |[],x=>[x]
 |y::l,x=>if y<x then y::zz7 l x else x::y::l
def zr3(l:List Int):List Int:=l.foldl zz7 []
theorem zT6(l:List Int)(x:Int):zr3 (l++[x])=zz7 (zr3 l) x:=by simp[zr3,yA]
theorem z43:∀(l:List Int) (x:Int),(zz7 l x).length=l.length+1
 |[],x=>rfl
 |y::l,x=>by
  unfold zz7;split
  ·rw[yg,z43 l x,yg]
  ·simp
theorem ym2:∀(l acc:List Int),(l.foldl zz7 acc).length=acc.length+l.length
 |[],acc=>rfl
 |x::l,acc=>by rw[yD,ym2 l,z43,yg];omega
theorem zo3(l:List Int):(zr3 l).length=l.length:=by
 unfold zr3;rw[ym2];simp
theorem zz3:∀(l:List Int) (x y:Int),y∈zz7 l x↔y=x∨y∈l
 |[],x,y=>by simp[zz7]
 |z::l,x,y=>by
  unfold zz7;split
  ·rw[yn,zz3 l x y,yn]
   constructor
   ·rintro(h|h|h)
    ·exact .inr (.inl h)
    ·exact .inl h
    ·exact .inr (.inr h)
   ·rintro(h|h|h)
    ·exact .inr (.inl h)
    ·exact .inl h
    ·exact .inr (.inr h)
  ·simp
theorem yj5:∀(l acc:List Int) (y:Int),y∈l.foldl zz7 acc↔y∈acc∨y∈l
 |[],acc,y=>by simp
 |x::l,acc,y=>by
  rw[yD,yj5 l,zz3,yn];constructor
  ·rintro((h|h)|h)
   ·exact .inr (.inl h)
   ·exact .inl h
   ·exact .inr (.inr h)
  ·rintro(h|h|h)
   ·exact .inl (.inr h)
   ·exact .inl (.inl h)
   ·exact .inr h
theorem zC0(l:List Int)(y:Int):y∈zr3 l↔y∈l:=by
 unfold zr3;rw[yj5];simp
theorem zP9:∀(l:List Int) (x:Int) (k:Nat),k<=l.length->(∀j,j<k->l.getD j 0<x)->(k<l.length->¬l.getD k 0<x)->insL l k x=zz7 l x
 |[],x,k,hk,_,_=>by
  have:k=0:=by simpa using hk
  subst this;rfl
 |y::l,x,0,_,_,h2=>by
  have:¬y<x:=by simpa using h2 (by simp)
  unfold zz7 insL;rw[zW this];rfl
 |y::l,x,k+1,hk,h1,h2=>by
  have hy:y<x:=by simpa using h1 0 (by omega)
  unfold zz7;rw[zV hy,<-zP9 l x k (by simpa using hk) (fun j hj=>by simpa using h1 (j+1) (by omega)) (fun h=>by simpa using h2 (by simpa using h))];rfl
theorem zH1:∀(l:List Int) (x:Int),l.Pairwise (· <·)->x∉l->(zz7 l x).Pairwise (· <·)
 |[],x,_,_=>by simp[zz7]
 |y::l,x,h,hx=>by
  rw[yp]at h;unfold zz7;split
  ·rename_i hy
   rw[yp];refine⟨fun a ha=> ?_,zH1 l x h.2 (fun e=>hx (yh _ e))⟩;rcases(zz3 l x a).1 ha with e|e
   ·rw[e];exact hy
   ·exact h.1 a e
  ·rename_i hy
   have hne:x≠y:=fun e=>hx (by rw[e];exact ym ..)
   rw[yp];refine⟨fun a ha=> ?_,yp.2 h⟩;rcases yn.1 ha with e|e
   ·rw[e];omega
   ·have:=h.1 a e
    omega
theorem zT2:∀(l acc:List Int),acc.Pairwise (· <·)->l.Nodup->(∀x∈l,x∉acc)->(l.foldl zz7 acc).Pairwise (· <·)
 |[],acc,h,_,_=>h
 |x::l,acc,h,hn,hd=>by
  rw[yD];rw[yT]at hn;refine zT2 l _ (zH1 acc x h (hd x (ym ..))) hn.2 (fun y hy e=> ?_);rcases(zz3 acc x y).1 e with e|e
  ·rw[e]at hy;exact hn.1 hy
  ·exact hd y (yh _ hy) e
theorem zS9{l:List Int}(h:l.Nodup):(zr3 l).Pairwise (· <·):=zT2 l [] List.Pairwise.nil h (fun x _=>by simp)
theorem y17{l:List Int}(h:l.Pairwise (· <·)){i j:Nat}(hi:i<j)(hj:j<l.length):l.getD i 0<l.getD j 0:=by
 have:=yr.1 h i j (by omega) hj hi;rw[zM,zM,zO hj,zO (show i<l.length by omega)];exact this
theorem y57{P D:List Int}{x:Int}{j:Nat}(hj:j<P.length):((insL P (j+1) x++D).set (j+1) (P.getD j 0)).set j x=insL P j x++D:=by
 have hd:P.drop j=P.getD j 0::P.drop (j+1):=by
  rw[List.drop_eq_getElem_cons hj,zM,zO hj];rfl
 have ht:P.take (j+1)=P.take j++[P.getD j 0]:=by
  rw[yz,zM,zO hj];rfl
 have hl:(P.take j).length=j:=by rw[zZ];omega
 unfold insL;rw[hd,ht];simp only[z7,yR,yo];rw[yK _ _ (by rw[hl];omega),hl,show j+1 - j=1 by omega,yK _ _ (by rw[hl];omega),hl,yF];rfl
theorem yI2{P D:List Int}{x:Int}{j:Nat}(hj:j<=P.length):(insL P j x++D).getD j 0=x:=by
 have hl:(P.take j).length=j:=by rw[zZ];omega
 unfold insL;rw[z7,zM,yw (by omega),hl,yF];rfl
theorem yu7{P D:List Int}{x:Int}{j:Nat}(hj:j<P.length):(insL P (j+1) x++D).getD j 0=P.getD j 0:=by
 unfold insL;rw[z7,zM,yL (by rw[zZ];omega),yq,zV (by omega),zM]
theorem yk6{P:List Int}{x:Int}{j:Nat}(hp:P.Pairwise (· <·))(hx:x∉P)(hj:j<=P.length)(h1:∀q,j<=q->q<P.length->x<P.getD q 0)(h2:0<j->¬x<P.getD (j - 1) 0):insL P j x=zz7 P x:=by
 refine zP9 P x j hj (fun q hq=> ?_) (fun h=>by have:=h1 j (zQ _) h;omega);have h3:=h2 (by omega);have hm:P.getD (j - 1) 0∈P:=by rw[zM,zO (show j - 1<P.length by omega)];simp
 have hne:P.getD (j - 1) 0≠x:=fun e=>hx (e▸hm);by_cases e:q=j - 1
 ·rw[e];omega
 ·have:=y17 hp (i:=q) (j:=j - 1) (by omega) (by omega)
  omega
theorem yD3(l:List Int):zr3 (l.take 1)++l.drop 1=l:=by
 cases l with
 |nil=>rfl
 |cons x l=>rfl
theorem y60{l:List Int}{i:Nat}(h:i<l.length):zr3 (l.take (i+1))=zz7 (zr3 (l.take i)) (l.getD i 0):=by
 rw[yz,zO h,zM,zO h];exact zT6 _ _
theorem y14{l:List Int}{i:Nat}(h:i<l.length):l.drop i=l.getD i 0::l.drop (i+1):=by
 rw[List.drop_eq_getElem_cons h,zM,zO h];rfl
theorem y30(P:List Int)(x:Int):insL P P.length x=P++[x]:=by
 unfold insL;rw[yc,List.drop_length]
theorem yo7{l:List Int}{i:Nat}(hn:l.Nodup)(h:i<l.length):l.getD i 0∉l.take i:=by
 have:(l.take (i+1)).Nodup:=hn.sublist (List.take_sublist _ _);rw[yz,zO h]at this;have h2:=yB.1 this;rw[zM,zO h];intro e;exact h2.2.2 _ e _ (by simp) rfl
end Go.Proofs.YtkchnomkiboihaaGreat
namespace Go.Proofs.YtkchnomkiboihaaGreat
open Q
theorem zU5{L:List Int}{i:Nat}(h:i<L.length):L.getD i 0∈L:=by
 rw[zM,zO h];simp
theorem y33{L:List Int}{i:Nat}{x:Int}(h:x∈zk9 L i):x∈L:=by
 unfold zk9 at h;rcases yi.1 h with h|h
 ·exact List.mem_of_mem_take h
 ·exact yI h
theorem y04(k:Nat):∀(L:List Int) (s:Int),k<=L.length->∀x∈(pkL k L s).1,x∈L:=by
 induction k with
 |zero=>intro L s _ x hx;simp[pkL]at hx
 |succ k ih=>
  intro L s hk x hx;have hat:pkAt (zn0 s) L.length<L.length:=ye8 (by omega);simp only[pkL,yn]at hx;rcases hx with rfl|hx
  ·exact zU5 hat
  ·exact y33 (ih _ _ (by rw[zl4 hat];omega) x hx)
theorem zT3(k:Nat):∀(L:List Int) (s:Int),L.Nodup->k<=L.length->(pkL k L s).1.Nodup:=by
 induction k with
 |zero=>intro L s _ _;simp[pkL]
 |succ k ih=>
  intro L s hn hk;have hat:pkAt (zn0 s) L.length<L.length:=ye8 (by omega);have hr:k<=(zk9 L (pkAt (zn0 s) L.length)).length:=by rw[zl4 hat];omega
  simp only[pkL,yT];refine⟨fun h=> ?_,ih _ _ (zM1 hn _) hr⟩;have h2:=y04 k _ _ hr _ h;rw[<-zQ9 hn hat]at h2;unfold cutP at h2;simp at h2
theorem y36(k:Nat):∀(j:Nat) (L:List Int) (s:Int),j<=k->(pkL j L s).1=(pkL k L s).1.take j:=by
 induction k with
 |zero=>
  intro j L s hj;have:j=0:=by omega
  subst this;rfl
 |succ k ih=>
  intro j L s hj;cases j with
  |zero=>rfl
  |succ j=>simp only[pkL,yM];rw[ih j _ _ (by omega)]
theorem y71(k:Nat):∀(L:List Int) (s:Int),0<=s->0<=(pkL k L s).2:=by
 induction k with
 |zero=>intro L s h;exact h
 |succ k ih=>intro L s _;exact ih _ _ (zc7 (zQ2 s)).1
theorem y63{N:Nat}{x:Int}(h:x∈z24 N):∃y:Nat,y<N/\(y:Int)=x:=by
 unfold z24 at h;simp only[yy,List.mem_range]at h;exact h
theorem yo3{s:Int}{N K:Nat}(h:zu3 s N K=true):K<=N/\N<=64/\(zt0 s N K).length=K/\0<=z88 s N K/\(∀i,i<K->0<=(zt0 s N K).getD i 0/\(zt0 s N K).getD i 0<N/\zx5 (zt0 s N K) i ((zt0 s N K).getD i 0)=false)/\zt0 s N ((K / 2:Nat):Int)=(zt0 s N K).take (K / 2)/\zu3 s N ((K / 2:Nat):Int)=true:=by
 obtain⟨N',K',e1,e2,h1,h2,h3,h4⟩:=zG4 h;have:N=N':=by omega
 subst this;have:K=K':=by omega
 subst this;have hb2:zu3 s N ((K / 2:Nat):Int)=true:=by
  unfold zu3;rw[zf3 (show(0:Int)<=N/\(N:Int)<=64 by omega),zf3 (show(0:Int)<=((K / 2:Nat):Int)/\((K / 2:Nat):Int)<=N by omega),zf3 (show 0<=s/\s<=2147483647 by omega)];rfl
 rw[(zu4 h).1,(zu4 h).2,(zu4 hb2).1];have hl:(pkL K (z24 N) s).1.length=K:=yp7 K _ _;have hm:=y04 K (z24 N) s (by rw[zg9];exact h2);have hn:=zT3 K (z24 N) s (z68 N) (by rw[zg9];exact h2);refine⟨h2,h1,hl,y71 _ _ _ h3,?_,y36 K (K / 2) _ _ (by omega),hb2⟩;intro i hi;have hx:=hm _ (zU5 (i:=i) (by rw[hl];exact hi));obtain⟨y,hy,e⟩:=y63 hx;clear hx;refine⟨by omega,by omega,zC9 fun j hj e2=> ?_⟩;have hi':i<(pkL K (z24 N) s).1.length:=by omega
 have hj':j<(pkL K (z24 N) s).1.length:=by omega
 rw[zM,zM,zO hi',zO hj']at e2;simp only[yJ]at e2;exact yr.1 hn j i hj' hi' hj e2
