import Derived.WalkKit
import Derived.WalkSpells
import Derived.Deep.WholeRow
namespace Go.Proofs.YtjobhigmdaiinaaGreat
open Go.RowKit
theorem nmd{α:Sort _}(x:α):∃v,Hid (x=v):=⟨x,rfl⟩
theorem zu2{P:Program}{ops:Array Oper}{rest:List Oper}{o:Oper}{a:Act}{w w':World}{Q:Exit->Act->World->Prop}(v:Value)(hgd:o.guard=none)
 (hrun:(execOp a.eval o).run P w=.ok (.value v) w') (h:wpList P ops Q rest (a.put o.dst v) w'):wpList P ops Q (o::rest) a w:=
 wpList_plain hgd fun _ hK=>by unfold Oper.wp;rw[hrun];exact hK _ _ h
theorem ze5(zs:List Int)(k:Nat)(h:k<zs.length):zs.take (k+1)=zs.take k++[zs.getD k 0]:=by
 rw[List.take_succ_eq_append_getElem h];simp[List.getD,h]
theorem zb5{a b:Bool}(h:a=b):Ending.returned (.bool a)=.returned (.bool b):=by rw[h]
theorem zo5{k:IntKind}{a b:Int}(h:a=b):Ending.returned (.int k a)=.returned (.int k b):=by rw[h]
def inB(n lo hi:Int):Bool:=decide (lo<=n/\n<=hi)
theorem zm8{n lo hi:Int}(h:lo<=n/\n<=hi):inB n lo hi=true:=decide_eq_true h
theorem zt5{n lo hi:Int}(h:¬(lo<=n/\n<=hi)):inB n lo hi=false:=decide_eq_false h
theorem zd5{n lo hi:Int}(h:inB n lo hi=true):lo<=n/\n<=hi:=of_decide_eq_true h
def cellsOf(l:List Int):Array Value:=(l.map (Value.int .i64)).toArray
theorem zm1(l:List Int):(cellsOf l).size=l.length:=by simp[cellsOf]
theorem zr4(l:List Int)(i:Nat)(h:i<l.length):(cellsOf l)[i]? =some (.int .i64 (l.getD i 0)):=by
 simp[cellsOf,List.getD,h]
theorem z77(l:List Int)(i:Nat)(v:Int):(cellsOf l).setIfInBounds i (.int .i64 v)=cellsOf (l.set i v):=by
 simp[cellsOf,List.map_set]
theorem zl1(l:List Int):(cellsOf l).all (·.oneCell')=true:=by
 simp[cellsOf,Value.oneCell']
theorem zj6{B:Nat}{a w:World}(h:Below B a w){g:Nat}(hg:B<=g)(cs:Array Value):Below B a (w.setRow g cs):=
 h.trans ⟨rfl,rfl,rfl,by simp,fun k hk=>setRow_other w g k cs (by omega)⟩
def za0(w:World)(a:Option Addr)(zs:List Int):Prop:=
 ∀j,j<zs.length->∃b off,a=some ⟨b,off,none⟩/\w.cell? ⟨b,off+j,none⟩=some (.int .i64 (zs.getD j 0))
theorem za0.some{w:World}{a:Option Addr}{zs:List Int}(h:za0 w a zs){j:Nat}(hj:j<zs.length):
 ∃b off,a=some ⟨b,off,none⟩/\∀j,j<zs.length->w.cell? ⟨b,off+j,none⟩=.some (.int .i64 (zs.getD j 0)):=by
 obtain⟨b,off,e,_⟩:=h j hj;refine⟨b,off,e,fun k hk=> ?_⟩;obtain⟨b',off',e',hc⟩:=h k hk;rw[e]at e';simp at e';obtain⟨rfl,rfl⟩:=e';exact hc
theorem za0.below{w w':World}{a:Option Addr}{zs:List Int}(h:za0 w a zs)(hb:Below w.heap.size w w'):za0 w' a zs:=by
 intro j hj;obtain⟨b,off,e,hc⟩:=h j hj;refine⟨b,off,e,?_⟩;have hl:=block_lt_of_cell hc;rw[hb.cell (p:=⟨b,off+j,none⟩) hl];exact hc
theorem za0.of_row{w:World}{g:Nat}{zs:List Int}{t:TypeId}(h:w.heap[g]? =.some (.cells (cellsOf zs) t (0,0))):za0 w (.some ⟨g,0,none⟩) zs:=by
 intro j hj;refine⟨g,0,rfl,?_⟩;rw[Nat.zero_add,cell_of_row _ _ _ _ _ _ h,zr4 _ _ hj]
def zo8(n:Int)(zs:List Int):Bool:=
 decide (1<=n/\n<=16/\(zs.length:Int)=n*n/\∀i,i<zs.length->0<=zs.getD i 0/\zs.getD i 0<=10000/\(i / n.toNat=i % n.toNat->zs.getD i 0=0))
theorem zj8{n:Int}{zs:List Int}(h:zo8 n zs=true):1<=n/\n<=16/\(zs.length:Int)=n*n/\∀i,i<zs.length->0<=zs.getD i 0/\zs.getD i 0<=10000/\(i / n.toNat=i % n.toNat->zs.getD i 0=0):=
 of_decide_eq_true h
theorem ym5{n:Int}{zs:List Int}(h:1<=n/\n<=16/\(zs.length:Int)=n*n/\∀i,i<zs.length->0<=zs.getD i 0/\zs.getD i 0<=10000/\(i / n.toNat=i % n.toNat->zs.getD i 0=0)):zo8 n zs=true:=
 decide_eq_true h
theorem zz2{n:Int}{zs:List Int}(h:¬(1<=n/\n<=16/\(zs.length:Int)=n*n/\∀i,i<zs.length->0<=zs.getD i 0/\zs.getD i 0<=10000/\(i / n.toNat=i % n.toNat->zs.getD i 0=0))):zo8 n zs=false:=
 decide_eq_false h
def zg9(n:Nat)(zs:List Int)(a b:Nat):List Int:=
 (List.range 256).map fun k=>if k / 16<n/\k % 16<n/\(k / 16<a∨k / 16=a/\k % 16<b)then zs.getD (k / 16*n+k % 16) 0 else 0
theorem zi3(n:Nat)(zs:List Int)(a b:Nat):(zg9 n zs a b).length=256:=by simp[zg9]
theorem zS2(n:Nat)(zs:List Int)(a b:Nat)(ha:a<n)(hb:b<n)(hn:n<=16):
 (zg9 n zs a b).set (a*16+b) (zs.getD (a*n+b) 0)=zg9 n zs a (b+1):=by
 apply List.ext_getElem
 ·simp[zg9]
 ·intro k h1 h2
  have hk:=by simpa[zg9]using h2
  by_cases e:a*16+b=k
  ·subst e
   have e1:(a*16+b) / 16=a:=by omega
   have e2:(a*16+b) % 16=b:=by omega
   simp only[zg9,List.getElem_set,List.getElem_map,List.getElem_range,e1,e2,if_true];rw[if_pos ⟨ha,hb,Or.inr ⟨trivial,by omega⟩⟩]
  ·simp only[zg9,List.getElem_set,List.getElem_map,List.getElem_range,if_neg e]
   have:¬(k / 16=a/\k % 16=b):=by omega
   by_cases c:k / 16<n/\k % 16<n/\(k / 16<a∨k / 16=a/\k % 16<b)
   ·rw[if_pos c,if_pos ⟨c.1,c.2.1,by omega⟩]
   ·rw[if_neg c,if_neg (by omega)]
theorem yc9(n:Nat)(zs:List Int)(a:Nat):zg9 n zs a n=zg9 n zs (a+1) 0:=by
 unfold zg9;apply List.map_congr_left;intro k _;by_cases c:k / 16<n/\k % 16<n/\(k / 16<a∨k / 16=a/\k % 16<n)
 ·rw[if_pos c,if_pos (by omega)]
 ·rw[if_neg c,if_neg (by omega)]
def zq0:List Int:=(List.range 256).map fun _=>0
theorem ze1:zq0.length=256:=by simp[zq0]
theorem zR4(n:Nat)(zs:List Int):zg9 n zs 0 0=zq0:=by
 unfold zg9 zq0;apply List.map_congr_left;intro k _;rw[if_neg (by omega)]
def zr5(n:Int)(zs:List Int):List Int:=if zo8 n zs=true then zg9 n.toNat zs n.toNat 0 else zq0
theorem zP5{n:Nat}{zs:List Int}(h:zo8 n zs=true):zr5 n zs=zg9 n zs n 0:=by
 unfold zr5;rw[if_pos h];simp
theorem zn0{n:Int}{zs:List Int}(h:zo8 n zs=false):zr5 n zs=zq0:=by
 unfold zr5;rw[h];simp
theorem zw8(n:Int)(zs:List Int):(zr5 n zs).length=256:=by
 unfold zr5;split
 ·exact zi3 _ _ _ _
 ·exact ze1
def ye8(n:Nat)(zs:List Int)(a b:Nat):Prop:=
 ∀i j,i<n->j<n->(i<a∨i=a/\j<b)->0<=zs.getD (i*n+j) 0/\zs.getD (i*n+j) 0<=10000/\(i=j->zs.getD (i*n+j) 0=0)
theorem yk1(n:Nat)(zs:List Int):ye8 n zs 0 0:=by intro i j _ _ h;omega
theorem ye3{n:Nat}{zs:List Int}{a b:Nat}(h:ye8 n zs a b)(h0:0<=zs.getD (a*n+b) 0)(h1:zs.getD (a*n+b) 0<=10000)(h2:a=b->zs.getD (a*n+b) 0=0):ye8 n zs a (b+1):=by
 intro i j hi hj hij;by_cases e:i=a/\j=b
 ·obtain⟨rfl,rfl⟩:=e;exact⟨h0,h1,h2⟩
 ·exact h i j hi hj (by omega)
theorem yt4{n:Nat}{zs:List Int}{a:Nat}(h:ye8 n zs a n):ye8 n zs (a+1) 0:=by
 intro i j hi hj hij;exact h i j hi hj (by omega)
theorem zv2(n i j:Nat)(hj:j<n):(i*n+j) / n=i/\(i*n+j) % n=j:=by
 have hn:0<n:=by omega
 constructor
 ·rw[Nat.add_comm,Nat.add_mul_div_right _ _ hn,Nat.div_eq_of_lt hj,Nat.zero_add]
 ·rw[Nat.add_comm,Nat.add_mul_mod_self_right,Nat.mod_eq_of_lt hj]
theorem yd2(n k:Nat)(h:k<n*n):k / n<n/\k % n<n/\k / n*n+k % n=k:=by
 have hn:0<n:=by rcases Nat.eq_zero_or_pos n with e|e;·subst e;simp at h
                 exact e
 exact⟨(Nat.div_lt_iff_lt_mul hn).2 h,Nat.mod_lt _ hn,by rw[Nat.mul_comm];exact Nat.div_add_mod k n⟩
theorem zQ3(n:Nat)(zs:List Int)(h1:1<=n)(h2:n<=16)(hl:zs.length=n*n)(h:ye8 n zs n 0):zo8 n zs=true:=by
 refine ym5 ⟨by omega,by omega,by rw[hl];simp,fun i hi=> ?_⟩;obtain⟨a,b,c⟩:=yd2 n i (by omega);have:=h (i / n) (i % n) a b (Or.inl a);rw[c]at this;simpa using this
theorem yt2(n:Nat)(zs:List Int)(x y:Nat)(hx:x<n)(hy:y<n)(hl:zs.length=n*n)(h:¬(0<=zs.getD (x*n+y) 0/\zs.getD (x*n+y) 0<=10000/\(x=y->zs.getD (x*n+y) 0=0))):zo8 n zs=false:=by
 refine zz2 fun⟨_,_,_,hh⟩=>h ?_;obtain⟨e1,e2⟩:=zv2 n x y hy;have hlt:x*n+y<zs.length:=by
  rw[hl];have:=Nat.mul_le_mul_right n (show x+1<=n by omega);rw[Nat.add_mul]at this;omega
 have:=hh (x*n+y) hlt;simp only[Int.toNat_natCast,e1,e2]at this;exact this
theorem zv8(a n:Nat)(h1:a<=16)(h2:n<=16):a*n<=256:=Nat.mul_le_mul h1 h2
theorem yp3(n:Nat)(zs:List Int)(h1:1<=n)(h2:n<=16)(hl:zs.length=n*n)(h:∀i,i<n*n->0<=zs.getD i 0/\zs.getD i 0<=10000/\(i / n=i % n->zs.getD i 0=0)):zo8 n zs=true:=
 ym5 ⟨by omega,by omega,by rw[hl];simp,fun i hi=>by rw[Int.toNat_natCast];exact h i (by omega)⟩
theorem yg8(n:Nat)(zs:List Int)(hl:zs.length=n*n)(k:Nat)(hk:k<n*n)(h:¬(0<=zs.getD k 0/\zs.getD k 0<=10000/\(k / n=k % n->zs.getD k 0=0))):zo8 n zs=false:=
 zz2 fun⟨_,_,_,hh⟩=>h (by have:=hh k (by omega);rwa [Int.toNat_natCast]at this)
theorem za1{B:Nat}{W w1:World}(hb:Below B W w1){k:Nat}{o:Obj}(hk:k<B)(h:W.heap[k]? =some o):w1.heap[k]? =some o:=by
 rw[hb.block k hk];exact h
theorem za3{W:World}{k:Nat}{o:Obj}(h:W.heap[k]? =some o):k<W.heap.size:=by
 by_cases hlt:k<W.heap.size
 ·exact hlt
 ·have hn:W.heap[k]? =none:=by simp;omega
  rw[hn]at h;cases h
theorem zL4{w w1 w2:World}{k:Nat}{c0 c1:Value}{T:TypeId}(hb:Below w1.heap.size w1 w2)(hB:Below w.heap.size w w1)(hr:w1.heap[k]? =some (.cells #[c0,c1] T (0,0))):
 Below w.heap.size w w2/\w2.heap[k]? =some (.cells #[c0,c1] T (0,0))/\w2.cell? ⟨k,0,none⟩=some c0/\w2.cell? ⟨k,1,none⟩=some c1:=by
 have r:=za1 hb (za3 hr) hr;refine⟨hB.trans (hb.mono hB.size),r,?_,?_⟩
 ·rw[cell_of_row _ _ 0 _ _ _ r];simp
 ·rw[cell_of_row _ _ 1 _ _ _ r];simp
theorem zx6{a b:List Int}{p q:Bool}(h:a=b)(k:p=q):Ending.returned (.tuple #[.agg (cellsOf a),.bool p])=Ending.returned (.tuple #[.agg (cellsOf b),.bool q]):=by rw[h,k]
def tm(n:Nat)(zs:List Int)(x y:Nat):Int:=zs.getD (x*n+y) 0
def og6(zs:List Int)(i f:Nat):Int:=zs.getD (i*6+f) 0
theorem zr8{w:World}{b off:Nat}{zs:List Int}{n:Nat}(h:∀j,j<zs.length->w.cell? ⟨b,off+j,none⟩=some (.int .i64 (zs.getD j 0)))(hl:zs.length=n*6)(i:Nat)(hi:i<n):
 w.cell? ⟨b,off+i*6,none⟩=some (.int .i64 (og6 zs i 0))/\w.cell? ⟨b,off+i*6+1,none⟩=some (.int .i64 (og6 zs i 1))/\w.cell? ⟨b,off+i*6+2,none⟩=some (.int .i64 (og6 zs i 2))/\w.cell? ⟨b,off+i*6+3,none⟩=some (.int .i64 (og6 zs i 3))/\w.cell? ⟨b,off+i*6+4,none⟩=some (.int .i64 (og6 zs i 4))/\w.cell? ⟨b,off+i*6+5,none⟩=some (.int .i64 (og6 zs i 5)):=by
 have hb:i*6+6<=zs.length:=by omega
 refine⟨?_,?_,?_,?_,?_,?_⟩
 ·exact h (i*6) (by omega)
 ·rw[Nat.add_assoc];exact h (i*6+1) (by omega)
 ·rw[Nat.add_assoc];exact h (i*6+2) (by omega)
 ·rw[Nat.add_assoc];exact h (i*6+3) (by omega)
 ·rw[Nat.add_assoc];exact h (i*6+4) (by omega)
 ·rw[Nat.add_assoc];exact h (i*6+5) (by omega)
def og5(zs:List Int)(i f:Nat):Int:=zs.getD (i*5+f) 0
theorem zA8{w:World}{b off:Nat}{zs:List Int}{n:Nat}(h:∀j,j<zs.length->w.cell? ⟨b,off+j,none⟩=some (.int .i64 (zs.getD j 0)))(hl:zs.length=n*5)(i:Nat)(hi:i<n):
 w.cell? ⟨b,off+i*5,none⟩=some (.int .i64 (og5 zs i 0))/\w.cell? ⟨b,off+i*5+1,none⟩=some (.int .i64 (og5 zs i 1))/\w.cell? ⟨b,off+i*5+2,none⟩=some (.int .i64 (og5 zs i 2))/\w.cell? ⟨b,off+i*5+3,none⟩=some (.int .i64 (og5 zs i 3))/\w.cell? ⟨b,off+i*5+4,none⟩=some (.int .i64 (og5 zs i 4)):=by
 have hb:i*5+5<=zs.length:=by omega
 refine⟨?_,?_,?_,?_,?_⟩
 ·exact h (i*5) (by omega)
 ·rw[Nat.add_assoc];exact h (i*5+1) (by omega)
 ·rw[Nat.add_assoc];exact h (i*5+2) (by omega)
 ·rw[Nat.add_assoc];exact h (i*5+3) (by omega)
 ·rw[Nat.add_assoc];exact h (i*5+4) (by omega)
def zg3(f t:Int):Bool:=inB f 0 1000000&&inB t f 1000000
theorem ye4{f t:Int}(h1:0<=f)(h2:f<=t)(h3:t<=1000000):zg3 f t=true:=by
 unfold zg3;rw[zm8 (by omega),zm8 (by omega)];rfl
theorem z26{f t:Int}(h:¬(0<=f/\f<=t/\t<=1000000)):zg3 f t=false:=by
 unfold zg3;cases h1:inB f 0 1000000
 ·rfl
 ·cases h2:inB t f 1000000
  ·rfl
  ·have:=zd5 h1;have:=zd5 h2;omega
def zr2(n o1 o2 o3 o4 o5:Int):Bool:=inB o1 0 (n - 1)&&inB o2 0 1000&&zg3 o3 o4&&inB o5 0 10000
def z70(n o0 o1 o2 o3 o4 o5:Int):Bool:=inB o0 1 1000000000&&zr2 n o1 o2 o3 o4 o5
def zt3(n o1 o2 o3 o4:Int):Bool:=inB o1 0 (n - 1)&&inB o2 0 1000&&zg3 o3 o4
def zC3(n o0 o1 o2 o3 o4:Int):Bool:=inB o0 1 1000000000&&zt3 n o1 o2 o3 o4
def zs1(n:Int)(zs:List Int)(k:Nat):Prop:=∀i,i<k->z70 n (og6 zs i 0) (og6 zs i 1) (og6 zs i 2) (og6 zs i 3) (og6 zs i 4) (og6 zs i 5)=true/\(0<i->og6 zs (i - 1) 0<og6 zs i 0)
def zq4(n:Int)(zs:List Int)(k:Nat):Bool:=decide (k<=12/\∀i,i<k->z70 n (og6 zs i 0) (og6 zs i 1) (og6 zs i 2) (og6 zs i 3) (og6 zs i 4) (og6 zs i 5)=true/\(0<i->og6 zs (i - 1) 0<og6 zs i 0))
theorem zK9{n:Int}{zs:List Int}{k:Nat}(h:k<=12)(ht:zs1 n zs k):zq4 n zs k=true:=by
 unfold zq4;exact decide_eq_true ⟨h,ht⟩
theorem zi4{n:Int}{zs:List Int}{k:Nat}(h:zq4 n zs k=true):k<=12/\zs1 n zs k:=by
 unfold zq4 at h;have:=of_decide_eq_true h;exact⟨this.1,this.2⟩
theorem zZ1{n:Int}{zs:List Int}{k:Nat}(h:¬k<=12):zq4 n zs k=false:=decide_eq_false fun x=>h x.1
theorem zz4{n:Int}{zs:List Int}{m k:Nat}(hk:k<m)(h:¬(z70 n (og6 zs k 0) (og6 zs k 1) (og6 zs k 2) (og6 zs k 3) (og6 zs k 4) (og6 zs k 5)=true/\(0<k->og6 zs (k - 1) 0<og6 zs k 0))):zq4 n zs m=false:=decide_eq_false fun x=>h (x.2 k hk)
theorem z81(n:Int)(zs:List Int):zs1 n zs 0:=fun i hi=>by omega
theorem zx7{n:Int}{zs:List Int}{k:Nat}(h:zs1 n zs k)(h1:z70 n (og6 zs k 0) (og6 zs k 1) (og6 zs k 2) (og6 zs k 3) (og6 zs k 4) (og6 zs k 5)=true)(h2:0<k->og6 zs (k - 1) 0<og6 zs k 0):zs1 n zs (k+1):=by
 intro i hi;by_cases e:i=k
 ·subst e;exact⟨h1,h2⟩
 ·exact h i (by omega)
def zl5(zs:List Int):Nat->Int
 |0=>0
 |k+1=>og6 zs k 0
theorem zA9{n:Int}{zs:List Int}{k:Nat}(h:zs1 n zs k):0<=zl5 zs k/\zl5 zs k<=1000000000:=by
 cases k with
 |zero=>simp[zl5]
 |succ k=>
  have h1:=(h k (by omega)).1;unfold z70 at h1;rw[Bool.and_eq_true]at h1;have:=zd5 h1.1;show 0<=og6 zs k 0/\og6 zs k 0<=1000000000;omega
theorem yy8{n:Int}{zs:List Int}{k:Nat}(h:zs1 n zs k)(h1:inB (og6 zs k 0) (zl5 zs k+1) 1000000000=true)(h2:zr2 n (og6 zs k 1) (og6 zs k 2) (og6 zs k 3) (og6 zs k 4) (og6 zs k 5)=true):
 z70 n (og6 zs k 0) (og6 zs k 1) (og6 zs k 2) (og6 zs k 3) (og6 zs k 4) (og6 zs k 5)=true/\(0<k->og6 zs (k - 1) 0<og6 zs k 0):=by
 have hb:=zA9 h;have hi:=zd5 h1;refine⟨?_,fun hk=> ?_⟩
 ·unfold z70;rw[zm8 (by omega),h2];rfl
 ·obtain⟨j,rfl⟩:∃j,k=j+1:=⟨k - 1,by omega⟩
  simp only[zl5]at hi;simp only[Nat.add_sub_cancel];omega
theorem zD4{n:Int}{zs:List Int}{k:Nat}(h:¬(inB (og6 zs k 0) (zl5 zs k+1) 1000000000=true/\zr2 n (og6 zs k 1) (og6 zs k 2) (og6 zs k 3) (og6 zs k 4) (og6 zs k 5)=true)):
 ¬(z70 n (og6 zs k 0) (og6 zs k 1) (og6 zs k 2) (og6 zs k 3) (og6 zs k 4) (og6 zs k 5)=true/\(0<k->og6 zs (k - 1) 0<og6 zs k 0)):=by
 rintro⟨h1,h2⟩;unfold z70 at h1;rw[Bool.and_eq_true]at h1;refine h ⟨zm8 ?_,h1.2⟩;have hi:=zd5 h1.1;cases k with
 |zero=>simp only[zl5];omega
 |succ j=>
  have:=h2 (by omega);simp only[Nat.add_sub_cancel]at this;simp only[zl5];omega
def zs2(n:Int)(zs:List Int)(k:Nat):Prop:=∀i,i<k->zC3 n (og5 zs i 0) (og5 zs i 1) (og5 zs i 2) (og5 zs i 3) (og5 zs i 4)=true/\(0<i->og5 zs (i - 1) 0<og5 zs i 0)
def zs7(n:Int)(zs:List Int)(k:Nat):Bool:=decide (k<=5/\∀i,i<k->zC3 n (og5 zs i 0) (og5 zs i 1) (og5 zs i 2) (og5 zs i 3) (og5 zs i 4)=true/\(0<i->og5 zs (i - 1) 0<og5 zs i 0))
theorem zL8{n:Int}{zs:List Int}{k:Nat}(h:k<=5)(ht:zs2 n zs k):zs7 n zs k=true:=by
 unfold zs7;exact decide_eq_true ⟨h,ht⟩
theorem zn6{n:Int}{zs:List Int}{k:Nat}(h:zs7 n zs k=true):k<=5/\zs2 n zs k:=by
 unfold zs7 at h;have:=of_decide_eq_true h;exact⟨this.1,this.2⟩
theorem ya8{n:Int}{zs:List Int}{k:Nat}(h:¬k<=5):zs7 n zs k=false:=decide_eq_false fun x=>h x.1
theorem z04{n:Int}{zs:List Int}{m k:Nat}(hk:k<m)(h:¬(zC3 n (og5 zs k 0) (og5 zs k 1) (og5 zs k 2) (og5 zs k 3) (og5 zs k 4)=true/\(0<k->og5 zs (k - 1) 0<og5 zs k 0))):zs7 n zs m=false:=decide_eq_false fun x=>h (x.2 k hk)
theorem z96(n:Int)(zs:List Int):zs2 n zs 0:=fun i hi=>by omega
theorem zx4{n:Int}{zs:List Int}{k:Nat}(h:zs2 n zs k)(h1:zC3 n (og5 zs k 0) (og5 zs k 1) (og5 zs k 2) (og5 zs k 3) (og5 zs k 4)=true)(h2:0<k->og5 zs (k - 1) 0<og5 zs k 0):zs2 n zs (k+1):=by
 intro i hi;by_cases e:i=k
 ·subst e;exact⟨h1,h2⟩
 ·exact h i (by omega)
def zl4(zs:List Int):Nat->Int
 |0=>0
 |k+1=>og5 zs k 0
theorem z99{n:Int}{zs:List Int}{k:Nat}(h:zs2 n zs k):0<=zl4 zs k/\zl4 zs k<=1000000000:=by
 cases k with
 |zero=>simp[zl4]
 |succ k=>
  have h1:=(h k (by omega)).1;unfold zC3 at h1;rw[Bool.and_eq_true]at h1;have:=zd5 h1.1;show 0<=og5 zs k 0/\og5 zs k 0<=1000000000;omega
theorem yx7{n:Int}{zs:List Int}{k:Nat}(h:zs2 n zs k)(h1:inB (og5 zs k 0) (zl4 zs k+1) 1000000000=true)(h2:zt3 n (og5 zs k 1) (og5 zs k 2) (og5 zs k 3) (og5 zs k 4)=true):
 zC3 n (og5 zs k 0) (og5 zs k 1) (og5 zs k 2) (og5 zs k 3) (og5 zs k 4)=true/\(0<k->og5 zs (k - 1) 0<og5 zs k 0):=by
 have hb:=z99 h;have hi:=zd5 h1;refine⟨?_,fun hk=> ?_⟩
 ·unfold zC3;rw[zm8 (by omega),h2];rfl
 ·obtain⟨j,rfl⟩:∃j,k=j+1:=⟨k - 1,by omega⟩
  simp only[zl4]at hi;simp only[Nat.add_sub_cancel];omega
theorem zD9{n:Int}{zs:List Int}{k:Nat}(h:¬(inB (og5 zs k 0) (zl4 zs k+1) 1000000000=true/\zt3 n (og5 zs k 1) (og5 zs k 2) (og5 zs k 3) (og5 zs k 4)=true)):
 ¬(zC3 n (og5 zs k 0) (og5 zs k 1) (og5 zs k 2) (og5 zs k 3) (og5 zs k 4)=true/\(0<k->og5 zs (k - 1) 0<og5 zs k 0)):=by
 rintro⟨h1,h2⟩;unfold zC3 at h1;rw[Bool.and_eq_true]at h1;refine h ⟨zm8 ?_,h1.2⟩;have hi:=zd5 h1.1;cases k with
 |zero=>simp only[zl4];omega
 |succ j=>
  have:=h2 (by omega);simp only[Nat.add_sub_cancel]at this;simp only[zl4];omega
def zc9(n:Int)(zs os vs:List Int)(ko kv:Nat)(fine:Int):Bool:=zo8 n zs&&zq4 n os ko&&zs7 n vs kv&&inB fine 0 1000000
theorem yq7{w w1:World}{c0 c1 c2 c3 c4:Value}{T:TypeId}(hb:Below (w.alloc (.cells #[c0,c1,c2,c3,c4] T)).heap.size (w.alloc (.cells #[c0,c1,c2,c3,c4] T)) w1):
 Below w.heap.size w w1/\w1.heap[w.heap.size]? =some (.cells #[c0,c1,c2,c3,c4] T (0,0)):=
 ⟨((Below.refl _ _).alloc (Nat.le_refl _) _).trans (hb.mono (by simp)),za1 hb (by simp) (heap_alloc_new _ _)⟩
theorem zz6{w w1 w2:World}{k:Nat}{o:Obj}(hb:Below w1.heap.size w1 w2)(hB:Below w.heap.size w w1)(hr:w1.heap[k]? =some o):
 Below w.heap.size w w2/\w2.heap[k]? =some o:=⟨hB.trans (hb.mono hB.size),za1 hb (za3 hr) hr⟩
theorem za8{w:World}{k:Nat}{c0 c1 c2 c3 c4:Value}{T:TypeId}(r:w.heap[k]? =some (.cells #[c0,c1,c2,c3,c4] T (0,0))):
 w.cell? ⟨k,0,none⟩=some c0/\w.cell? ⟨k,1,none⟩=some c1/\w.cell? ⟨k,2,none⟩=some c2/\w.cell? ⟨k,3,none⟩=some c3/\w.cell? ⟨k,4,none⟩=some c4:=by
 refine⟨?_,?_,?_,?_,?_⟩
 ·rw[cell_of_row _ _ 0 _ _ _ r];simp
 ·rw[cell_of_row _ _ 1 _ _ _ r];simp
 ·rw[cell_of_row _ _ 2 _ _ _ r];simp
 ·rw[cell_of_row _ _ 3 _ _ _ r];simp
 ·rw[cell_of_row _ _ 4 _ _ _ r];simp
theorem zg7{w:World}{k:Nat}{c0 c1 c2 c3 c4 c5:Value}{T:TypeId}(r:w.heap[k]? =some (.cells #[c0,c1,c2,c3,c4,c5] T (0,0))):
 w.cell? ⟨k,0,none⟩=some c0/\w.cell? ⟨k,1,none⟩=some c1/\w.cell? ⟨k,2,none⟩=some c2/\w.cell? ⟨k,3,none⟩=some c3/\w.cell? ⟨k,4,none⟩=some c4/\w.cell? ⟨k,5,none⟩=some c5:=by
 refine⟨?_,?_,?_,?_,?_,?_⟩
 ·rw[cell_of_row _ _ 0 _ _ _ r];simp
 ·rw[cell_of_row _ _ 1 _ _ _ r];simp
 ·rw[cell_of_row _ _ 2 _ _ _ r];simp
 ·rw[cell_of_row _ _ 3 _ _ _ r];simp
 ·rw[cell_of_row _ _ 4 _ _ _ r];simp
 ·rw[cell_of_row _ _ 5 _ _ _ r];simp
end Go.Proofs.YtjobhigmdaiinaaGreat
namespace Go.Proofs.YtjobhigmdaiinaaGreat
def zJ8(zs:List Int)(n:Nat)(id:Int):Option Nat:=(List.range n).find? fun i=>og6 zs i 0==id
def zl6(zs:List Int)(n:Nat)(id:Int):Bool:=(zJ8 zs n id).isSome
def zc7(zs:List Int)(n:Nat)(id:Int)(f:Nat):Int:=match zJ8 zs n id with
 |some i=>og6 zs i f
 |none=>0
theorem yn8{zs:List Int}{n:Nat}{id:Int}{i:Nat}(hi:i<n)(h:og6 zs i 0=id)(hno:∀j,j<i->og6 zs j 0≠id):zJ8 zs n id=some i:=by
 unfold zJ8;rw[List.find?_range_eq_some];exact⟨by simp[h],by simpa using hi,fun j hj=>by simpa using hno j hj⟩
theorem zP6{zs:List Int}{n:Nat}{id:Int}(hno:∀j,j<n->og6 zs j 0≠id):zJ8 zs n id=none:=by
 unfold zJ8;rw[List.find?_eq_none];intro j hj;have:=hno j (by simpa using hj);simpa using this
theorem zW6{zs:List Int}{n:Nat}{id:Int}{i:Nat}(h:zJ8 zs n id=some i)(f:Nat):zc7 zs n id f=og6 zs i f:=by unfold zc7;rw[h]
theorem zE8{zs:List Int}{n:Nat}{id:Int}(h:zJ8 zs n id=none)(f:Nat):zc7 zs n id f=0:=by unfold zc7;rw[h]
theorem zX1{zs:List Int}{n:Nat}{id:Int}{i:Nat}(h:zJ8 zs n id=some i):zl6 zs n id=true:=by unfold zl6;rw[h];rfl
theorem zC8{zs:List Int}{n:Nat}{id:Int}(h:zJ8 zs n id=none):zl6 zs n id=false:=by unfold zl6;rw[h];rfl
def zQ6(zs:List Int)(n:Nat)(id:Int):Option Nat:=(List.range n).find? fun i=>og5 zs i 0==id
def fnd5T(zs:List Int)(n:Nat)(id:Int):Bool:=(zQ6 zs n id).isSome
def zb6(zs:List Int)(n:Nat)(id:Int)(f:Nat):Int:=match zQ6 zs n id with
 |some i=>og5 zs i f
 |none=>0
theorem yg3{zs:List Int}{n:Nat}{id:Int}{i:Nat}(hi:i<n)(h:og5 zs i 0=id)(hno:∀j,j<i->og5 zs j 0≠id):zQ6 zs n id=some i:=by
 unfold zQ6;rw[List.find?_range_eq_some];exact⟨by simp[h],by simpa using hi,fun j hj=>by simpa using hno j hj⟩
theorem zO8{zs:List Int}{n:Nat}{id:Int}(hno:∀j,j<n->og5 zs j 0≠id):zQ6 zs n id=none:=by
 unfold zQ6;rw[List.find?_eq_none];intro j hj;have:=hno j (by simpa using hj);simpa using this
theorem zW1{zs:List Int}{n:Nat}{id:Int}{i:Nat}(h:zQ6 zs n id=some i)(f:Nat):zb6 zs n id f=og5 zs i f:=by unfold zb6;rw[h]
theorem zE1{zs:List Int}{n:Nat}{id:Int}(h:zQ6 zs n id=none)(f:Nat):zb6 zs n id f=0:=by unfold zb6;rw[h]
theorem zX7{zs:List Int}{n:Nat}{id:Int}{i:Nat}(h:zQ6 zs n id=some i):fnd5T zs n id=true:=by unfold fnd5T;rw[h];rfl
theorem zD2{zs:List Int}{n:Nat}{id:Int}(h:zQ6 zs n id=none):fnd5T zs n id=false:=by unfold fnd5T;rw[h];rfl
end Go.Proofs.YtjobhigmdaiinaaGreat
namespace Go.Proofs.YtjobhigmdaiinaaGreat
open Go.RowKit
def zk4(os:List Int)(ko:Nat)(ids:List Int):Nat->Int
 |0=>0
 |k+1=>zk4 os ko ids k+zc7 os ko (ids.getD k 0) 2
theorem z07{n:Int}{os:List Int}{ko:Nat}(h:zq4 n os ko=true)(id:Int):0<=zc7 os ko id 2/\zc7 os ko id 2<=1000:=by
 unfold zc7;cases hf:zJ8 os ko id with
 |none=>simp
 |some i=>
  have hi:i<ko:=by
   unfold zJ8 at hf;rw[List.find?_range_eq_some]at hf;have:=hf.2.1;simpa using this
  have:=((zi4 h).2 i hi).1;unfold z70 zr2 at this;simp only[Bool.and_eq_true]at this;have:=zd5 this.2.1.1.2;simpa using this
theorem zC9{n:Int}{zs os vs:List Int}{ko kv:Nat}{fine:Int}(h:zc9 n zs os vs ko kv fine=true):zq4 n os ko=true:=by
 unfold zc9 at h;simp only[Bool.and_eq_true]at h;exact h.1.1.2
theorem z79{n:Int}{os:List Int}{ko:Nat}(h:zq4 n os ko=true)(ids:List Int):∀k,0<=zk4 os ko ids k/\zk4 os ko ids k<=1000*k
 |0=>by simp[zk4]
 |k+1=>by
  have ih:=z79 h ids k;have:=z07 h (ids.getD k 0);unfold zk4;omega
def zu0(ids:List Int)(k:Nat)(id:Int):Bool:=(List.range k).any fun j=>ids.getD j 0==id
theorem zA5{ids:List Int}{k j:Nat}{id:Int}(hj:j<k)(h:ids.getD j 0=id):zu0 ids k id=true:=by
 unfold zu0;rw[List.any_eq_true];exact⟨j,by simpa using hj,by rw[h];simp⟩
theorem zI9{ids:List Int}{k:Nat}{id:Int}(h:∀j,j<k->ids.getD j 0≠id):zu0 ids k id=false:=by
 unfold zu0;rw[List.any_eq_false];intro j hj;have:=h j (by simpa using hj);simpa using this
def zV1(os:List Int)(ko:Nat)(ids:List Int)(k:Nat):Bool:=zl6 os ko (ids.getD k 0)&& !zu0 ids k (ids.getD k 0)
def zo0(os:List Int)(ko:Nat)(ids:List Int)(k:Nat):Prop:=∀j,j<k->zV1 os ko ids j=true
def zm7(os:List Int)(ko:Nat)(ids:List Int):Bool:=decide (ids.length<=12/\∀j,j<ids.length->zV1 os ko ids j=true)
theorem z18{os:List Int}{ko:Nat}{ids:List Int}(h:ids.length<=12)(ht:zo0 os ko ids ids.length):zm7 os ko ids=true:=by
 unfold zm7;exact decide_eq_true ⟨h,ht⟩
theorem ze9{os:List Int}{ko:Nat}{ids:List Int}(h:zm7 os ko ids=true):ids.length<=12/\zo0 os ko ids ids.length:=by
 unfold zm7 at h;have:=of_decide_eq_true h;exact⟨this.1,this.2⟩
theorem z85{os:List Int}{ko:Nat}{ids:List Int}(h:¬ids.length<=12):zm7 os ko ids=false:=decide_eq_false fun x=>h x.1
theorem zu7{os:List Int}{ko:Nat}{ids:List Int}{k:Nat}(hk:k<ids.length)(h:zV1 os ko ids k=false):zm7 os ko ids=false:=decide_eq_false fun x=>by
 have:=x.2 k hk;rw[h]at this;cases this
theorem z47(os:List Int)(ko:Nat)(ids:List Int):zo0 os ko ids 0:=fun j hj=>by omega
theorem z45{os:List Int}{ko:Nat}{ids:List Int}{k:Nat}(h:zo0 os ko ids k)(h1:zV1 os ko ids k=true):zo0 os ko ids (k+1):=by
 intro j hj;by_cases e:j=k
 ·rw[e];exact h1
 ·exact h j (by omega)
theorem zu8{os:List Int}{ko:Nat}{ids:List Int}{k:Nat}{id:Int}(hid:ids.getD k 0=id){a b:Bool}(h1:zl6 os ko id=a)(h2:zu0 ids k id=b):zV1 os ko ids k=(a&& !b):=by
 unfold zV1;rw[hid,h1,h2]
def zk3(c:Bool)(vs os:List Int)(kv ko:Nat)(veh:Int)(ids:List Int):Int:=
 if c=false then 1 else if fnd5T vs kv veh=false then 2 else if zm7 os ko ids=false then 3 else if zb6 vs kv veh 2<zk4 os ko ids ids.length then 4 else 0
theorem yx3{c:Bool}{vs os:List Int}{kv ko:Nat}{veh:Int}{ids:List Int}(h:c=false):zk3 c vs os kv ko veh ids=1:=by
 unfold zk3;rw[if_pos h]
theorem ye7{c:Bool}{vs os:List Int}{kv ko:Nat}{veh:Int}{ids:List Int}(h:c=true)(h2:fnd5T vs kv veh=false):zk3 c vs os kv ko veh ids=2:=by
 unfold zk3;rw[if_neg (by simp[h]),if_pos h2]
theorem zH3{c:Bool}{vs os:List Int}{kv ko:Nat}{veh:Int}{ids:List Int}(h:c=true)(h2:fnd5T vs kv veh=true)(h3:zm7 os ko ids=false):zk3 c vs os kv ko veh ids=3:=by
 unfold zk3;rw[if_neg (by simp[h]),if_neg (by simp[h2]),if_pos h3]
theorem yd6{c:Bool}{vs os:List Int}{kv ko:Nat}{veh:Int}{ids:List Int}(h:c=true)(h2:fnd5T vs kv veh=true)(h3:zm7 os ko ids=true)(h4:zb6 vs kv veh 2<zk4 os ko ids ids.length):zk3 c vs os kv ko veh ids=4:=by
 unfold zk3;rw[if_neg (by simp[h]),if_neg (by simp[h2]),if_neg (by simp[h3]),if_pos h4]
theorem yo0{c:Bool}{vs os:List Int}{kv ko:Nat}{veh:Int}{ids:List Int}(h:c=true)(h2:fnd5T vs kv veh=true)(h3:zm7 os ko ids=true)(h4:¬zb6 vs kv veh 2<zk4 os ko ids ids.length):zk3 c vs os kv ko veh ids=0:=by
 unfold zk3;rw[if_neg (by simp[h]),if_neg (by simp[h2]),if_neg (by simp[h3]),if_neg h4]
theorem ze6{c:Bool}{vs os:List Int}{kv ko:Nat}{veh:Int}{ids:List Int}(h:zk3 c vs os kv ko veh ids=0):c=true/\fnd5T vs kv veh=true/\zm7 os ko ids=true:=by
 unfold zk3 at h;by_cases c1:c=false
 ·rw[if_pos c1]at h;omega
 ·rw[if_neg c1]at h
  by_cases c2:fnd5T vs kv veh=false
  ·rw[if_pos c2]at h;omega
  ·rw[if_neg c2]at h
   by_cases c3:zm7 os ko ids=false
   ·rw[if_pos c3]at h;omega
   ·exact⟨by simpa using c1,by simpa using c2,by simpa using c3⟩
def zd0(os:List Int)(ko:Nat)(ids:List Int):List Int:=(List.range (ids.length*6)).map fun j=>zc7 os ko (ids.getD (j / 6) 0) (j % 6)
theorem zh3(os:List Int)(ko:Nat)(ids:List Int):(zd0 os ko ids).length=ids.length*6:=by simp[zd0]
theorem zi2(os:List Int)(ko:Nat)(ids:List Int){k f:Nat}(hk:k<ids.length)(hf:f<6):og6 (zd0 os ko ids) k f=zc7 os ko (ids.getD k 0) f:=by
 unfold og6 zd0;have hj:k*6+f<ids.length*6:=by omega
 have e1:(k*6+f) / 6=k:=by omega
 have e2:(k*6+f) % 6=f:=by omega
 rw[List.getD,List.getElem?_map,List.getElem?_range hj];simp only[Option.map_some,Option.getD_some,e1,e2]
theorem zI3{n:Int}{os:List Int}{ko:Nat}(h:zq4 n os ko=true)(hn:1<=n)(id:Int):
 (0<=zc7 os ko id 1/\zc7 os ko id 1<n)/\(0<=zc7 os ko id 2/\zc7 os ko id 2<=1000)/\(0<=zc7 os ko id 3/\zc7 os ko id 3<=1000000)/\(0<=zc7 os ko id 4/\zc7 os ko id 4<=1000000)/\(0<=zc7 os ko id 5/\zc7 os ko id 5<=10000):=by
 unfold zc7;cases hf:zJ8 os ko id with
 |none=>simp;omega
 |some i=>
  have hi:i<ko:=by
   unfold zJ8 at hf;rw[List.find?_range_eq_some]at hf;have:=hf.2.1;simpa using this
  have:=((zi4 h).2 i hi).1;unfold z70 zr2 zg3 at this;simp only[Bool.and_eq_true]at this;obtain⟨_,⟨⟨h1,h2⟩,h3,h4⟩,h5⟩:=this;have h1:=zd5 h1;have h2:=zd5 h2;have h3:=zd5 h3;have h4:=zd5 h4;have h5:=zd5 h5;simp only[];omega
theorem zp6{n:Int}{vs:List Int}{kv:Nat}(h:zs7 n vs kv=true)(hn:1<=n)(id:Int):
 (0<=zb6 vs kv id 1/\zb6 vs kv id 1<n)/\(0<=zb6 vs kv id 2/\zb6 vs kv id 2<=1000)/\(0<=zb6 vs kv id 3/\zb6 vs kv id 3<=1000000)/\(0<=zb6 vs kv id 4/\zb6 vs kv id 4<=1000000):=by
 unfold zb6;cases hf:zQ6 vs kv id with
 |none=>simp;omega
 |some i=>
  have hi:i<kv:=by
   unfold zQ6 at hf;rw[List.find?_range_eq_some]at hf;have:=hf.2.1;simpa using this
  have:=((zn6 h).2 i hi).1;unfold zC3 zt3 zg3 at this;simp only[Bool.and_eq_true]at this;obtain⟨_,⟨h1,h2⟩,h3,h4⟩:=this;have h1:=zd5 h1;have h2:=zd5 h2;have h3:=zd5 h3;have h4:=zd5 h4;simp only[];omega
theorem zc4{n:Int}{zs os vs:List Int}{ko kv:Nat}{fine:Int}(h:zc9 n zs os vs ko kv fine=true):zo8 n zs=true/\zq4 n os ko=true/\zs7 n vs kv=true/\1<=n/\0<=fine/\fine<=1000000:=by
 unfold zc9 at h;simp only[Bool.and_eq_true]at h;exact⟨h.1.1.1,h.1.1.2,h.1.2,(zj8 h.1.1.1).1,zd5 h.2⟩
def tmI(n:Int)(zs:List Int)(x y:Int):Int:=zs.getD (x.toNat*n.toNat+y.toNat) 0
theorem zs9{n:Int}{zs:List Int}(h:zo8 n zs=true)(x y:Int):0<=tmI n zs x y/\tmI n zs x y<=10000:=by
 unfold tmI;by_cases hl:x.toNat*n.toNat+y.toNat<zs.length
 ·have:=(zj8 h).2.2.2 _ hl
  exact⟨this.1,this.2.1⟩
 ·rw[List.getD,List.getElem?_eq_none (by omega)]
  simp
def plc(ros:List Int)(home:Int):Nat->Int
 |0=>home
 |k+1=>og6 ros k 1
def zs5(n:Int)(ros:List Int)(m:Nat):Prop:=∀k,k<m->(0<=og6 ros k 1/\og6 ros k 1<n)/\(0<=og6 ros k 2/\og6 ros k 2<=1000)/\(0<=og6 ros k 3/\og6 ros k 3<=1000000)/\(0<=og6 ros k 4/\og6 ros k 4<=1000000)/\(0<=og6 ros k 5/\og6 ros k 5<=10000)
theorem zz3{n:Int}{os:List Int}{ko:Nat}(h:zq4 n os ko=true)(hn:1<=n)(ids:List Int):zs5 n (zd0 os ko ids) ids.length:=by
 intro k hk;rw[zi2 os ko ids hk (by omega),zi2 os ko ids hk (by omega),zi2 os ko ids hk (by omega),zi2 os ko ids hk (by omega),zi2 os ko ids hk (by omega)];exact zI3 h hn _
theorem zN0{n:Int}{ros:List Int}{m:Nat}(h:zs5 n ros m){home:Int}(h0:0<=home)(h1:home<n):∀k,k<=m->0<=plc ros home k/\plc ros home k<n
 |0,_=>⟨h0,h1⟩
 |k+1,hk=>(h k (by omega)).1
def zv4(n:Int)(zs ros:List Int)(home frm:Int):Nat->Int
 |0=>frm
 |k+1=>max (zv4 n zs ros home frm k+tmI n zs (plc ros home k) (og6 ros k 1)) (og6 ros k 3)+og6 ros k 5
def zX4(n:Int)(zs ros:List Int)(home frm:Int)(k:Nat):Int:=zv4 n zs ros home frm k+tmI n zs (plc ros home k) (og6 ros k 1)
def zg5(n:Int)(zs ros:List Int)(home frm:Int)(k:Nat):Int:=max (zX4 n zs ros home frm k) (og6 ros k 3)
theorem zP3(n:Int)(zs ros:List Int)(home frm:Int)(k:Nat):zv4 n zs ros home frm (k+1)=zg5 n zs ros home frm k+og6 ros k 5:=rfl
def homeV(n:Int)(zs ros:List Int)(m:Nat)(home frm:Int):Int:=zv4 n zs ros home frm m+tmI n zs (plc ros home m) home
theorem zJ0{n:Int}{zs ros:List Int}{m:Nat}{home frm:Int}(hz:zo8 n zs=true)(h:zs5 n ros m)(hf:0<=frm/\frm<=1000000):∀k,k<=m->0<=zv4 n zs ros home frm k/\zv4 n zs ros home frm k<=1000000+20000*k
 |0,_=>by simp only[zv4];omega
 |k+1,hk=>by
  have ih:=zJ0 (home:=home) hz h hf k (by omega);have h1:=zs9 hz (plc ros home k) (og6 ros k 1);have h2:=h k (by omega);simp only[zv4];omega
def zn3(n:Int)(zs ros:List Int)(home frm:Int)(k:Nat):Prop:=∀j,j<k->zg5 n zs ros home frm j<=og6 ros j 4
theorem zF3{n:Int}{zs ros:List Int}{home frm:Int}{k:Nat}(h:zn3 n zs ros home frm k)(h1:zg5 n zs ros home frm k<=og6 ros k 4):zn3 n zs ros home frm (k+1):=by
 intro j hj;by_cases e:j=k
 ·rw[e];exact h1
 ·exact h j (by omega)
def zs3(n:Int)(zs ros:List Int)(m:Nat)(home frm to:Int):Int:=
 if∀j,j<m->zg5 n zs ros home frm j<=og6 ros j 4 then(if to<homeV n zs ros m home frm then 6 else 0)else 5
theorem z67{n:Int}{zs ros:List Int}{m:Nat}{home frm to:Int}{k:Nat}(hk:k<m)(h:og6 ros k 4<zg5 n zs ros home frm k):zs3 n zs ros m home frm to=5:=by
 unfold zs3;rw[if_neg (fun x=>by have:=x k hk;omega)]
theorem z69{n:Int}{zs ros:List Int}{m:Nat}{home frm to:Int}(h:zn3 n zs ros home frm m)(h2:to<homeV n zs ros m home frm):zs3 n zs ros m home frm to=6:=by
 have h:∀j,j<m->zg5 n zs ros home frm j<=og6 ros j 4:=h;unfold zs3;rw[if_pos h,if_pos h2]
theorem zP1{n:Int}{zs ros:List Int}{m:Nat}{home frm to:Int}(h:zn3 n zs ros home frm m)(h2:¬to<homeV n zs ros m home frm):zs3 n zs ros m home frm to=0:=by
 have h:∀j,j<m->zg5 n zs ros home frm j<=og6 ros j 4:=h;unfold zs3;rw[if_pos h,if_neg h2]
def codeV(c:Bool)(n:Int)(zs os vs:List Int)(ko kv:Nat)(veh:Int)(ids:List Int):Int:=
 if zk3 c vs os kv ko veh ids=0 then zs3 n zs (zd0 os ko ids) ids.length (zb6 vs kv veh 1) (zb6 vs kv veh 3) (zb6 vs kv veh 4)else zk3 c vs os kv ko veh ids
theorem z21{c:Bool}{n:Int}{zs os vs:List Int}{ko kv:Nat}{veh:Int}{ids:List Int}(h:zk3 c vs os kv ko veh ids≠0):codeV c n zs os vs ko kv veh ids=zk3 c vs os kv ko veh ids:=by
 unfold codeV;rw[if_neg h]
theorem zr3{c:Bool}{n:Int}{zs os vs:List Int}{ko kv:Nat}{veh:Int}{ids:List Int}(h:zk3 c vs os kv ko veh ids=0):codeV c n zs os vs ko kv veh ids=zs3 n zs (zd0 os ko ids) ids.length (zb6 vs kv veh 1) (zb6 vs kv veh 3) (zb6 vs kv veh 4):=by
 unfold codeV;rw[if_pos h]
theorem zh0{c:Bool}{n:Int}{zs os vs:List Int}{ko kv:Nat}{veh:Int}{ids:List Int}(h:codeV c n zs os vs ko kv veh ids=0):zk3 c vs os kv ko veh ids=0/\zs3 n zs (zd0 os ko ids) ids.length (zb6 vs kv veh 1) (zb6 vs kv veh 3) (zb6 vs kv veh 4)=0:=by
 by_cases h1:zk3 c vs os kv ko veh ids=0
 ·exact⟨h1,by rw[zr3 h1]at h;exact h⟩
 ·exact absurd (by rw[z21 h1]at h;exact h) h1
def zo4(n:Int)(zs ros:List Int)(home:Int):Nat->Int
 |0=>0
 |k+1=>zo4 n zs ros home k+tmI n zs (plc ros home k) (og6 ros k 1)
theorem zy7{n:Int}{zs ros:List Int}{home:Int}(hz:zo8 n zs=true):∀k:Nat,0<=zo4 n zs ros home k/\zo4 n zs ros home k<=10000*k
 |0=>by simp only[zo4];omega
 |k+1=>by
  have ih:=zy7 (ros:=ros) (home:=home) hz k;have h1:=zs9 hz (plc ros home k) (og6 ros k 1);simp only[zo4];omega
def zo6(n:Int)(zs ros:List Int)(m:Nat)(home:Int):Int:=zo4 n zs ros home m+tmI n zs (plc ros home m) home
def zB2(ids:List Int)(i:Nat):List Int:=ids.take i++ids.drop (i+1)
def insL(ids:List Int)(i:Nat)(id:Int):List Int:=ids.take i++id::ids.drop i
theorem zR0{ids:List Int}{i:Nat}(h:i<ids.length):(zB2 ids i).length=ids.length - 1:=by
 simp[zB2];omega
theorem zk6{ids:List Int}{i:Nat}(id:Int)(h:i<=ids.length):(insL ids i id).length=ids.length+1:=by
 simp[insL];omega
def rcV(n:Int)(zs os vs:List Int)(ko kv:Nat)(veh:Int)(ids:List Int):Int:=
 if codeV true n zs os vs ko kv veh ids=0 then zo6 n zs (zd0 os ko ids) ids.length (zb6 vs kv veh 1)else 0
theorem y19{n:Int}{zs os vs:List Int}{ko kv:Nat}{veh:Int}{ids:List Int}(h:codeV true n zs os vs ko kv veh ids≠0):rcV n zs os vs ko kv veh ids=0:=by
 unfold rcV;rw[if_neg h]
theorem zI1{n:Int}{zs os vs:List Int}{ko kv:Nat}{veh:Int}{ids:List Int}(h:codeV true n zs os vs ko kv veh ids=0):rcV n zs os vs ko kv veh ids=zo6 n zs (zd0 os ko ids) ids.length (zb6 vs kv veh 1):=by
 unfold rcV;rw[if_pos h]
theorem zm0{c:Bool}{n:Int}{zs os vs:List Int}{ko kv:Nat}{veh:Int}{ids:List Int}(h:codeV c n zs os vs ko kv veh ids=0):ids.length<=12:=
 (ze9 (ze6 (zh0 h).1).2.2).1
theorem z72{c:Bool}{n:Int}{zs os vs:List Int}{ko kv:Nat}{veh:Int}{ids:List Int}(h:codeV c n zs os vs ko kv veh ids=0):c=true:=
 (ze6 (zh0 h).1).1
theorem zv6{n:Int}{zs:List Int}(hz:zo8 n zs=true)(ros:List Int)(m:Nat)(hm:m<=12)(home:Int):0<=zo6 n zs ros m home/\zo6 n zs ros m home<=130000:=by
 have h1:=zy7 (ros:=ros) (home:=home) hz m;have h2:=zs9 hz (plc ros home m) home;unfold zo6;omega
def chB(c:Bool)(n:Int)(zs os vs:List Int)(ko kv:Nat)(veh:Int)(ids:List Int)(ok:Bool)(ids':List Int):Bool:=
 decide (codeV c n zs os vs ko kv veh ids=0)&&(ok&&decide (codeV c n zs os vs ko kv veh ids'=0))
def chI(ch:Bool)(v:Int):Int:=if ch then v else 0
def chL(ch:Bool)(ids':List Int):List Int:=if ch then ids' else []
def chD(ch:Bool)(n:Int)(zs os vs:List Int)(ko kv:Nat)(veh:Int)(ids ids':List Int):Int:=
 if ch then rcV n zs os vs ko kv veh ids' - rcV n zs os vs ko kv veh ids else 0
theorem yl2{c:Bool}{n:Int}{zs os vs:List Int}{ko kv:Nat}{veh:Int}{ids:List Int}(h:codeV c n zs os vs ko kv veh ids≠0)(ok:Bool)(ids':List Int):chB c n zs os vs ko kv veh ids ok ids'=false:=by
 unfold chB;rw[decide_eq_false h];rfl
theorem ye1{c:Bool}{n:Int}{zs os vs:List Int}{ko kv:Nat}{veh:Int}{ids:List Int}{ok:Bool}(h:ok=false)(ids':List Int):chB c n zs os vs ko kv veh ids ok ids'=false:=by
 unfold chB;rw[h];simp
theorem yi4{c:Bool}{n:Int}{zs os vs:List Int}{ko kv:Nat}{veh:Int}{ids ids':List Int}(ok:Bool)(h:codeV c n zs os vs ko kv veh ids'≠0):chB c n zs os vs ko kv veh ids ok ids'=false:=by
 unfold chB;rw[decide_eq_false h];simp
theorem ym6{c:Bool}{n:Int}{zs os vs:List Int}{ko kv:Nat}{veh:Int}{ids ids':List Int}{ok:Bool}(h:codeV c n zs os vs ko kv veh ids=0)(ho:ok=true)(h':codeV c n zs os vs ko kv veh ids'=0):chB c n zs os vs ko kv veh ids ok ids'=true:=by
 unfold chB;rw[decide_eq_true h,ho,decide_eq_true h'];rfl
def yy5(n:Nat)(l:List Int)(k a b:Nat):List Int:=l.set (a*n+b) (min (tm n l a b) (tm n l a k+tm n l k b))
def zo9(n:Nat)(zs:List Int):Nat->List Int
 |0=>zs
 |m+1=>yy5 n (zo9 n zs m) (m / n / n) (m / n % n) (m % n)
theorem ye2(n k a b:Nat)(ha:a<n)(hb:b<n):((k*n+a)*n+b) / n / n=k/\((k*n+a)*n+b) / n % n=a/\((k*n+a)*n+b) % n=b:=by
 obtain⟨h1,h2⟩:=zv2 n (k*n+a) b hb;obtain⟨h3,h4⟩:=zv2 n k a ha;exact⟨by rw[h1,h3],by rw[h1,h4],h2⟩
theorem yb9(n:Nat)(zs:List Int)(k a b:Nat)(ha:a<n)(hb:b<n):
 zo9 n zs ((k*n+a)*n+(b+1))=yy5 n (zo9 n zs ((k*n+a)*n+b)) k a b:=by
 obtain⟨h1,h2,h3⟩:=ye2 n k a b ha hb;rw[<-Nat.add_assoc,zo9,h1,h2,h3]
theorem zQ8(n:Nat)(l:List Int)(k a b:Nat):(yy5 n l k a b).length=l.length:=by simp[yy5]
theorem zp1(n:Nat)(zs:List Int):∀m,(zo9 n zs m).length=zs.length
 |0=>rfl
 |m+1=>by rw[zo9,zQ8,zp1 n zs m]
def okL(l:List Int):Prop:=∀i,0<=l.getD i 0/\l.getD i 0<=10000
theorem yy1{l:List Int}(h:okL l){i:Nat}{v:Int}(h0:0<=v)(h1:v<=10000):okL (l.set i v):=by
 intro j;have hj:=h j;rw[List.getD_eq_getElem?_getD]at hj⊢;rw[List.getElem?_set];split
 ·split
  ·simp;omega
  ·simp
 ·exact hj
theorem yr9{n:Nat}{l:List Int}(h:okL l)(k a b:Nat):okL (yy5 n l k a b):=by
 have h1:=h (a*n+b);have h2:=h (a*n+k);have h3:=h (k*n+b);unfold yy5 tm;refine yy1 h ?_ ?_
 ·omega
 ·omega
theorem zM3{n:Nat}{zs:List Int}(h:okL zs):∀m,okL (zo9 n zs m)
 |0=>h
 |m+1=>yr9 (zM3 h m) _ _ _
theorem ya7{n:Int}{zs:List Int}(h:zo8 n zs=true):okL zs:=by
 intro i;by_cases hi:i<zs.length
 ·have:=(zj8 h).2.2.2 i hi
  exact⟨this.1,this.2.1⟩
 ·rw[List.getD_eq_getElem?_getD,List.getElem?_eq_none (by omega)];simp
theorem yk6{n:Nat}{l:List Int}(h:okL l)(x y:Nat):0<=tm n l x y/\tm n l x y<=10000:=h _
def clo(n:Nat)(zs:List Int):List Int:=zo9 n zs (n*n*n)
theorem za0.pre{w:World}{a:Option Addr}{l r:List Int}(h:za0 w a (l++r)):za0 w a l:=by
 intro j hj;obtain⟨b,off,e,hc⟩:=h j (by simp;omega);refine⟨b,off,e,?_⟩;rw[hc,List.getD_eq_getElem?_getD,List.getElem?_append_left hj,<-List.getD_eq_getElem?_getD]
def z52:List Int->Int->List Int
 |[],x=>[x]
 |y::l,x=>if y<x then y::z52 l x else x::y::l
def zm2(l:List Int):List Int:=l.foldl z52 []
theorem zN5(l:List Int)(x:Int):zm2 (l++[x])=z52 (zm2 l) x:=by simp[zm2,List.foldl_append]
theorem zX8:∀(l:List Int) (x:Int),(z52 l x).length=l.length+1
 |[],x=>rfl
 |y::l,x=>by
  unfold z52;split
  ·rw[List.length_cons,zX8 l x,List.length_cons]
  ·simp
theorem zV8:∀(l acc:List Int),(l.foldl z52 acc).length=acc.length+l.length
 |[],acc=>rfl
 |x::l,acc=>by rw[List.foldl_cons,zV8 l,zX8,List.length_cons];omega
theorem zp4(l:List Int):(zm2 l).length=l.length:=by
 unfold zm2;rw[zV8];simp
theorem z60:∀(l:List Int) (x y:Int),y∈z52 l x↔y=x∨y∈l
 |[],x,y=>by simp[z52]
 |z::l,x,y=>by
  unfold z52;split
  ·rw[List.mem_cons,z60 l x y,List.mem_cons]
   constructor
   ·rintro(h|h|h)
    ·exact .inr (.inl h)
    ·exact .inl h
    ·exact .inr (.inr h)
   ·rintro(h|h|h)
    ·exact .inr (.inl h)
    ·exact .inl h
    ·exact .inr (.inr h)
  ·simp
theorem zW5:∀(l acc:List Int) (y:Int),y∈l.foldl z52 acc↔y∈acc∨y∈l
 |[],acc,y=>by simp
 |x::l,acc,y=>by
  rw[List.foldl_cons,zW5 l,z60,List.mem_cons];constructor
  ·rintro((h|h)|h)
   ·exact .inr (.inl h)
   ·exact .inl h
   ·exact .inr (.inr h)
  ·rintro(h|h|h)
   ·exact .inl (.inr h)
   ·exact .inl (.inl h)
   ·exact .inr h
theorem zv3(l:List Int)(y:Int):y∈zm2 l↔y∈l:=by
 unfold zm2;rw[zW5];simp
theorem zS5:∀(l:List Int) (x:Int) (k:Nat),k<=l.length->(∀j,j<k->l.getD j 0<x)->(k<l.length->¬l.getD k 0<x)->insL l k x=z52 l x
 |[],x,k,hk,_,_=>by
  have:k=0:=by simpa using hk
  subst this;rfl
 |y::l,x,0,_,_,h2=>by
  have:¬y<x:=by simpa using h2 (by simp)
  unfold z52 insL;rw[if_neg this];rfl
 |y::l,x,k+1,hk,h1,h2=>by
  have hy:y<x:=by simpa using h1 0 (by omega)
  unfold z52;rw[if_pos hy,<-zS5 l x k (by simpa using hk) (fun j hj=>by simpa using h1 (j+1) (by omega)) (fun h=>by simpa using h2 (by simpa using h))];rfl
theorem zK1:∀(l:List Int) (x:Int),l.Pairwise (· <·)->x∉l->(z52 l x).Pairwise (· <·)
 |[],x,_,_=>by simp[z52]
 |y::l,x,h,hx=>by
  rw[List.pairwise_cons]at h;unfold z52;split
  ·rename_i hy
   rw[List.pairwise_cons];refine⟨fun a ha=> ?_,zK1 l x h.2 (fun e=>hx (List.mem_cons_of_mem _ e))⟩;rcases(z60 l x a).1 ha with e|e
   ·rw[e];exact hy
   ·exact h.1 a e
  ·rename_i hy
   have hne:x≠y:=fun e=>hx (by rw[e];exact List.mem_cons_self ..)
   rw[List.pairwise_cons];refine⟨fun a ha=> ?_,List.pairwise_cons.2 h⟩;rcases List.mem_cons.1 ha with e|e
   ·rw[e];omega
   ·have:=h.1 a e
    omega
theorem zN1:∀(l acc:List Int),acc.Pairwise (· <·)->l.Nodup->(∀x∈l,x∉acc)->(l.foldl z52 acc).Pairwise (· <·)
 |[],acc,h,_,_=>h
 |x::l,acc,h,hn,hd=>by
  rw[List.foldl_cons];rw[List.nodup_cons]at hn;refine zN1 l _ (zK1 acc x h (hd x (List.mem_cons_self ..))) hn.2 (fun y hy e=> ?_);rcases(z60 acc x y).1 e with e|e
  ·rw[e]at hy;exact hn.1 hy
  ·exact hd y (List.mem_cons_of_mem _ hy) e
theorem zA6{l:List Int}(h:l.Nodup):(zm2 l).Pairwise (· <·):=zN1 l [] List.Pairwise.nil h (fun x _=>by simp)
theorem yv7{l:List Int}(h:l.Pairwise (· <·)){i j:Nat}(hi:i<j)(hj:j<l.length):l.getD i 0<l.getD j 0:=by
 have:=List.pairwise_iff_getElem.1 h i j (by omega) hj hi;rw[List.getD_eq_getElem?_getD,List.getD_eq_getElem?_getD,List.getElem?_eq_getElem hj,List.getElem?_eq_getElem (show i<l.length by omega)];exact this
theorem ys2{P D:List Int}{x:Int}{j:Nat}(hj:j<P.length):((insL P (j+1) x++D).set (j+1) (P.getD j 0)).set j x=insL P j x++D:=by
 have hd:P.drop j=P.getD j 0::P.drop (j+1):=by
  rw[List.drop_eq_getElem_cons hj,List.getD_eq_getElem?_getD,List.getElem?_eq_getElem hj];rfl
 have ht:P.take (j+1)=P.take j++[P.getD j 0]:=by
  rw[List.take_add_one,List.getD_eq_getElem?_getD,List.getElem?_eq_getElem hj];rfl
 have hl:(P.take j).length=j:=by rw[List.length_take];omega
 unfold insL;rw[hd,ht];simp only[List.append_assoc,List.cons_append,List.nil_append];rw[List.set_append_right _ _ (by rw[hl];omega),hl,show j+1 - j=1 by omega,List.set_append_right _ _ (by rw[hl];omega),hl,Nat.sub_self];rfl
theorem y05{P D:List Int}{x:Int}{j:Nat}(hj:j<=P.length):(insL P j x++D).getD j 0=x:=by
 have hl:(P.take j).length=j:=by rw[List.length_take];omega
 unfold insL;rw[List.append_assoc,List.getD_eq_getElem?_getD,List.getElem?_append_right (by omega),hl,Nat.sub_self];rfl
theorem yj7{P D:List Int}{x:Int}{j:Nat}(hj:j<P.length):(insL P (j+1) x++D).getD j 0=P.getD j 0:=by
 unfold insL;rw[List.append_assoc,List.getD_eq_getElem?_getD,List.getElem?_append_left (by rw[List.length_take];omega),List.getElem?_take,if_pos (by omega),List.getD_eq_getElem?_getD]
theorem zW7{P:List Int}{x:Int}{j:Nat}(hp:P.Pairwise (· <·))(hx:x∉P)(hj:j<=P.length)(h1:∀q,j<=q->q<P.length->x<P.getD q 0)(h2:0<j->¬x<P.getD (j - 1) 0):insL P j x=z52 P x:=by
 refine zS5 P x j hj (fun q hq=> ?_) (fun h=>by have:=h1 j (Nat.le_refl _) h;omega);have h3:=h2 (by omega);have hm:P.getD (j - 1) 0∈P:=by rw[List.getD_eq_getElem?_getD,List.getElem?_eq_getElem (show j - 1<P.length by omega)];simp
 have hne:P.getD (j - 1) 0≠x:=fun e=>hx (e▸hm);by_cases e:q=j - 1
 ·rw[e];omega
 ·have:=yv7 hp (i:=q) (j:=j - 1) (by omega) (by omega)
  omega
theorem yw2(l:List Int):zm2 (l.take 1)++l.drop 1=l:=by
 cases l with
 |nil=>rfl
 |cons x l=>rfl
theorem yq4{l:List Int}{i:Nat}(h:i<l.length):zm2 (l.take (i+1))=z52 (zm2 (l.take i)) (l.getD i 0):=by
 rw[List.take_add_one,List.getElem?_eq_getElem h,List.getD_eq_getElem?_getD,List.getElem?_eq_getElem h];exact zN5 _ _
theorem yg0{l:List Int}{i:Nat}(h:i<l.length):l.drop i=l.getD i 0::l.drop (i+1):=by
 rw[List.drop_eq_getElem_cons h,List.getD_eq_getElem?_getD,List.getElem?_eq_getElem h];rfl
theorem yt9(P:List Int)(x:Int):insL P P.length x=P++[x]:=by
 unfold insL;rw[List.take_length,List.drop_length]
theorem yc3{l:List Int}{i:Nat}(hn:l.Nodup)(h:i<l.length):l.getD i 0∉l.take i:=by
 have:(l.take (i+1)).Nodup:=hn.sublist (List.take_sublist _ _);rw[List.take_add_one,List.getElem?_eq_getElem h]at this;have h2:=List.nodup_append.1 this;rw[List.getD_eq_getElem?_getD,List.getElem?_eq_getElem h];intro e;exact h2.2.2 _ e _ (by simp) rfl
end Go.Proofs.YtjobhigmdaiinaaGreat
namespace Go.Proofs.YtjobhigmdaiinaaGreat
end Go.Proofs.YtjobhigmdaiinaaGreat
namespace Go.Proofs.YtjobhigmdaiinaaGreat
open Go.RowKit
def av(c:Nat)(pre:List Nat):List Nat:=(List.range c).filter fun p=>decide (p∉pre)
end Go.Proofs.YtjobhigmdaiinaaGreat
namespace Go.Proofs.YtjobhigmdaiinaaGreat
def cutP(l:List Int)(v:Int):List Int:=l.filter fun x=>x !=v
theorem zV9{l:List Int}{v:Int}(h:v∉l):cutP l v=l:=by
 unfold cutP;rw[List.filter_eq_self];intro a ha;have:a≠v:=fun e=>h (e▸ha);simpa using this
theorem yt1{l:List Int}(h:l.Nodup):∀{i:Nat},i<l.length->cutP l (l.getD i 0)=zB2 l i:=by
 induction l with
 |nil=>intro i hi;simp at hi
 |cons a l ih=>
  intro i hi;rw[List.nodup_cons]at h;cases i with
  |zero=>
   show cutP (a::l) a=_;have e:cutP (a::l) a=cutP l a:=by simp[cutP]
   rw[e,zV9 h.1];simp[zB2]
  |succ i=>
   have hi':i<l.length:=by simpa using hi
   have e1:(a::l).getD (i+1) 0=l.getD i 0:=rfl;have hne:a≠l.getD i 0:=by
    intro e;apply h.1;rw[e,List.getD_eq_getElem?_getD,List.getElem?_eq_getElem hi'];simp
   have e2:cutP (a::l) (l.getD i 0)=a::cutP l (l.getD i 0):=by
    unfold cutP;rw[List.filter_cons_of_pos (by simpa using hne)]
   rw[e1,e2,ih h.2 hi'];simp[zB2]
theorem zB9(l:List Int)(v:Int)(k:Nat)(h:k<l.length):cutP (l.take (k+1)) v=if l.getD k 0=v then cutP (l.take k) v else cutP (l.take k) v++[l.getD k 0]:=by
 have e:l.take (k+1)=l.take k++[l.getD k 0]:=by
  rw[List.take_add_one,List.getD_eq_getElem?_getD,List.getElem?_eq_getElem h];rfl
 rw[e];unfold cutP;rw[List.filter_append];by_cases hv:l.getD k 0=v
 ·rw[if_pos hv,hv];simp
 ·rw[if_neg hv]
  congr 1
  rw[List.filter_cons_of_pos (by simpa using hv)];rfl
theorem yl7(l:List Int)(v:Int):(cutP l v).length<=l.length:=List.length_filter_le _ _
end Go.Proofs.YtjobhigmdaiinaaGreat
