import Derived.WalkKit
import Derived.WalkSpells
import Derived.Deep.WholeRow
namespace Go.Proofs.YtjobhigmdaiinaaGreat
open Go.RowKit
theorem nmd{α:Sort _}(x:α):∃v,Hid (x=v):=⟨x,rfl⟩
theorem zs3{P:Program}{ops:Array Oper}{rest:List Oper}{o:Oper}{a:Act}{w w':World}{Q:Exit->Act->World->Prop}(v:Value)(hgd:o.guard=none)
 (hrun:(execOp a.eval o).run P w=.ok (.value v) w') (h:wpList P ops Q rest (a.put o.dst v) w'):wpList P ops Q (o::rest) a w:=
 wpList_plain hgd fun _ hK=>by unfold Oper.wp;rw[hrun];exact hK _ _ h
theorem ze2(zs:List Int)(k:Nat)(h:k<zs.length):zs.take (k+1)=zs.take k++[zs.getD k 0]:=by
 rw[List.take_succ_eq_append_getElem h];simp[List.getD,h]
theorem zb4{a b:Bool}(h:a=b):Ending.returned (.bool a)=.returned (.bool b):=by rw[h]
theorem zm7{k:IntKind}{a b:Int}(h:a=b):Ending.returned (.int k a)=.returned (.int k b):=by rw[h]
def inB(n lo hi:Int):Bool:=decide (lo<=n/\n<=hi)
theorem zm0{n lo hi:Int}(h:lo<=n/\n<=hi):inB n lo hi=true:=decide_eq_true h
theorem zq8{n lo hi:Int}(h:¬(lo<=n/\n<=hi)):inB n lo hi=false:=decide_eq_false h
theorem zd6{n lo hi:Int}(h:inB n lo hi=true):lo<=n/\n<=hi:=of_decide_eq_true h
def cellsOf(l:List Int):Array Value:=(l.map (Value.int .i64)).toArray
theorem zk1(l:List Int):(cellsOf l).size=l.length:=by simp[cellsOf]
theorem zo9(l:List Int)(i:Nat)(h:i<l.length):(cellsOf l)[i]? =some (.int .i64 (l.getD i 0)):=by
 simp[cellsOf,List.getD,h]
theorem z46(l:List Int)(i:Nat)(v:Int):(cellsOf l).setIfInBounds i (.int .i64 v)=cellsOf (l.set i v):=by
 simp[cellsOf,List.map_set]
theorem zj4(l:List Int):(cellsOf l).all (·.oneCell')=true:=by
 simp[cellsOf,Value.oneCell']
theorem zi2{B:Nat}{a w:World}(h:Below B a w){g:Nat}(hg:B<=g)(cs:Array Value):Below B a (w.setRow g cs):=
 h.trans ⟨rfl,rfl,rfl,by simp,fun k hk=>setRow_other w g k cs (by omega)⟩
def za0(w:World)(a:Option Addr)(zs:List Int):Prop:=
 ∀j,j<zs.length->∃b off,a=some ⟨b,off,none⟩/\w.cell? ⟨b,off+j,none⟩=some (.int .i64 (zs.getD j 0))
theorem za0.some{w:World}{a:Option Addr}{zs:List Int}(h:za0 w a zs){j:Nat}(hj:j<zs.length):
 ∃b off,a=some ⟨b,off,none⟩/\∀j,j<zs.length->w.cell? ⟨b,off+j,none⟩=.some (.int .i64 (zs.getD j 0)):=by
 obtain⟨b,off,e,_⟩:=h j hj;refine⟨b,off,e,fun k hk=> ?_⟩;obtain⟨b',off',e',hc⟩:=h k hk;rw[e]at e';simp at e';obtain⟨rfl,rfl⟩:=e';exact hc
theorem za0.below{w w':World}{a:Option Addr}{zs:List Int}(h:za0 w a zs)(hb:Below w.heap.size w w'):za0 w' a zs:=by
 intro j hj;obtain⟨b,off,e,hc⟩:=h j hj;refine⟨b,off,e,?_⟩;have hl:=block_lt_of_cell hc;rw[hb.cell (p:=⟨b,off+j,none⟩) hl];exact hc
theorem za0.of_row{w:World}{g:Nat}{zs:List Int}{t:TypeId}(h:w.heap[g]? =.some (.cells (cellsOf zs) t (0,0))):za0 w (.some ⟨g,0,none⟩) zs:=by
 intro j hj;refine⟨g,0,rfl,?_⟩;rw[Nat.zero_add,cell_of_row _ _ _ _ _ _ h,zo9 _ _ hj]
def zm2(n:Int)(zs:List Int):Bool:=
 decide (1<=n/\n<=16/\(zs.length:Int)=n*n/\∀i,i<zs.length->0<=zs.getD i 0/\zs.getD i 0<=10000/\(i / n.toNat=i % n.toNat->zs.getD i 0=0))
theorem zi7{n:Int}{zs:List Int}(h:zm2 n zs=true):1<=n/\n<=16/\(zs.length:Int)=n*n/\∀i,i<zs.length->0<=zs.getD i 0/\zs.getD i 0<=10000/\(i / n.toNat=i % n.toNat->zs.getD i 0=0):=
 of_decide_eq_true h
theorem zX6{n:Int}{zs:List Int}(h:1<=n/\n<=16/\(zs.length:Int)=n*n/\∀i,i<zs.length->0<=zs.getD i 0/\zs.getD i 0<=10000/\(i / n.toNat=i % n.toNat->zs.getD i 0=0)):zm2 n zs=true:=
 decide_eq_true h
theorem zx2{n:Int}{zs:List Int}(h:¬(1<=n/\n<=16/\(zs.length:Int)=n*n/\∀i,i<zs.length->0<=zs.getD i 0/\zs.getD i 0<=10000/\(i / n.toNat=i % n.toNat->zs.getD i 0=0))):zm2 n zs=false:=
 decide_eq_false h
def zf7(n:Nat)(zs:List Int)(a b:Nat):List Int:=
 (List.range 256).map fun k=>if k / 16<n/\k % 16<n/\(k / 16<a∨k / 16=a/\k % 16<b)then zs.getD (k / 16*n+k % 16) 0 else 0
theorem zh3(n:Nat)(zs:List Int)(a b:Nat):(zf7 n zs a b).length=256:=by simp[zf7]
theorem zL6(n:Nat)(zs:List Int)(a b:Nat)(ha:a<n)(hb:b<n)(hn:n<=16):
 (zf7 n zs a b).set (a*16+b) (zs.getD (a*n+b) 0)=zf7 n zs a (b+1):=by
 apply List.ext_getElem
 ·simp[zf7]
 ·intro k h1 h2
  have hk:=by simpa[zf7]using h2
  by_cases e:a*16+b=k
  ·subst e
   have e1:(a*16+b) / 16=a:=by omega
   have e2:(a*16+b) % 16=b:=by omega
   simp only[zf7,List.getElem_set,List.getElem_map,List.getElem_range,e1,e2,if_true];rw[if_pos ⟨ha,hb,Or.inr ⟨trivial,by omega⟩⟩]
  ·simp only[zf7,List.getElem_set,List.getElem_map,List.getElem_range,if_neg e]
   have:¬(k / 16=a/\k % 16=b):=by omega
   by_cases c:k / 16<n/\k % 16<n/\(k / 16<a∨k / 16=a/\k % 16<b)
   ·rw[if_pos c,if_pos ⟨c.1,c.2.1,by omega⟩]
   ·rw[if_neg c,if_neg (by omega)]
theorem zU3(n:Nat)(zs:List Int)(a:Nat):zf7 n zs a n=zf7 n zs (a+1) 0:=by
 unfold zf7;apply List.map_congr_left;intro k _;by_cases c:k / 16<n/\k % 16<n/\(k / 16<a∨k / 16=a/\k % 16<n)
 ·rw[if_pos c,if_pos (by omega)]
 ·rw[if_neg c,if_neg (by omega)]
def zo1:List Int:=(List.range 256).map fun _=>0
theorem ze0:zo1.length=256:=by simp[zo1]
theorem zN8(n:Nat)(zs:List Int):zf7 n zs 0 0=zo1:=by
 unfold zf7 zo1;apply List.map_congr_left;intro k _;rw[if_neg (by omega)]
def zq2(n:Int)(zs:List Int):List Int:=if zm2 n zs=true then zf7 n.toNat zs n.toNat 0 else zo1
theorem zH7{n:Nat}{zs:List Int}(h:zm2 n zs=true):zq2 n zs=zf7 n zs n 0:=by
 unfold zq2;rw[if_pos h];simp
theorem zl3{n:Int}{zs:List Int}(h:zm2 n zs=false):zq2 n zs=zo1:=by
 unfold zq2;rw[h];simp
theorem zu7(n:Int)(zs:List Int):(zq2 n zs).length=256:=by
 unfold zq2;split
 ·exact zh3 _ _ _ _
 ·exact ze0
def yd9(n:Nat)(zs:List Int)(a b:Nat):Prop:=
 ∀i j,i<n->j<n->(i<a∨i=a/\j<b)->0<=zs.getD (i*n+j) 0/\zs.getD (i*n+j) 0<=10000/\(i=j->zs.getD (i*n+j) 0=0)
theorem ya7(n:Nat)(zs:List Int):yd9 n zs 0 0:=by intro i j _ _ h;omega
theorem ya2{n:Nat}{zs:List Int}{a b:Nat}(h:yd9 n zs a b)(h0:0<=zs.getD (a*n+b) 0)(h1:zs.getD (a*n+b) 0<=10000)(h2:a=b->zs.getD (a*n+b) 0=0):yd9 n zs a (b+1):=by
 intro i j hi hj hij;by_cases e:i=a/\j=b
 ·obtain⟨rfl,rfl⟩:=e;exact⟨h0,h1,h2⟩
 ·exact h i j hi hj (by omega)
theorem yj8{n:Nat}{zs:List Int}{a:Nat}(h:yd9 n zs a n):yd9 n zs (a+1) 0:=by
 intro i j hi hj hij;exact h i j hi hj (by omega)
theorem zs2(n i j:Nat)(hj:j<n):(i*n+j) / n=i/\(i*n+j) % n=j:=by
 have hn:0<n:=by omega
 constructor
 ·rw[Nat.add_comm,Nat.add_mul_div_right _ _ hn,Nat.div_eq_of_lt hj,Nat.zero_add]
 ·rw[Nat.add_comm,Nat.add_mul_mod_self_right,Nat.mod_eq_of_lt hj]
theorem zT3(n k:Nat)(h:k<n*n):k / n<n/\k % n<n/\k / n*n+k % n=k:=by
 have hn:0<n:=by rcases Nat.eq_zero_or_pos n with e|e;·subst e;simp at h
                 exact e
 exact⟨(Nat.div_lt_iff_lt_mul hn).2 h,Nat.mod_lt _ hn,by rw[Nat.mul_comm];exact Nat.div_add_mod k n⟩
theorem zJ8(n:Nat)(zs:List Int)(h1:1<=n)(h2:n<=16)(hl:zs.length=n*n)(h:yd9 n zs n 0):zm2 n zs=true:=by
 refine zX6 ⟨by omega,by omega,by rw[hl];simp,fun i hi=> ?_⟩;obtain⟨a,b,c⟩:=zT3 n i (by omega);have:=h (i / n) (i % n) a b (Or.inl a);rw[c]at this;simpa using this
theorem yk0(n:Nat)(zs:List Int)(x y:Nat)(hx:x<n)(hy:y<n)(hl:zs.length=n*n)(h:¬(0<=zs.getD (x*n+y) 0/\zs.getD (x*n+y) 0<=10000/\(x=y->zs.getD (x*n+y) 0=0))):zm2 n zs=false:=by
 refine zx2 fun⟨_,_,_,hh⟩=>h ?_;obtain⟨e1,e2⟩:=zs2 n x y hy;have hlt:x*n+y<zs.length:=by
  rw[hl];have:=Nat.mul_le_mul_right n (show x+1<=n by omega);rw[Nat.add_mul]at this;omega
 have:=hh (x*n+y) hlt;simp only[Int.toNat_natCast,e1,e2]at this;exact this
theorem zu2(a n:Nat)(h1:a<=16)(h2:n<=16):a*n<=256:=Nat.mul_le_mul h1 h2
theorem yj5(n:Nat)(zs:List Int)(h1:1<=n)(h2:n<=16)(hl:zs.length=n*n)(h:∀i,i<n*n->0<=zs.getD i 0/\zs.getD i 0<=10000/\(i / n=i % n->zs.getD i 0=0)):zm2 n zs=true:=
 zX6 ⟨by omega,by omega,by rw[hl];simp,fun i hi=>by rw[Int.toNat_natCast];exact h i (by omega)⟩
theorem yc2(n:Nat)(zs:List Int)(hl:zs.length=n*n)(k:Nat)(hk:k<n*n)(h:¬(0<=zs.getD k 0/\zs.getD k 0<=10000/\(k / n=k % n->zs.getD k 0=0))):zm2 n zs=false:=
 zx2 fun⟨_,_,_,hh⟩=>h (by have:=hh k (by omega);rwa [Int.toNat_natCast]at this)
theorem za1{B:Nat}{W w1:World}(hb:Below B W w1){k:Nat}{o:Obj}(hk:k<B)(h:W.heap[k]? =some o):w1.heap[k]? =some o:=by
 rw[hb.block k hk];exact h
theorem za3{W:World}{k:Nat}{o:Obj}(h:W.heap[k]? =some o):k<W.heap.size:=by
 by_cases hlt:k<W.heap.size
 ·exact hlt
 ·have hn:W.heap[k]? =none:=by simp;omega
  rw[hn]at h;cases h
theorem zG2{w w1 w2:World}{k:Nat}{c0 c1:Value}{T:TypeId}(hb:Below w1.heap.size w1 w2)(hB:Below w.heap.size w w1)(hr:w1.heap[k]? =some (.cells #[c0,c1] T (0,0))):
 Below w.heap.size w w2/\w2.heap[k]? =some (.cells #[c0,c1] T (0,0))/\w2.cell? ⟨k,0,none⟩=some c0/\w2.cell? ⟨k,1,none⟩=some c1:=by
 have r:=za1 hb (za3 hr) hr;refine⟨hB.trans (hb.mono hB.size),r,?_,?_⟩
 ·rw[cell_of_row _ _ 0 _ _ _ r];simp
 ·rw[cell_of_row _ _ 1 _ _ _ r];simp
theorem zv2{a b:List Int}{p q:Bool}(h:a=b)(k:p=q):Ending.returned (.tuple #[.agg (cellsOf a),.bool p])=Ending.returned (.tuple #[.agg (cellsOf b),.bool q]):=by rw[h,k]
def tm(n:Nat)(zs:List Int)(x y:Nat):Int:=zs.getD (x*n+y) 0
def og6(zs:List Int)(i f:Nat):Int:=zs.getD (i*6+f) 0
theorem zq3{w:World}{b off:Nat}{zs:List Int}{n:Nat}(h:∀j,j<zs.length->w.cell? ⟨b,off+j,none⟩=some (.int .i64 (zs.getD j 0)))(hl:zs.length=n*6)(i:Nat)(hi:i<n):
 w.cell? ⟨b,off+i*6,none⟩=some (.int .i64 (og6 zs i 0))/\w.cell? ⟨b,off+i*6+1,none⟩=some (.int .i64 (og6 zs i 1))/\w.cell? ⟨b,off+i*6+2,none⟩=some (.int .i64 (og6 zs i 2))/\w.cell? ⟨b,off+i*6+3,none⟩=some (.int .i64 (og6 zs i 3))/\w.cell? ⟨b,off+i*6+4,none⟩=some (.int .i64 (og6 zs i 4))/\w.cell? ⟨b,off+i*6+5,none⟩=some (.int .i64 (og6 zs i 5)):=by
 have hb:i*6+6<=zs.length:=by omega
 refine⟨?_,?_,?_,?_,?_,?_⟩
 ·exact h (i*6) (by omega)
 ·rw[Nat.add_assoc];exact h (i*6+1) (by omega)
 ·rw[Nat.add_assoc];exact h (i*6+2) (by omega)
 ·rw[Nat.add_assoc];exact h (i*6+3) (by omega)
 ·rw[Nat.add_assoc];exact h (i*6+4) (by omega)
 ·rw[Nat.add_assoc];exact h (i*6+5) (by omega)
def og5(zs:List Int)(i f:Nat):Int:=zs.getD (i*5+f) 0
theorem z48{w:World}{b off:Nat}{zs:List Int}{n:Nat}(h:∀j,j<zs.length->w.cell? ⟨b,off+j,none⟩=some (.int .i64 (zs.getD j 0)))(hl:zs.length=n*5)(i:Nat)(hi:i<n):
 w.cell? ⟨b,off+i*5,none⟩=some (.int .i64 (og5 zs i 0))/\w.cell? ⟨b,off+i*5+1,none⟩=some (.int .i64 (og5 zs i 1))/\w.cell? ⟨b,off+i*5+2,none⟩=some (.int .i64 (og5 zs i 2))/\w.cell? ⟨b,off+i*5+3,none⟩=some (.int .i64 (og5 zs i 3))/\w.cell? ⟨b,off+i*5+4,none⟩=some (.int .i64 (og5 zs i 4)):=by
 have hb:i*5+5<=zs.length:=by omega
 refine⟨?_,?_,?_,?_,?_⟩
 ·exact h (i*5) (by omega)
 ·rw[Nat.add_assoc];exact h (i*5+1) (by omega)
 ·rw[Nat.add_assoc];exact h (i*5+2) (by omega)
 ·rw[Nat.add_assoc];exact h (i*5+3) (by omega)
 ·rw[Nat.add_assoc];exact h (i*5+4) (by omega)
def zg5(f t:Int):Bool:=inB f 0 1000000&&inB t f 1000000
theorem ye1{f t:Int}(h1:0<=f)(h2:f<=t)(h3:t<=1000000):zg5 f t=true:=by
 unfold zg5;rw[zm0 (by omega),zm0 (by omega)];rfl
theorem zz0{f t:Int}(h:¬(0<=f/\f<=t/\t<=1000000)):zg5 f t=false:=by
 unfold zg5;cases h1:inB f 0 1000000
 ·rfl
 ·cases h2:inB t f 1000000
  ·rfl
  ·have:=zd6 h1;have:=zd6 h2;omega
def zp7(n o1 o2 o3 o4 o5:Int):Bool:=inB o1 0 (n - 1)&&inB o2 0 1000&&zg5 o3 o4&&inB o5 0 10000
def z64(n o0 o1 o2 o3 o4 o5:Int):Bool:=inB o0 1 1000000000&&zp7 n o1 o2 o3 o4 o5
def zt9(n o1 o2 o3 o4:Int):Bool:=inB o1 0 (n - 1)&&inB o2 0 1000&&zg5 o3 o4
def zE2(n o0 o1 o2 o3 o4:Int):Bool:=inB o0 1 1000000000&&zt9 n o1 o2 o3 o4
def zq4(n:Int)(zs:List Int)(k:Nat):Prop:=∀i,i<k->z64 n (og6 zs i 0) (og6 zs i 1) (og6 zs i 2) (og6 zs i 3) (og6 zs i 4) (og6 zs i 5)=true/\(0<i->og6 zs (i - 1) 0<og6 zs i 0)
def zo3(n:Int)(zs:List Int)(k:Nat):Bool:=decide (k<=12/\∀i,i<k->z64 n (og6 zs i 0) (og6 zs i 1) (og6 zs i 2) (og6 zs i 3) (og6 zs i 4) (og6 zs i 5)=true/\(0<i->og6 zs (i - 1) 0<og6 zs i 0))
theorem zJ4{n:Int}{zs:List Int}{k:Nat}(h:k<=12)(ht:zq4 n zs k):zo3 n zs k=true:=by
 unfold zo3;exact decide_eq_true ⟨h,ht⟩
theorem zh0{n:Int}{zs:List Int}{k:Nat}(h:zo3 n zs k=true):k<=12/\zq4 n zs k:=by
 unfold zo3 at h;have:=of_decide_eq_true h;exact⟨this.1,this.2⟩
theorem zW9{n:Int}{zs:List Int}{k:Nat}(h:¬k<=12):zo3 n zs k=false:=decide_eq_false fun x=>h x.1
theorem zx5{n:Int}{zs:List Int}{m k:Nat}(hk:k<m)(h:¬(z64 n (og6 zs k 0) (og6 zs k 1) (og6 zs k 2) (og6 zs k 3) (og6 zs k 4) (og6 zs k 5)=true/\(0<k->og6 zs (k - 1) 0<og6 zs k 0))):zo3 n zs m=false:=decide_eq_false fun x=>h (x.2 k hk)
theorem z55(n:Int)(zs:List Int):zq4 n zs 0:=fun i hi=>by omega
theorem zv5{n:Int}{zs:List Int}{k:Nat}(h:zq4 n zs k)(h1:z64 n (og6 zs k 0) (og6 zs k 1) (og6 zs k 2) (og6 zs k 3) (og6 zs k 4) (og6 zs k 5)=true)(h2:0<k->og6 zs (k - 1) 0<og6 zs k 0):zq4 n zs (k+1):=by
 intro i hi;by_cases e:i=k
 ·subst e;exact⟨h1,h2⟩
 ·exact h i (by omega)
def zj8(zs:List Int):Nat->Int
 |0=>0
 |k+1=>og6 zs k 0
theorem z56{n:Int}{zs:List Int}{k:Nat}(h:zq4 n zs k):0<=zj8 zs k/\zj8 zs k<=1000000000:=by
 cases k with
 |zero=>simp[zj8]
 |succ k=>
  have h1:=(h k (by omega)).1;unfold z64 at h1;rw[Bool.and_eq_true]at h1;have:=zd6 h1.1;show 0<=og6 zs k 0/\og6 zs k 0<=1000000000;omega
theorem yn4{n:Int}{zs:List Int}{k:Nat}(h:zq4 n zs k)(h1:inB (og6 zs k 0) (zj8 zs k+1) 1000000000=true)(h2:zp7 n (og6 zs k 1) (og6 zs k 2) (og6 zs k 3) (og6 zs k 4) (og6 zs k 5)=true):
 z64 n (og6 zs k 0) (og6 zs k 1) (og6 zs k 2) (og6 zs k 3) (og6 zs k 4) (og6 zs k 5)=true/\(0<k->og6 zs (k - 1) 0<og6 zs k 0):=by
 have hb:=z56 h;have hi:=zd6 h1;refine⟨?_,fun hk=> ?_⟩
 ·unfold z64;rw[zm0 (by omega),h2];rfl
 ·obtain⟨j,rfl⟩:∃j,k=j+1:=⟨k - 1,by omega⟩
  simp only[zj8]at hi;simp only[Nat.add_sub_cancel];omega
theorem zA8{n:Int}{zs:List Int}{k:Nat}(h:¬(inB (og6 zs k 0) (zj8 zs k+1) 1000000000=true/\zp7 n (og6 zs k 1) (og6 zs k 2) (og6 zs k 3) (og6 zs k 4) (og6 zs k 5)=true)):
 ¬(z64 n (og6 zs k 0) (og6 zs k 1) (og6 zs k 2) (og6 zs k 3) (og6 zs k 4) (og6 zs k 5)=true/\(0<k->og6 zs (k - 1) 0<og6 zs k 0)):=by
 rintro⟨h1,h2⟩;unfold z64 at h1;rw[Bool.and_eq_true]at h1;refine h ⟨zm0 ?_,h1.2⟩;have hi:=zd6 h1.1;cases k with
 |zero=>simp only[zj8];omega
 |succ j=>
  have:=h2 (by omega);simp only[Nat.add_sub_cancel]at this;simp only[zj8];omega
def zq5(n:Int)(zs:List Int)(k:Nat):Prop:=∀i,i<k->zE2 n (og5 zs i 0) (og5 zs i 1) (og5 zs i 2) (og5 zs i 3) (og5 zs i 4)=true/\(0<i->og5 zs (i - 1) 0<og5 zs i 0)
def zu0(n:Int)(zs:List Int)(k:Nat):Bool:=decide (k<=5/\∀i,i<k->zE2 n (og5 zs i 0) (og5 zs i 1) (og5 zs i 2) (og5 zs i 3) (og5 zs i 4)=true/\(0<i->og5 zs (i - 1) 0<og5 zs i 0))
theorem zI7{n:Int}{zs:List Int}{k:Nat}(h:k<=5)(ht:zq5 n zs k):zu0 n zs k=true:=by
 unfold zu0;exact decide_eq_true ⟨h,ht⟩
theorem zs0{n:Int}{zs:List Int}{k:Nat}(h:zu0 n zs k=true):k<=5/\zq5 n zs k:=by
 unfold zu0 at h;have:=of_decide_eq_true h;exact⟨this.1,this.2⟩
theorem zW3{n:Int}{zs:List Int}{k:Nat}(h:¬k<=5):zu0 n zs k=false:=decide_eq_false fun x=>h x.1
theorem zx9{n:Int}{zs:List Int}{m k:Nat}(hk:k<m)(h:¬(zE2 n (og5 zs k 0) (og5 zs k 1) (og5 zs k 2) (og5 zs k 3) (og5 zs k 4)=true/\(0<k->og5 zs (k - 1) 0<og5 zs k 0))):zu0 n zs m=false:=decide_eq_false fun x=>h (x.2 k hk)
theorem z50(n:Int)(zs:List Int):zq5 n zs 0:=fun i hi=>by omega
theorem zv1{n:Int}{zs:List Int}{k:Nat}(h:zq5 n zs k)(h1:zE2 n (og5 zs k 0) (og5 zs k 1) (og5 zs k 2) (og5 zs k 3) (og5 zs k 4)=true)(h2:0<k->og5 zs (k - 1) 0<og5 zs k 0):zq5 n zs (k+1):=by
 intro i hi;by_cases e:i=k
 ·subst e;exact⟨h1,h2⟩
 ·exact h i (by omega)
def zj6(zs:List Int):Nat->Int
 |0=>0
 |k+1=>og5 zs k 0
theorem z36{n:Int}{zs:List Int}{k:Nat}(h:zq5 n zs k):0<=zj6 zs k/\zj6 zs k<=1000000000:=by
 cases k with
 |zero=>simp[zj6]
 |succ k=>
  have h1:=(h k (by omega)).1;unfold zE2 at h1;rw[Bool.and_eq_true]at h1;have:=zd6 h1.1;show 0<=og5 zs k 0/\og5 zs k 0<=1000000000;omega
theorem yn5{n:Int}{zs:List Int}{k:Nat}(h:zq5 n zs k)(h1:inB (og5 zs k 0) (zj6 zs k+1) 1000000000=true)(h2:zt9 n (og5 zs k 1) (og5 zs k 2) (og5 zs k 3) (og5 zs k 4)=true):
 zE2 n (og5 zs k 0) (og5 zs k 1) (og5 zs k 2) (og5 zs k 3) (og5 zs k 4)=true/\(0<k->og5 zs (k - 1) 0<og5 zs k 0):=by
 have hb:=z36 h;have hi:=zd6 h1;refine⟨?_,fun hk=> ?_⟩
 ·unfold zE2;rw[zm0 (by omega),h2];rfl
 ·obtain⟨j,rfl⟩:∃j,k=j+1:=⟨k - 1,by omega⟩
  simp only[zj6]at hi;simp only[Nat.add_sub_cancel];omega
theorem zA1{n:Int}{zs:List Int}{k:Nat}(h:¬(inB (og5 zs k 0) (zj6 zs k+1) 1000000000=true/\zt9 n (og5 zs k 1) (og5 zs k 2) (og5 zs k 3) (og5 zs k 4)=true)):
 ¬(zE2 n (og5 zs k 0) (og5 zs k 1) (og5 zs k 2) (og5 zs k 3) (og5 zs k 4)=true/\(0<k->og5 zs (k - 1) 0<og5 zs k 0)):=by
 rintro⟨h1,h2⟩;unfold zE2 at h1;rw[Bool.and_eq_true]at h1;refine h ⟨zm0 ?_,h1.2⟩;have hi:=zd6 h1.1;cases k with
 |zero=>simp only[zj6];omega
 |succ j=>
  have:=h2 (by omega);simp only[Nat.add_sub_cancel]at this;simp only[zj6];omega
def zb8(n:Int)(zs os vs:List Int)(ko kv:Nat)(fine:Int):Bool:=zm2 n zs&&zo3 n os ko&&zu0 n vs kv&&inB fine 0 1000000
theorem yi8{w w1:World}{c0 c1 c2 c3 c4:Value}{T:TypeId}(hb:Below (w.alloc (.cells #[c0,c1,c2,c3,c4] T)).heap.size (w.alloc (.cells #[c0,c1,c2,c3,c4] T)) w1):
 Below w.heap.size w w1/\w1.heap[w.heap.size]? =some (.cells #[c0,c1,c2,c3,c4] T (0,0)):=
 ⟨((Below.refl _ _).alloc (Nat.le_refl _) _).trans (hb.mono (by simp)),za1 hb (by simp) (heap_alloc_new _ _)⟩
theorem zx6{w w1 w2:World}{k:Nat}{o:Obj}(hb:Below w1.heap.size w1 w2)(hB:Below w.heap.size w w1)(hr:w1.heap[k]? =some o):
 Below w.heap.size w w2/\w2.heap[k]? =some o:=⟨hB.trans (hb.mono hB.size),za1 hb (za3 hr) hr⟩
theorem za8{w:World}{k:Nat}{c0 c1 c2 c3 c4:Value}{T:TypeId}(r:w.heap[k]? =some (.cells #[c0,c1,c2,c3,c4] T (0,0))):
 w.cell? ⟨k,0,none⟩=some c0/\w.cell? ⟨k,1,none⟩=some c1/\w.cell? ⟨k,2,none⟩=some c2/\w.cell? ⟨k,3,none⟩=some c3/\w.cell? ⟨k,4,none⟩=some c4:=by
 refine⟨?_,?_,?_,?_,?_⟩
 ·rw[cell_of_row _ _ 0 _ _ _ r];simp
 ·rw[cell_of_row _ _ 1 _ _ _ r];simp
 ·rw[cell_of_row _ _ 2 _ _ _ r];simp
 ·rw[cell_of_row _ _ 3 _ _ _ r];simp
 ·rw[cell_of_row _ _ 4 _ _ _ r];simp
theorem zf8{w:World}{k:Nat}{c0 c1 c2 c3 c4 c5:Value}{T:TypeId}(r:w.heap[k]? =some (.cells #[c0,c1,c2,c3,c4,c5] T (0,0))):
 w.cell? ⟨k,0,none⟩=some c0/\w.cell? ⟨k,1,none⟩=some c1/\w.cell? ⟨k,2,none⟩=some c2/\w.cell? ⟨k,3,none⟩=some c3/\w.cell? ⟨k,4,none⟩=some c4/\w.cell? ⟨k,5,none⟩=some c5:=by
 refine⟨?_,?_,?_,?_,?_,?_⟩
 ·rw[cell_of_row _ _ 0 _ _ _ r];simp
 ·rw[cell_of_row _ _ 1 _ _ _ r];simp
 ·rw[cell_of_row _ _ 2 _ _ _ r];simp
 ·rw[cell_of_row _ _ 3 _ _ _ r];simp
 ·rw[cell_of_row _ _ 4 _ _ _ r];simp
 ·rw[cell_of_row _ _ 5 _ _ _ r];simp
end Go.Proofs.YtjobhigmdaiinaaGreat
namespace Go.Proofs.YtjobhigmdaiinaaGreat
def zG1(zs:List Int)(n:Nat)(id:Int):Option Nat:=(List.range n).find? fun i=>og6 zs i 0==id
def zi8(zs:List Int)(n:Nat)(id:Int):Bool:=(zG1 zs n id).isSome
def zc3(zs:List Int)(n:Nat)(id:Int)(f:Nat):Int:=match zG1 zs n id with
 |some i=>og6 zs i f
 |none=>0
theorem zY8{zs:List Int}{n:Nat}{id:Int}{i:Nat}(hi:i<n)(h:og6 zs i 0=id)(hno:∀j,j<i->og6 zs j 0≠id):zG1 zs n id=some i:=by
 unfold zG1;rw[List.find?_range_eq_some];exact⟨by simp[h],by simpa using hi,fun j hj=>by simpa using hno j hj⟩
theorem zI3{zs:List Int}{n:Nat}{id:Int}(hno:∀j,j<n->og6 zs j 0≠id):zG1 zs n id=none:=by
 unfold zG1;rw[List.find?_eq_none];intro j hj;have:=hno j (by simpa using hj);simpa using this
theorem zS0{zs:List Int}{n:Nat}{id:Int}{i:Nat}(h:zG1 zs n id=some i)(f:Nat):zc3 zs n id f=og6 zs i f:=by unfold zc3;rw[h]
theorem z99{zs:List Int}{n:Nat}{id:Int}(h:zG1 zs n id=none)(f:Nat):zc3 zs n id f=0:=by unfold zc3;rw[h]
theorem zQ1{zs:List Int}{n:Nat}{id:Int}{i:Nat}(h:zG1 zs n id=some i):zi8 zs n id=true:=by unfold zi8;rw[h];rfl
theorem zB0{zs:List Int}{n:Nat}{id:Int}(h:zG1 zs n id=none):zi8 zs n id=false:=by unfold zi8;rw[h];rfl
def zR9(zs:List Int)(n:Nat)(id:Int):Option Nat:=(List.range n).find? fun i=>og5 zs i 0==id
def fnd5T(zs:List Int)(n:Nat)(id:Int):Bool:=(zR9 zs n id).isSome
def zb5(zs:List Int)(n:Nat)(id:Int)(f:Nat):Int:=match zR9 zs n id with
 |some i=>og5 zs i f
 |none=>0
theorem ya8{zs:List Int}{n:Nat}{id:Int}{i:Nat}(hi:i<n)(h:og5 zs i 0=id)(hno:∀j,j<i->og5 zs j 0≠id):zR9 zs n id=some i:=by
 unfold zR9;rw[List.find?_range_eq_some];exact⟨by simp[h],by simpa using hi,fun j hj=>by simpa using hno j hj⟩
theorem zK2{zs:List Int}{n:Nat}{id:Int}(hno:∀j,j<n->og5 zs j 0≠id):zR9 zs n id=none:=by
 unfold zR9;rw[List.find?_eq_none];intro j hj;have:=hno j (by simpa using hj);simpa using this
theorem zP7{zs:List Int}{n:Nat}{id:Int}{i:Nat}(h:zR9 zs n id=some i)(f:Nat):zb5 zs n id f=og5 zs i f:=by unfold zb5;rw[h]
theorem z96{zs:List Int}{n:Nat}{id:Int}(h:zR9 zs n id=none)(f:Nat):zb5 zs n id f=0:=by unfold zb5;rw[h]
theorem zQ7{zs:List Int}{n:Nat}{id:Int}{i:Nat}(h:zR9 zs n id=some i):fnd5T zs n id=true:=by unfold fnd5T;rw[h];rfl
theorem zA2{zs:List Int}{n:Nat}{id:Int}(h:zR9 zs n id=none):fnd5T zs n id=false:=by unfold fnd5T;rw[h];rfl
end Go.Proofs.YtjobhigmdaiinaaGreat
namespace Go.Proofs.YtjobhigmdaiinaaGreat
open Go.RowKit
def zk7(os:List Int)(ko:Nat)(ids:List Int):Nat->Int
 |0=>0
 |k+1=>zk7 os ko ids k+zc3 os ko (ids.getD k 0) 2
theorem zz2{n:Int}{os:List Int}{ko:Nat}(h:zo3 n os ko=true)(id:Int):0<=zc3 os ko id 2/\zc3 os ko id 2<=1000:=by
 unfold zc3;cases hf:zG1 os ko id with
 |none=>simp
 |some i=>
  have hi:i<ko:=by
   unfold zG1 at hf;rw[List.find?_range_eq_some]at hf;have:=hf.2.1;simpa using this
  have:=((zh0 h).2 i hi).1;unfold z64 zp7 at this;simp only[Bool.and_eq_true]at this;have:=zd6 this.2.1.1.2;simpa using this
theorem zA7{n:Int}{zs os vs:List Int}{ko kv:Nat}{fine:Int}(h:zb8 n zs os vs ko kv fine=true):zo3 n os ko=true:=by
 unfold zb8 at h;simp only[Bool.and_eq_true]at h;exact h.1.1.2
theorem z79{n:Int}{os:List Int}{ko:Nat}(h:zo3 n os ko=true)(ids:List Int):∀k,0<=zk7 os ko ids k/\zk7 os ko ids k<=1000*k
 |0=>by simp[zk7]
 |k+1=>by
  have ih:=z79 h ids k;have:=zz2 h (ids.getD k 0);unfold zk7;omega
def zr8(ids:List Int)(k:Nat)(id:Int):Bool:=(List.range k).any fun j=>ids.getD j 0==id
theorem z73{ids:List Int}{k j:Nat}{id:Int}(hj:j<k)(h:ids.getD j 0=id):zr8 ids k id=true:=by
 unfold zr8;rw[List.any_eq_true];exact⟨j,by simpa using hj,by rw[h];simp⟩
theorem zB6{ids:List Int}{k:Nat}{id:Int}(h:∀j,j<k->ids.getD j 0≠id):zr8 ids k id=false:=by
 unfold zr8;rw[List.any_eq_false];intro j hj;have:=h j (by simpa using hj);simpa using this
def zM5(os:List Int)(ko:Nat)(ids:List Int)(k:Nat):Bool:=zi8 os ko (ids.getD k 0)&& !zr8 ids k (ids.getD k 0)
def zm9(os:List Int)(ko:Nat)(ids:List Int)(k:Nat):Prop:=∀j,j<k->zM5 os ko ids j=true
def zl8(os:List Int)(ko:Nat)(ids:List Int):Bool:=decide (ids.length<=12/\∀j,j<ids.length->zM5 os ko ids j=true)
theorem zA0{os:List Int}{ko:Nat}{ids:List Int}(h:ids.length<=12)(ht:zm9 os ko ids ids.length):zl8 os ko ids=true:=by
 unfold zl8;exact decide_eq_true ⟨h,ht⟩
theorem zf5{os:List Int}{ko:Nat}{ids:List Int}(h:zl8 os ko ids=true):ids.length<=12/\zm9 os ko ids ids.length:=by
 unfold zl8 at h;have:=of_decide_eq_true h;exact⟨this.1,this.2⟩
theorem z65{os:List Int}{ko:Nat}{ids:List Int}(h:¬ids.length<=12):zl8 os ko ids=false:=decide_eq_false fun x=>h x.1
theorem zs4{os:List Int}{ko:Nat}{ids:List Int}{k:Nat}(hk:k<ids.length)(h:zM5 os ko ids k=false):zl8 os ko ids=false:=decide_eq_false fun x=>by
 have:=x.2 k hk;rw[h]at this;cases this
theorem z03(os:List Int)(ko:Nat)(ids:List Int):zm9 os ko ids 0:=fun j hj=>by omega
theorem z07{os:List Int}{ko:Nat}{ids:List Int}{k:Nat}(h:zm9 os ko ids k)(h1:zM5 os ko ids k=true):zm9 os ko ids (k+1):=by
 intro j hj;by_cases e:j=k
 ·rw[e];exact h1
 ·exact h j (by omega)
theorem zs8{os:List Int}{ko:Nat}{ids:List Int}{k:Nat}{id:Int}(hid:ids.getD k 0=id){a b:Bool}(h1:zi8 os ko id=a)(h2:zr8 ids k id=b):zM5 os ko ids k=(a&& !b):=by
 unfold zM5;rw[hid,h1,h2]
def zi9(c:Bool)(vs os:List Int)(kv ko:Nat)(veh:Int)(ids:List Int):Int:=
 if c=false then 1 else if fnd5T vs kv veh=false then 2 else if zl8 os ko ids=false then 3 else if zb5 vs kv veh 2<zk7 os ko ids ids.length then 4 else 0
theorem zY9{c:Bool}{vs os:List Int}{kv ko:Nat}{veh:Int}{ids:List Int}(h:c=false):zi9 c vs os kv ko veh ids=1:=by
 unfold zi9;rw[if_pos h]
theorem zY7{c:Bool}{vs os:List Int}{kv ko:Nat}{veh:Int}{ids:List Int}(h:c=true)(h2:fnd5T vs kv veh=false):zi9 c vs os kv ko veh ids=2:=by
 unfold zi9;rw[if_neg (by simp[h]),if_pos h2]
theorem zF3{c:Bool}{vs os:List Int}{kv ko:Nat}{veh:Int}{ids:List Int}(h:c=true)(h2:fnd5T vs kv veh=true)(h3:zl8 os ko ids=false):zi9 c vs os kv ko veh ids=3:=by
 unfold zi9;rw[if_neg (by simp[h]),if_neg (by simp[h2]),if_pos h3]
theorem zX8{c:Bool}{vs os:List Int}{kv ko:Nat}{veh:Int}{ids:List Int}(h:c=true)(h2:fnd5T vs kv veh=true)(h3:zl8 os ko ids=true)(h4:zb5 vs kv veh 2<zk7 os ko ids ids.length):zi9 c vs os kv ko veh ids=4:=by
 unfold zi9;rw[if_neg (by simp[h]),if_neg (by simp[h2]),if_neg (by simp[h3]),if_pos h4]
theorem yg0{c:Bool}{vs os:List Int}{kv ko:Nat}{veh:Int}{ids:List Int}(h:c=true)(h2:fnd5T vs kv veh=true)(h3:zl8 os ko ids=true)(h4:¬zb5 vs kv veh 2<zk7 os ko ids ids.length):zi9 c vs os kv ko veh ids=0:=by
 unfold zi9;rw[if_neg (by simp[h]),if_neg (by simp[h2]),if_neg (by simp[h3]),if_neg h4]
theorem zg2{c:Bool}{vs os:List Int}{kv ko:Nat}{veh:Int}{ids:List Int}(h:zi9 c vs os kv ko veh ids=0):c=true/\fnd5T vs kv veh=true/\zl8 os ko ids=true:=by
 unfold zi9 at h;by_cases c1:c=false
 ·rw[if_pos c1]at h;omega
 ·rw[if_neg c1]at h
  by_cases c2:fnd5T vs kv veh=false
  ·rw[if_pos c2]at h;omega
  ·rw[if_neg c2]at h
   by_cases c3:zl8 os ko ids=false
   ·rw[if_pos c3]at h;omega
   ·exact⟨by simpa using c1,by simpa using c2,by simpa using c3⟩
def zc4(os:List Int)(ko:Nat)(ids:List Int):List Int:=(List.range (ids.length*6)).map fun j=>zc3 os ko (ids.getD (j / 6) 0) (j % 6)
theorem zg6(os:List Int)(ko:Nat)(ids:List Int):(zc4 os ko ids).length=ids.length*6:=by simp[zc4]
theorem zh1(os:List Int)(ko:Nat)(ids:List Int){k f:Nat}(hk:k<ids.length)(hf:f<6):og6 (zc4 os ko ids) k f=zc3 os ko (ids.getD k 0) f:=by
 unfold og6 zc4;have hj:k*6+f<ids.length*6:=by omega
 have e1:(k*6+f) / 6=k:=by omega
 have e2:(k*6+f) % 6=f:=by omega
 rw[List.getD,List.getElem?_map,List.getElem?_range hj];simp only[Option.map_some,Option.getD_some,e1,e2]
theorem zG0{n:Int}{os:List Int}{ko:Nat}(h:zo3 n os ko=true)(hn:1<=n)(id:Int):
 (0<=zc3 os ko id 1/\zc3 os ko id 1<n)/\(0<=zc3 os ko id 2/\zc3 os ko id 2<=1000)/\(0<=zc3 os ko id 3/\zc3 os ko id 3<=1000000)/\(0<=zc3 os ko id 4/\zc3 os ko id 4<=1000000)/\(0<=zc3 os ko id 5/\zc3 os ko id 5<=10000):=by
 unfold zc3;cases hf:zG1 os ko id with
 |none=>simp;omega
 |some i=>
  have hi:i<ko:=by
   unfold zG1 at hf;rw[List.find?_range_eq_some]at hf;have:=hf.2.1;simpa using this
  have:=((zh0 h).2 i hi).1;unfold z64 zp7 zg5 at this;simp only[Bool.and_eq_true]at this;obtain⟨_,⟨⟨h1,h2⟩,h3,h4⟩,h5⟩:=this;have h1:=zd6 h1;have h2:=zd6 h2;have h3:=zd6 h3;have h4:=zd6 h4;have h5:=zd6 h5;simp only[];omega
theorem zp2{n:Int}{vs:List Int}{kv:Nat}(h:zu0 n vs kv=true)(hn:1<=n)(id:Int):
 (0<=zb5 vs kv id 1/\zb5 vs kv id 1<n)/\(0<=zb5 vs kv id 2/\zb5 vs kv id 2<=1000)/\(0<=zb5 vs kv id 3/\zb5 vs kv id 3<=1000000)/\(0<=zb5 vs kv id 4/\zb5 vs kv id 4<=1000000):=by
 unfold zb5;cases hf:zR9 vs kv id with
 |none=>simp;omega
 |some i=>
  have hi:i<kv:=by
   unfold zR9 at hf;rw[List.find?_range_eq_some]at hf;have:=hf.2.1;simpa using this
  have:=((zs0 h).2 i hi).1;unfold zE2 zt9 zg5 at this;simp only[Bool.and_eq_true]at this;obtain⟨_,⟨h1,h2⟩,h3,h4⟩:=this;have h1:=zd6 h1;have h2:=zd6 h2;have h3:=zd6 h3;have h4:=zd6 h4;simp only[];omega
theorem zc7{n:Int}{zs os vs:List Int}{ko kv:Nat}{fine:Int}(h:zb8 n zs os vs ko kv fine=true):zm2 n zs=true/\zo3 n os ko=true/\zu0 n vs kv=true/\1<=n/\0<=fine/\fine<=1000000:=by
 unfold zb8 at h;simp only[Bool.and_eq_true]at h;exact⟨h.1.1.1,h.1.1.2,h.1.2,(zi7 h.1.1.1).1,zd6 h.2⟩
def tmI(n:Int)(zs:List Int)(x y:Int):Int:=zs.getD (x.toNat*n.toNat+y.toNat) 0
theorem zr5{n:Int}{zs:List Int}(h:zm2 n zs=true)(x y:Int):0<=tmI n zs x y/\tmI n zs x y<=10000:=by
 unfold tmI;by_cases hl:x.toNat*n.toNat+y.toNat<zs.length
 ·have:=(zi7 h).2.2.2 _ hl
  exact⟨this.1,this.2.1⟩
 ·rw[List.getD,List.getElem?_eq_none (by omega)]
  simp
def plc(ros:List Int)(home:Int):Nat->Int
 |0=>home
 |k+1=>og6 ros k 1
def zq7(n:Int)(ros:List Int)(m:Nat):Prop:=∀k,k<m->(0<=og6 ros k 1/\og6 ros k 1<n)/\(0<=og6 ros k 2/\og6 ros k 2<=1000)/\(0<=og6 ros k 3/\og6 ros k 3<=1000000)/\(0<=og6 ros k 4/\og6 ros k 4<=1000000)/\(0<=og6 ros k 5/\og6 ros k 5<=10000)
theorem zw9{n:Int}{os:List Int}{ko:Nat}(h:zo3 n os ko=true)(hn:1<=n)(ids:List Int):zq7 n (zc4 os ko ids) ids.length:=by
 intro k hk;rw[zh1 os ko ids hk (by omega),zh1 os ko ids hk (by omega),zh1 os ko ids hk (by omega),zh1 os ko ids hk (by omega),zh1 os ko ids hk (by omega)];exact zG0 h hn _
theorem zJ7{n:Int}{ros:List Int}{m:Nat}(h:zq7 n ros m){home:Int}(h0:0<=home)(h1:home<n):∀k,k<=m->0<=plc ros home k/\plc ros home k<n
 |0,_=>⟨h0,h1⟩
 |k+1,hk=>(h k (by omega)).1
def zt8(n:Int)(zs ros:List Int)(home frm:Int):Nat->Int
 |0=>frm
 |k+1=>max (zt8 n zs ros home frm k+tmI n zs (plc ros home k) (og6 ros k 1)) (og6 ros k 3)+og6 ros k 5
def zS6(n:Int)(zs ros:List Int)(home frm:Int)(k:Nat):Int:=zt8 n zs ros home frm k+tmI n zs (plc ros home k) (og6 ros k 1)
def zg0(n:Int)(zs ros:List Int)(home frm:Int)(k:Nat):Int:=max (zS6 n zs ros home frm k) (og6 ros k 3)
theorem zK8(n:Int)(zs ros:List Int)(home frm:Int)(k:Nat):zt8 n zs ros home frm (k+1)=zg0 n zs ros home frm k+og6 ros k 5:=rfl
def homeV(n:Int)(zs ros:List Int)(m:Nat)(home frm:Int):Int:=zt8 n zs ros home frm m+tmI n zs (plc ros home m) home
theorem zF4{n:Int}{zs ros:List Int}{m:Nat}{home frm:Int}(hz:zm2 n zs=true)(h:zq7 n ros m)(hf:0<=frm/\frm<=1000000):∀k,k<=m->0<=zt8 n zs ros home frm k/\zt8 n zs ros home frm k<=1000000+20000*k
 |0,_=>by simp only[zt8];omega
 |k+1,hk=>by
  have ih:=zF4 (home:=home) hz h hf k (by omega);have h1:=zr5 hz (plc ros home k) (og6 ros k 1);have h2:=h k (by omega);simp only[zt8];omega
def zl2(n:Int)(zs ros:List Int)(home frm:Int)(k:Nat):Prop:=∀j,j<k->zg0 n zs ros home frm j<=og6 ros j 4
theorem zC7{n:Int}{zs ros:List Int}{home frm:Int}{k:Nat}(h:zl2 n zs ros home frm k)(h1:zg0 n zs ros home frm k<=og6 ros k 4):zl2 n zs ros home frm (k+1):=by
 intro j hj;by_cases e:j=k
 ·rw[e];exact h1
 ·exact h j (by omega)
def zr9(n:Int)(zs ros:List Int)(m:Nat)(home frm to:Int):Int:=
 if∀j,j<m->zg0 n zs ros home frm j<=og6 ros j 4 then(if to<homeV n zs ros m home frm then 6 else 0)else 5
theorem z51{n:Int}{zs ros:List Int}{m:Nat}{home frm to:Int}{k:Nat}(hk:k<m)(h:og6 ros k 4<zg0 n zs ros home frm k):zr9 n zs ros m home frm to=5:=by
 unfold zr9;rw[if_neg (fun x=>by have:=x k hk;omega)]
theorem z63{n:Int}{zs ros:List Int}{m:Nat}{home frm to:Int}(h:zl2 n zs ros home frm m)(h2:to<homeV n zs ros m home frm):zr9 n zs ros m home frm to=6:=by
 have h:∀j,j<m->zg0 n zs ros home frm j<=og6 ros j 4:=h;unfold zr9;rw[if_pos h,if_pos h2]
theorem zI5{n:Int}{zs ros:List Int}{m:Nat}{home frm to:Int}(h:zl2 n zs ros home frm m)(h2:¬to<homeV n zs ros m home frm):zr9 n zs ros m home frm to=0:=by
 have h:∀j,j<m->zg0 n zs ros home frm j<=og6 ros j 4:=h;unfold zr9;rw[if_pos h,if_neg h2]
def codeV(c:Bool)(n:Int)(zs os vs:List Int)(ko kv:Nat)(veh:Int)(ids:List Int):Int:=
 if zi9 c vs os kv ko veh ids=0 then zr9 n zs (zc4 os ko ids) ids.length (zb5 vs kv veh 1) (zb5 vs kv veh 3) (zb5 vs kv veh 4)else zi9 c vs os kv ko veh ids
theorem zt1{c:Bool}{n:Int}{zs os vs:List Int}{ko kv:Nat}{veh:Int}{ids:List Int}(h:zi9 c vs os kv ko veh ids≠0):codeV c n zs os vs ko kv veh ids=zi9 c vs os kv ko veh ids:=by
 unfold codeV;rw[if_neg h]
theorem zw1{c:Bool}{n:Int}{zs os vs:List Int}{ko kv:Nat}{veh:Int}{ids:List Int}(h:zi9 c vs os kv ko veh ids=0):codeV c n zs os vs ko kv veh ids=zr9 n zs (zc4 os ko ids) ids.length (zb5 vs kv veh 1) (zb5 vs kv veh 3) (zb5 vs kv veh 4):=by
 unfold codeV;rw[if_pos h]
theorem zi3{c:Bool}{n:Int}{zs os vs:List Int}{ko kv:Nat}{veh:Int}{ids:List Int}(h:codeV c n zs os vs ko kv veh ids=0):zi9 c vs os kv ko veh ids=0/\zr9 n zs (zc4 os ko ids) ids.length (zb5 vs kv veh 1) (zb5 vs kv veh 3) (zb5 vs kv veh 4)=0:=by
 by_cases h1:zi9 c vs os kv ko veh ids=0
 ·exact⟨h1,by rw[zw1 h1]at h;exact h⟩
 ·exact absurd (by rw[zt1 h1]at h;exact h) h1
def zm3(n:Int)(zs ros:List Int)(home:Int):Nat->Int
 |0=>0
 |k+1=>zm3 n zs ros home k+tmI n zs (plc ros home k) (og6 ros k 1)
theorem zw7{n:Int}{zs ros:List Int}{home:Int}(hz:zm2 n zs=true):∀k:Nat,0<=zm3 n zs ros home k/\zm3 n zs ros home k<=10000*k
 |0=>by simp only[zm3];omega
 |k+1=>by
  have ih:=zw7 (ros:=ros) (home:=home) hz k;have h1:=zr5 hz (plc ros home k) (og6 ros k 1);simp only[zm3];omega
def zn3(n:Int)(zs ros:List Int)(m:Nat)(home:Int):Int:=zm3 n zs ros home m+tmI n zs (plc ros home m) home
def insL(ids:List Int)(i:Nat)(id:Int):List Int:=ids.take i++id::ids.drop i
theorem zp0{ids:List Int}{i:Nat}(id:Int)(h:i<=ids.length):(insL ids i id).length=ids.length+1:=by
 simp[insL];omega
def rcV(n:Int)(zs os vs:List Int)(ko kv:Nat)(veh:Int)(ids:List Int):Int:=
 if codeV true n zs os vs ko kv veh ids=0 then zn3 n zs (zc4 os ko ids) ids.length (zb5 vs kv veh 1)else 0
theorem ym3{n:Int}{zs os vs:List Int}{ko kv:Nat}{veh:Int}{ids:List Int}(h:codeV true n zs os vs ko kv veh ids≠0):rcV n zs os vs ko kv veh ids=0:=by
 unfold rcV;rw[if_neg h]
theorem z52{n:Int}{zs os vs:List Int}{ko kv:Nat}{veh:Int}{ids:List Int}(h:codeV true n zs os vs ko kv veh ids=0):rcV n zs os vs ko kv veh ids=zn3 n zs (zc4 os ko ids) ids.length (zb5 vs kv veh 1):=by
 unfold rcV;rw[if_pos h]
theorem zr2{c:Bool}{n:Int}{zs os vs:List Int}{ko kv:Nat}{veh:Int}{ids:List Int}(h:codeV c n zs os vs ko kv veh ids=0):ids.length<=12:=
 (zf5 (zg2 (zi3 h).1).2.2).1
theorem zw8{c:Bool}{n:Int}{zs os vs:List Int}{ko kv:Nat}{veh:Int}{ids:List Int}(h:codeV c n zs os vs ko kv veh ids=0):c=true:=
 (zg2 (zi3 h).1).1
theorem zs7{n:Int}{zs:List Int}(hz:zm2 n zs=true)(ros:List Int)(m:Nat)(hm:m<=12)(home:Int):0<=zn3 n zs ros m home/\zn3 n zs ros m home<=130000:=by
 have h1:=zw7 (ros:=ros) (home:=home) hz m;have h2:=zr5 hz (plc ros home m) home;unfold zn3;omega
theorem yn1{n:Int}{zs:List Int}(hz:zm2 n zs=true)(os vs:List Int)(ko kv:Nat)(veh:Int)(ids:List Int):0<=rcV n zs os vs ko kv veh ids/\rcV n zs os vs ko kv veh ids<=130000:=by
 by_cases h:codeV true n zs os vs ko kv veh ids=0
 ·rw[z52 h]
  exact zs7 hz _ _ (zr2 h) _
 ·rw[ym3 h];omega
def chB(c:Bool)(n:Int)(zs os vs:List Int)(ko kv:Nat)(veh:Int)(ids:List Int)(ok:Bool)(ids':List Int):Bool:=
 decide (codeV c n zs os vs ko kv veh ids=0)&&(ok&&decide (codeV c n zs os vs ko kv veh ids'=0))
def chI(ch:Bool)(v:Int):Int:=if ch then v else 0
def chL(ch:Bool)(ids':List Int):List Int:=if ch then ids' else []
def chD(ch:Bool)(n:Int)(zs os vs:List Int)(ko kv:Nat)(veh:Int)(ids ids':List Int):Int:=
 if ch then rcV n zs os vs ko kv veh ids' - rcV n zs os vs ko kv veh ids else 0
theorem zD5{c:Bool}{n:Int}{zs os vs:List Int}{ko kv:Nat}{veh:Int}{ids:List Int}(h:codeV c n zs os vs ko kv veh ids≠0)(ok:Bool)(ids':List Int):chB c n zs os vs ko kv veh ids ok ids'=false:=by
 unfold chB;rw[decide_eq_false h];rfl
theorem zO9{c:Bool}{n:Int}{zs os vs:List Int}{ko kv:Nat}{veh:Int}{ids:List Int}{ok:Bool}(h:ok=false)(ids':List Int):chB c n zs os vs ko kv veh ids ok ids'=false:=by
 unfold chB;rw[h];simp
theorem zM4{c:Bool}{n:Int}{zs os vs:List Int}{ko kv:Nat}{veh:Int}{ids ids':List Int}(ok:Bool)(h:codeV c n zs os vs ko kv veh ids'≠0):chB c n zs os vs ko kv veh ids ok ids'=false:=by
 unfold chB;rw[decide_eq_false h];simp
theorem zN5{c:Bool}{n:Int}{zs os vs:List Int}{ko kv:Nat}{veh:Int}{ids ids':List Int}{ok:Bool}(h:codeV c n zs os vs ko kv veh ids=0)(ho:ok=true)(h':codeV c n zs os vs ko kv veh ids'=0):chB c n zs os vs ko kv veh ids ok ids'=true:=by
 unfold chB;rw[decide_eq_true h,ho,decide_eq_true h'];rfl
def yp5(n:Nat)(l:List Int)(k a b:Nat):List Int:=l.set (a*n+b) (min (tm n l a b) (tm n l a k+tm n l k b))
def zn2(n:Nat)(zs:List Int):Nat->List Int
 |0=>zs
 |m+1=>yp5 n (zn2 n zs m) (m / n / n) (m / n % n) (m % n)
theorem yf5(n k a b:Nat)(ha:a<n)(hb:b<n):((k*n+a)*n+b) / n / n=k/\((k*n+a)*n+b) / n % n=a/\((k*n+a)*n+b) % n=b:=by
 obtain⟨h1,h2⟩:=zs2 n (k*n+a) b hb;obtain⟨h3,h4⟩:=zs2 n k a ha;exact⟨by rw[h1,h3],by rw[h1,h4],h2⟩
theorem zT2(n:Nat)(zs:List Int)(k a b:Nat)(ha:a<n)(hb:b<n):
 zn2 n zs ((k*n+a)*n+(b+1))=yp5 n (zn2 n zs ((k*n+a)*n+b)) k a b:=by
 obtain⟨h1,h2,h3⟩:=yf5 n k a b ha hb;rw[<-Nat.add_assoc,zn2,h1,h2,h3]
theorem zP0(n:Nat)(l:List Int)(k a b:Nat):(yp5 n l k a b).length=l.length:=by simp[yp5]
theorem zn5(n:Nat)(zs:List Int):∀m,(zn2 n zs m).length=zs.length
 |0=>rfl
 |m+1=>by rw[zn2,zP0,zn5 n zs m]
def okL(l:List Int):Prop:=∀i,0<=l.getD i 0/\l.getD i 0<=10000
theorem yn2{l:List Int}(h:okL l){i:Nat}{v:Int}(h0:0<=v)(h1:v<=10000):okL (l.set i v):=by
 intro j;have hj:=h j;rw[List.getD_eq_getElem?_getD]at hj⊢;rw[List.getElem?_set];split
 ·split
  ·simp;omega
  ·simp
 ·exact hj
theorem yi5{n:Nat}{l:List Int}(h:okL l)(k a b:Nat):okL (yp5 n l k a b):=by
 have h1:=h (a*n+b);have h2:=h (a*n+k);have h3:=h (k*n+b);unfold yp5 tm;refine yn2 h ?_ ?_
 ·omega
 ·omega
theorem zG9{n:Nat}{zs:List Int}(h:okL zs):∀m,okL (zn2 n zs m)
 |0=>h
 |m+1=>yi5 (zG9 h m) _ _ _
theorem zW1{n:Int}{zs:List Int}(h:zm2 n zs=true):okL zs:=by
 intro i;by_cases hi:i<zs.length
 ·have:=(zi7 h).2.2.2 i hi
  exact⟨this.1,this.2.1⟩
 ·rw[List.getD_eq_getElem?_getD,List.getElem?_eq_none (by omega)];simp
theorem yf1{n:Nat}{l:List Int}(h:okL l)(x y:Nat):0<=tm n l x y/\tm n l x y<=10000:=h _
def clo(n:Nat)(zs:List Int):List Int:=zn2 n zs (n*n*n)
theorem za0.pre{w:World}{a:Option Addr}{l r:List Int}(h:za0 w a (l++r)):za0 w a l:=by
 intro j hj;obtain⟨b,off,e,hc⟩:=h j (by simp;omega);refine⟨b,off,e,?_⟩;rw[hc,List.getD_eq_getElem?_getD,List.getElem?_append_left hj,<-List.getD_eq_getElem?_getD]
end Go.Proofs.YtjobhigmdaiinaaGreat
namespace Go.Proofs.YtjobhigmdaiinaaGreat
end Go.Proofs.YtjobhigmdaiinaaGreat
namespace Go.Proofs.YtjobhigmdaiinaaGreat
open Go.RowKit
def av(c:Nat)(pre:List Nat):List Nat:=(List.range c).filter fun p=>decide (p∉pre)
end Go.Proofs.YtjobhigmdaiinaaGreat
namespace Go.Proofs.YtjobhigmdaiinaaGreat
def yo1(l:List Int)(v:Int):List Int:=l.filter fun x=>x !=v
end Go.Proofs.YtjobhigmdaiinaaGreat
namespace Go.Proofs.YtjobhigmdaiinaaGreat
open Go.RowKit
end Go.Proofs.YtjobhigmdaiinaaGreat
