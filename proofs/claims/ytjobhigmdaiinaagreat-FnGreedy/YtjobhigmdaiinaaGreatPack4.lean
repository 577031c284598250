import Derived.Test.YtjobhigmdaiinaaGreatPack0
import Derived.Test.YtjobhigmdaiinaaGreatPack1
import Derived.WalkKit
import Derived.Deep.RegionLaw
import Derived.Deep.RegionHeld3
namespace Go.Proofs.YtjobhigmdaiinaaGreat
open Go.RowKit
theorem za5{w w':World}{row:Option Nat}{k:Nat}{o:Obj}(hg:w.grownBy w' row)(h:w.heap[k]? =some o)(hne:some k≠row):w'.heap[k]? =some o:=(hg.block k (za3 h) hne).trans h
theorem zd2{w:World}{base size g n cap:Nat}{e:TypeId}{zs:List Int}(h:w.ownsRow base e size (.slice (some ⟨g,0,none⟩) n cap) n (zs.map (Value.int .i64))):za0 w (some ⟨g,0,none⟩) zs:=by
 intro j hj;refine⟨g,0,rfl,?_⟩;have:=h.cells (g:=g) rfl j (.int .i64 (zs.getD j 0)) (by simp[List.getD,hj]);have hadd:(⟨g,0,none⟩:Addr).add j=⟨g,0+j,none⟩:=by unfold Addr.add;split<;>simp_all
 rw[hadd]at this;exact this
theorem zc2{w w':World}{base size n:Nat}{e:TypeId}{v:Value}{xs:List Value}(h:w.ownsRow base e size v n xs)(hb:Below w.heap.size w w'):w'.ownsRow base e size v n xs:=by
 obtain⟨h1,h2|⟨g,cap,cur,h2,h3,h4,h5⟩⟩:=h
 ·exact⟨h1,.inl h2⟩
 ·exact⟨h1,.inr ⟨g,cap,cur,h2,h3,za1 hb (za3 h4) h4,h5⟩⟩
theorem zj7{w:World}{base k:Nat}{v:Value}{e:TypeId}{size:Nat}{xs:List Value}(h:w.ownsRow base e size v (k+1) xs):∃g c,v=.slice (some ⟨g,0,none⟩) (k+1) c/\base<=g:=by
 obtain⟨_,⟨_,h2⟩|⟨g,cap,cur,h2,h3,_⟩⟩:=h
 ·omega
 ·exact⟨g,cap,h2,h3⟩
theorem zk3{w:World}{base k:Nat}{v:Value}{e:TypeId}{size:Nat}{xs:List Value}(h:w.ownsRow base e size v k xs):v=.slice none 0 0∨∃g c,v=.slice (some ⟨g,0,none⟩) k c:=by
 obtain⟨_,⟨h1,_⟩|⟨g,cap,cur,h2,_⟩⟩:=h
 ·exact .inl h1
 ·exact .inr ⟨g,cap,h2⟩
theorem zb7{w:World}{base b0 k:Nat}{v:Value}{e:TypeId}{size:Nat}{xs:List Value}(h:w.ownsRow base e size v k xs)(hb:b0<=base):w.ownsRow b0 e size v k xs:=by
 obtain⟨h0,h1|⟨g,cap,cur,h2,h3,h4⟩⟩:=h
 ·exact⟨h0,.inl h1⟩
 ·exact⟨h0,.inr ⟨g,cap,cur,h2,Nat.le_trans hb h3,h4⟩⟩
theorem ze5{w:World}{base k b i:Nat}{v u:Value}{e:TypeId}{size:Nat}{xs:List Value}(h:w.ownsRow base e size v k xs)(hb:b<base):(w.setCell ⟨b,i,none⟩ u).ownsRow base e size v k xs:=ownsRow_setCell_below h hb u
theorem zy0{w:World}{base n:Nat}{e:TypeId}{sl:Value}{xs:List Int}(h:w.ownsRow base e 1 sl n (xs.map (Value.int .i64))):∃a c,sl=.slice a xs.length c/\xs.length=n/\za0 w a xs:=by
 obtain⟨h1,⟨rfl,h2⟩|⟨g,cap,cur,rfl,h3,h4,h5⟩⟩:=id h
 ·subst h2
  have:xs=[]:=by simpa using h1
  subst this;exact⟨none,0,rfl,rfl,fun j hj=>by simp at hj⟩
 ·have hl:xs.length=n:=by simpa using h1
  exact⟨_,_,by rw[hl],hl,zd2 h⟩
theorem zl7(W:World)(v:Value)(T:TypeId)(g:Nat)(hg:W.heap.size=g):(W.alloc (.cells #[v] T)).cell? ⟨g,0,none⟩=some v:=by
 subst hg;rw[cell_of_row _ _ 0 _ _ _ (heap_alloc_new W (.cells #[v] T))];simp
theorem zC5{w:World}{ad:Addr}{x0:Value}(hc:w.cell? ad=some x0):∀j u,[x0][j]? =some u->w.cell? (ad.add j)=some u:=by
 intro j u hu;have hj:j=0:=by
  rcases j with _|j
  ·rfl
  ·simp at hu
 subst hj;have:ad.add 0=ad:=by unfold Addr.add;split<;>simp_all
 rw[this,hc];simpa using hu
theorem zU0(w:World){ops:Array Oper}{rest:List Oper}{o:Oper}{a:Act}{Q:Exit->Act->World->Prop}
 (hg:o.guard=none) (s x:Operand) (hop:o.op=Op.call {callee:=Callee.builtin Builtin.append,args:=#[s,x],argTypes:=#[24,24]})
 (base:Nat) (v:Value) (k:Nat) (xs:List Value) (hs:a.eval s=v) (hown:w.ownsRow base 2 1 v k xs) (ad:Addr) (c:Nat) (x0:Value) (hx:a.eval x=.slice (some ad) 1 c)
 (hc:w.cell? ad=some x0) (h1c:x0.oneCell'=true) (b1:k<=1000) (hb:base<=w.heap.size)
 (hK:∀v' w',w'.ownsRow base 2 1 v' (k+1) (xs++[x0])->w.grownBy w' v.ownBlock->wpList Tryz.prog ops Q rest (a.put o.dst v') w'):
 wpList Tryz.prog ops Q (o::rest) a w:=by
 obtain⟨i0,hi,hz0,hz1,hz2⟩:=info_parts Tryz.info2;exact wpList_append_own w hg s x _ hop base _ i0 _ 1 8 Tryz.underlying24 hi hz0 hz1 hz2 rfl (by decide) v k xs hs hown ad 1 c [x0] hx rfl (zC5 hc) (by simpa using h1c) (by unfold maxLen;omega) (by omega) hb (fun v' w' h1 h2 _=>hK v' w' h1 h2)
theorem z80{ops:Array Oper}{o:Oper}{a:Act}{w:World}{K:Act->World->Prop}{Q:Exit->Act->World->Prop}{E:Prop}
 (hg:o.guard=none) (s x:Operand) (hop:o.op=Op.call {callee:=Callee.builtin Builtin.append,args:=#[s,x],argTypes:=#[24,24]})
 (base:Nat) (v:Value) (k:Nat) (xs:List Value) (hs:a.eval s=v) (hown:w.ownsRow base 2 1 v k xs) (ad:Addr) (c:Nat) (x0:Value) (hx:a.eval x=.slice (some ad) 1 c)
 (hc:w.cell? ad=some x0) (h1c:x0.oneCell'=true) (b1:k<=1000) (hb:base<=w.heap.size)
 (hK:∀v' w',w'.ownsRow base 2 1 v' (k+1) (xs++[x0])->w.grownBy w' v.ownBlock->K (a.put o.dst v') w'):
 if Region.wanted o (yielded ops a.tmps)=true then Oper.wp Tryz.prog o a w K Q else E:=by
 have hw:Region.wanted o (yielded ops a.tmps)=true:=by simp[Region.wanted,hg]
 rw[if_pos hw];obtain⟨i0,hi,hz0,hz1,hz2⟩:=info_parts Tryz.info2;obtain⟨v',w',hrun,r1,r2,_⟩:=run_append_own (P:=Tryz.prog) w base 24 o.type _ i0 _ 1 8 Tryz.underlying24 hi hz0 hz1 hz2 rfl (by decide) v k xs hown ad 1 c [x0] rfl (zC5 hc) (by simpa using h1c) (by unfold maxLen;omega) (by omega) hb;unfold Oper.wp;simp[execOp,hop,resolve,invoke,builtin,hs,hx,hrun,Result.andThen];exact hK _ _ r1 r2
theorem z02{P:Program}(w:World)(base:Nat)(t ty e:TypeId)(i:TypeInfo)(z:Value)(size bytes:Nat)(ht:P.underlying t=some (.slice e))(hi:P.info? e=some i)(hz:i.zero=some z)
 (hsize:i.size=size) (hby:i.bytes=bytes) (v:Value) (n:Nat) (xs:List Value) (hown:w.ownsRow base e size v n xs)
 (a:Addr) (m c:Nat) (news:List Value) (hl:news.length=m*size) (hnews:∀j u,news[j]? =some u->w.cell? (a.add j)=some u) (h1:∀u∈news,u.oneCell'=true)
 (h63:n+m<=maxLen) (hbytes:(n+m)*bytes<=140737488355328) {v':Value} {w':World} (hrun:(Builtin.append_ #[t,t] ty #[v,.slice (some a) m c]).run P w=.ok v' w'):v'.ownBlock=v.ownBlock∨v'.ownBlock=some w.heap.size:=by
 subst hsize;subst hby;have hsmall:n+m<=9223372036854775807:=by simp only[maxLen]at h63;omega
 rcases hown.2 with⟨rfl,rfl⟩|⟨g,cap,cur,rfl,hbg,hg,hnc,hcm,hcs,htake⟩
 ·by_cases hm:m=0
  ·subst hm
   have hn:news=[]:=List.eq_nil_of_length_eq_zero (by simpa using hl);subst hn;simp[Builtin.append_,run_underlying ht,sizeOf,typeInfo,hi,Builtin.lenOf,Builtin.firstCells,loadCells,loadCellsFrom]at hrun;rw[<-hrun.1];exact .inl rfl
  ·have hr:=run_append_nil (P:=P) w t ty e i z ht hi hz a m c news hl hnews (by omega) (by omega) (by have hb:=hbytes;simp only[Nat.zero_add]at hb;omega)
   rw[hr]at hrun
   injection hrun with e1 e2
   rw[<-e1];exact .inr rfl
 ·by_cases hroom:n+m<=cap
  ·have hfit:n*i.size+news.length<=cur.size:=by rw[hl,hcs,<-Nat.add_mul];exact Nat.mul_le_mul_right _ hroom
   have hr:=run_append_room (P:=P) w t ty e i ht hi g n cap cur hg a m c news hl hnews h1 hroom hfit;rw[hr]at hrun
   injection hrun with e1 e2
   rw[<-e1];exact .inl rfl
  ·have holds:=hown.cells (g:=g) rfl
   have hr:=run_append_grow (P:=P) w t ty e i z ht hi hz ⟨g,0,none⟩ n cap xs hown.1 holds a m c news hl hnews (by omega) (by omega) (growslice_fits (by omega) hbytes);rw[hr]at hrun
   injection hrun with e1 e2
   rw[<-e1];exact .inr rfl
theorem zr7{P:Program}{o:Oper}{a:Act}{w w':World}{v:Value}(s x:Operand)(t:TypeId)(vs vx:Value)(ho:o.op=.call {callee:=.builtin .append,args:=#[s,x],argTypes:=#[t,t]})
 (hs:a.eval s=vs) (hx:a.eval x=vx) (hr:(Builtin.append_ #[t,t] o.type #[vs,vx]).run P w=.ok v w'):(execOp a.eval o).run P w=.ok (.value v) w':=by
 unfold execOp;simp only[ho,resolve,invoke,builtin,Sem.run_bind,Sem.run_pure,Result.andThen_ok,List.map_toArray,List.map_cons,List.map_nil,hs,hx,hr]
theorem zf4(w:World){ops:Array Oper}{rest:List Oper}{o:Oper}{a:Act}{Q:Exit->Act->World->Prop}
 (hg:o.guard=none) (s x:Operand) (hop:o.op=Op.call {callee:=Callee.builtin Builtin.append,args:=#[s,x],argTypes:=#[24,24]})
 (base:Nat) (v:Value) (k:Nat) (xs:List Int) (hs:a.eval s=v) (hown:w.ownsRow base 2 1 v k (xs.map (Value.int .i64))) (b off m c:Nat) (ys:List Int) (hx:a.eval x=.slice (some ⟨b,off,none⟩) m c)
 (hy:ys.length=m) (hc:za0 w (some ⟨b,off,none⟩) ys) (b1:k<=1000) (b2:m<=1000) (hb:base<=w.heap.size)
 (hK:∀v' w',w'.ownsRow base 2 1 v' (k+m) ((xs++ys).map (Value.int .i64))->w.grownBy w' v.ownBlock->(v'.ownBlock=v.ownBlock∨v'.ownBlock=some w.heap.size)->(v'=.slice none 0 0↔v=.slice none 0 0/\m=0)->wpList Tryz.prog ops Q rest (a.put o.dst v') w'):
 wpList Tryz.prog ops Q (o::rest) a w:=by
 obtain⟨i0,hi,hz0,hz1,hz2⟩:=info_parts Tryz.info2;have hnews:∀j u,(ys.map (Value.int .i64))[j]? =some u->w.cell? ((⟨b,off,none⟩:Addr).add j)=some u:=by
  intro j u hu;have hj:j<ys.length:=by
   rcases Nat.lt_or_ge j ys.length with h'|h'
   ·exact h'
   ·simp[List.getElem?_eq_none (by simpa using h':(ys.map (Value.int .i64)).length<=j)]at hu
  obtain⟨b',off',e,hcc⟩:=hc j hj;simp at e;obtain⟨rfl,rfl⟩:=e;have hadd:(⟨b,off,none⟩:Addr).add j=⟨b,off+j,none⟩:=by unfold Addr.add;split<;>simp_all
  rw[hadd,hcc,<-hu];simp[List.getD,hj]
 have h1c:∀u∈ys.map (Value.int .i64),u.oneCell'=true:=by simp[Value.oneCell']
 obtain⟨v',w',hrun,r1,r2,r3⟩:=run_append_own (P:=Tryz.prog) w base 24 o.type _ i0 _ 1 8 Tryz.underlying24 hi hz0 hz1 hz2 rfl (by decide) v k (xs.map (Value.int .i64)) hown ⟨b,off,none⟩ m c (ys.map (Value.int .i64)) (by simp[hy]) hnews h1c (by unfold maxLen;omega) (by omega) hb;have r4:=z02 (P:=Tryz.prog) w base 24 o.type _ i0 _ 1 8 Tryz.underlying24 hi hz0 hz1 hz2 v k (xs.map (Value.int .i64)) hown ⟨b,off,none⟩ m c (ys.map (Value.int .i64)) (by simp[hy]) hnews h1c (by unfold maxLen;omega) (by omega) hrun;exact zs3 v' hg (zr7 s x _ v _ hop hs hx hrun) (hK v' w' (by rw[List.map_append];exact r1) r2 r4 r3)
theorem zQ0{w:World}{base k:Nat}{v:Value}{e:TypeId}{size:Nat}{xs:List Value}(h:w.ownsRow base e size v k xs)(hne:v≠.slice none 0 0):∃g c,v=.slice (some ⟨g,0,none⟩) k c:=by
 rcases zk3 h with e|e
 ·exact absurd e hne
 ·exact e
theorem yp1{w:World}{base k g c:Nat}{e:TypeId}{size:Nat}{xs:List Value}(h:w.ownsRow base e size (.slice (some ⟨g,0,none⟩) k c) k xs):k<=c:=by
 obtain⟨_,⟨h1,_⟩|⟨g',cap,cur,h2,_,_,h3,_⟩⟩:=h
 ·cases h1
 ·injection h2 with e1 e2 e3
  omega
theorem zC3{v v':Value}{m:Nat}(h:v'=.slice none 0 0↔v=.slice none 0 0/\m=0)(hv:∃g n c,v=.slice (some ⟨g,0,none⟩) n c):v'≠.slice none 0 0:=by
 intro e;obtain⟨g,n,c,rfl⟩:=hv;have:=(h.1 e).1;simp at this
theorem zk2(W:World)(x:Int):za0 (W.alloc (.cells #[.int .i64 x] 2)) (some ⟨W.heap.size,0,none⟩) [x]:=by
 intro j hj;have:j=0:=by simpa using hj
 subst this;exact⟨_,_,rfl,zl7 W _ _ _ rfl⟩
theorem zS4{g n c k:Nat}(e:(Value.slice (some ⟨g,0,none⟩) n c).ownBlock=some k):g<=k:=by
 have:g=k:=by injection e
 omega
theorem zm1{E:TypeId}{z:Value}{size bytes:Nat}(h:(Tryz.prog.info? E).map (fun i=>(i.zero,i.size,i.bytes))=some (some z,size,bytes)):∃i0,Tryz.prog.info? E=some i0/\i0.zero=some z/\i0.size=size/\i0.bytes=bytes:=by
 cases hq:Tryz.prog.info? E with
 |none=>rw[hq]at h;simp at h
 |some i0=>
  rw[hq]at h;simp only[Option.map_some,Option.some.injEq,Prod.mk.injEq]at h;exact⟨i0,rfl,h.1,h.2.1,h.2.2⟩
theorem zH1(b off j:Nat):(⟨b,off,none⟩:Addr).add j=⟨b,off+j,none⟩:=by unfold Addr.add;split<;>simp_all
theorem zi1{T E:TypeId}{z:Value}{size bytes:Nat}(ht:Tryz.prog.underlying T=some (.slice E))(hinf:(Tryz.prog.info? E).map (fun i=>(i.zero,i.size,i.bytes))=some (some z,size,bytes))(hzs:z.cells.size=size)(hsz:0<size)
 (w:World) {ops:Array Oper} {rest:List Oper} {o:Oper} {a:Act} {Q:Exit->Act->World->Prop}
 (hg:o.guard=none) (s x:Operand) (hop:o.op=Op.call {callee:=Callee.builtin Builtin.append,args:=#[s,x],argTypes:=#[T,T]})
 (base:Nat) (v:Value) (k:Nat) (xs:List Value) (hs:a.eval s=v) (hown:w.ownsRow base E size v k xs) (b off m c:Nat) (ys:List Value) (hx:a.eval x=.slice (some ⟨b,off,none⟩) m c)
 (hy:ys.length=m*size) (hc:∀j u,ys[j]? =some u->w.cell? ⟨b,off+j,none⟩=some u) (h1:∀u∈ys,u.oneCell'=true) (h63:k+m<=70368744177663) (hbytes:(k+m)*bytes<=140737488355328) (hb:base<=w.heap.size)
 (hK:∀v' w',w'.ownsRow base E size v' (k+m) (xs++ys)->w.grownBy w' v.ownBlock->(v'.ownBlock=v.ownBlock∨v'.ownBlock=some w.heap.size)->(v'=.slice none 0 0↔v=.slice none 0 0/\m=0)->wpList Tryz.prog ops Q rest (a.put o.dst v') w'):
 wpList Tryz.prog ops Q (o::rest) a w:=by
 obtain⟨i0,hi,hz0,hz1,hz2⟩:=zm1 hinf;have hnews:∀j u,ys[j]? =some u->w.cell? ((⟨b,off,none⟩:Addr).add j)=some u:=fun j u hu=>by rw[zH1];exact hc j u hu
 obtain⟨v',w',hrun,r1,r2,r3⟩:=run_append_own (P:=Tryz.prog) w base T o.type _ i0 _ size bytes ht hi hz0 hz1 hz2 hzs hsz v k xs hown ⟨b,off,none⟩ m c ys hy hnews h1 (by unfold maxLen;omega) hbytes hb;have r4:=zB2 (P:=Tryz.prog) w base T o.type _ i0 _ size bytes ht hi hz0 hz1 hz2 v k xs hown ⟨b,off,none⟩ m c ys hy hnews h1 (by unfold maxLen;omega) hbytes hrun;exact zs3 v' hg (yi0 s x _ v _ hop hs hx hrun) (hK v' w' r1 r2 r4 r3)
theorem zc9{T E:TypeId}{z:Value}{size bytes:Nat}(ht:Tryz.prog.underlying T=some (.slice E))(hinf:(Tryz.prog.info? E).map (fun i=>(i.zero,i.size,i.bytes))=some (some z,size,bytes))(hzs:z.cells.size=size)(hsz:0<size)
 {ops:Array Oper} {o:Oper} {a:Act} {w:World} {K:Act->World->Prop} {Q:Exit->Act->World->Prop} {Els:Prop}
 (hg:o.guard=none) (s x:Operand) (hop:o.op=Op.call {callee:=Callee.builtin Builtin.append,args:=#[s,x],argTypes:=#[T,T]})
 (base:Nat) (v:Value) (k:Nat) (xs:List Value) (hs:a.eval s=v) (hown:w.ownsRow base E size v k xs) (b off m c:Nat) (ys:List Value) (hx:a.eval x=.slice (some ⟨b,off,none⟩) m c)
 (hy:ys.length=m*size) (hc:∀j u,ys[j]? =some u->w.cell? ⟨b,off+j,none⟩=some u) (h1:∀u∈ys,u.oneCell'=true) (h63:k+m<=70368744177663) (hbytes:(k+m)*bytes<=140737488355328) (hb:base<=w.heap.size)
 (hK:∀v' w',w'.ownsRow base E size v' (k+m) (xs++ys)->w.grownBy w' v.ownBlock->(v'.ownBlock=v.ownBlock∨v'.ownBlock=some w.heap.size)->(v'=.slice none 0 0↔v=.slice none 0 0/\m=0)->K (a.put o.dst v') w'):
 if Region.wanted o (yielded ops a.tmps)=true then Oper.wp Tryz.prog o a w K Q else Els:=by
 have hw:Region.wanted o (yielded ops a.tmps)=true:=by simp[Region.wanted,hg]
 rw[if_pos hw];obtain⟨i0,hi,hz0,hz1,hz2⟩:=zm1 hinf;have hnews:∀j u,ys[j]? =some u->w.cell? ((⟨b,off,none⟩:Addr).add j)=some u:=fun j u hu=>by rw[zH1];exact hc j u hu
 obtain⟨v',w',hrun,r1,r2,r3⟩:=run_append_own (P:=Tryz.prog) w base T o.type _ i0 _ size bytes ht hi hz0 hz1 hz2 hzs hsz v k xs hown ⟨b,off,none⟩ m c ys hy hnews h1 (by unfold maxLen;omega) hbytes hb;have r4:=zB2 (P:=Tryz.prog) w base T o.type _ i0 _ size bytes ht hi hz0 hz1 hz2 v k xs hown ⟨b,off,none⟩ m c ys hy hnews h1 (by unfold maxLen;omega) hbytes hrun;unfold Oper.wp;simp[execOp,hop,resolve,invoke,builtin,hs,hx,hrun,Result.andThen];exact hK _ _ r1 r2 r4 r3
theorem zQ8:(Tryz.prog.info? 95).map (fun i=>(i.zero,i.size,i.bytes))=some (some (.agg #[Value.int .i64 0,Value.int .i64 0,Value.int .i64 0,Value.int .i64 0,Value.int .i64 0,Value.int .i64 0]),6,48):=by kernel_rfl
theorem zN0(w:World){ops:Array Oper}{rest:List Oper}{o:Oper}{a:Act}{Q:Exit->Act->World->Prop}
 (hg:o.guard=none) (l c:Operand) (hop:o.op=Op.makeSlice 27 l c) (base:Nat)
 (kl kc:IntKind) (C:Int) (n:Nat) (hl:a.eval l=.int kl 0) (hc:a.eval c=.int kc C) (hC:C=(n:Int)) (b2:n<=1048576) (b4:base<=w.heap.size)
 (hK:∀w',w'.ownsRow base 95 6 (.slice (some ⟨w.heap.size,0,none⟩) 0 n) 0 []->w.grownBy w' none->wpList Tryz.prog ops Q rest (a.put o.dst (.slice (some ⟨w.heap.size,0,none⟩) 0 n)) w'):
 wpList Tryz.prog ops Q (o::rest) a w:=by
 obtain⟨i0,hi,hz0,hz1,hz2⟩:=info_parts zQ8;exact wpList_make_own w hg l c _ hop base _ i0 _ 6 Tryz.underlying27 hi hz0 hz1 kl kc C n hl hc hC (by rw[hz2];omega) (by unfold maxLen;omega) b4 hK
theorem zE7(w:World){ops:Array Oper}{rest:List Oper}{o:Oper}{a:Act}{Q:Exit->Act->World->Prop}
 (hg:o.guard=none) (s x:Operand) (hop:o.op=Op.call {callee:=Callee.builtin Builtin.append,args:=#[s,x],argTypes:=#[27,27]})
 (base:Nat) (g k cap:Nat) (xs:List Value) (hs:a.eval s=.slice (some ⟨g,0,none⟩) k cap) (hown:w.ownsRow base 95 6 (.slice (some ⟨g,0,none⟩) k cap) k xs) (ad:Addr) (m c:Nat) (news:List Value) (hx:a.eval x=.slice (some ad) m c) (hn:news.length=m*6)
 (hc:∀j u,news[j]? =some u->w.cell? (ad.add j)=some u) (h1c:∀u∈news,u.oneCell'=true) (b1:k+m<=cap)
 (hK:∀w',w'.ownsRow base 95 6 (.slice (some ⟨g,0,none⟩) (k+m) cap) (k+m) (xs++news)->w.grownBy w' (some g)->wpList Tryz.prog ops Q rest (a.put o.dst (.slice (some ⟨g,0,none⟩) (k+m) cap)) w'):
 wpList Tryz.prog ops Q (o::rest) a w:=by
 obtain⟨i0,hi,hz0,hz1,hz2⟩:=info_parts zQ8;exact wpList_append_fits w hg s x _ hop base _ i0 6 Tryz.underlying27 hi hz1 g k cap xs hs hown ad m c news hx hn hc h1c b1 hK
theorem yi6(os:List Int)(ko:Nat)(ids:List Int){k:Nat}{id:Int}(hk:k<ids.length)(hid:ids.getD k 0=id){o0 o1 o2 o3 o4 o5:Int}(h0:zc3 os ko id 0=o0)(h1:zc3 os ko id 1=o1)(h2:zc3 os ko id 2=o2)(h3:zc3 os ko id 3=o3)(h4:zc3 os ko id 4=o4)(h5:zc3 os ko id 5=o5):
 (((zc4 os ko ids).take (k*6)).map (Value.int .i64))++[Value.int .i64 o0,Value.int .i64 o1,Value.int .i64 o2,Value.int .i64 o3,Value.int .i64 o4,Value.int .i64 o5]=((zc4 os ko ids).take ((k+1)*6)).map (Value.int .i64):=by
 have hl:=zg6 os ko ids;have e:(k+1)*6=k*6+1+1+1+1+1+1:=by omega
 have g:∀f,f<6->(zc4 os ko ids).getD (k*6+f) 0=zc3 os ko id f:=fun f hf=>hid▸zh1 os ko ids hk hf;rw[e,ze2 _ _ (by omega),ze2 _ _ (by omega),ze2 _ _ (by omega),ze2 _ _ (by omega),ze2 _ _ (by omega),ze2 _ _ (by omega)];have g0:=g 0 (by omega);have g1:=g 1 (by omega);have g2:=g 2 (by omega);have g3:=g 3 (by omega);have g4:=g 4 (by omega);have g5:=g 5 (by omega);simp only[Nat.add_zero]at g0;simp only[g0,g1,g2,g3,g4,g5,h0,h1,h2,h3,h4,h5];simp
theorem zW6(W:World)(o0 o1 o2 o3 o4 o5:Value)(T:TypeId)(g:Nat)(hg:W.heap.size=g):∀j u,[o0,o1,o2,o3,o4,o5][j]? =some u->(W.alloc (.cells #[o0,o1,o2,o3,o4,o5] T)).cell? ((⟨g,0,none⟩:Addr).add j)=some u:=by
 intro j u hu;subst hg;have hadd:(⟨W.heap.size,0,none⟩:Addr).add j=⟨W.heap.size,j,none⟩:=by unfold Addr.add;split<;>simp_all
 rw[hadd,cell_of_row _ _ j _ _ _ (heap_alloc_new W (.cells #[o0,o1,o2,o3,o4,o5] T))];simpa using hu
def yu8(n:Int)(zs ros:List Int)(home frm:Int)(k f:Nat):Int:=
 if f=0 then og6 ros k 0 else if f=1 then zS6 n zs ros home frm k else if f=2 then zg0 n zs ros home frm k else zt8 n zs ros home frm (k+1)
def yh1(n:Int)(zs ros:List Int)(home frm:Int)(m:Nat):List Int:=(List.range (m*4)).map fun j=>yu8 n zs ros home frm (j / 4) (j % 4)
theorem z34(n:Int)(zs ros:List Int)(home frm:Int)(m:Nat):(yh1 n zs ros home frm m).length=m*4:=by simp[yh1]
theorem zF5(n:Int)(zs ros:List Int)(home frm:Int){m k f:Nat}(hk:k<m)(hf:f<4):(yh1 n zs ros home frm m).getD (k*4+f) 0=yu8 n zs ros home frm k f:=by
 unfold yh1;have hj:k*4+f<m*4:=by omega
 have e1:(k*4+f) / 4=k:=by omega
 have e2:(k*4+f) % 4=f:=by omega
 rw[List.getD,List.getElem?_map,List.getElem?_range hj];simp only[Option.map_some,Option.getD_some,e1,e2]
theorem ye6(n:Int)(zs ros:List Int)(home frm:Int){m k:Nat}(hk:k<m){x0 x1 x2 x3:Int}(h0:og6 ros k 0=x0)(h1:zS6 n zs ros home frm k=x1)(h2:zg0 n zs ros home frm k=x2)(h3:zt8 n zs ros home frm (k+1)=x3):
 (((yh1 n zs ros home frm m).take (k*4)).map (Value.int .i64))++[Value.int .i64 x0,Value.int .i64 x1,Value.int .i64 x2,Value.int .i64 x3]=((yh1 n zs ros home frm m).take ((k+1)*4)).map (Value.int .i64):=by
 have hl:=z34 n zs ros home frm m;have e:(k+1)*4=k*4+1+1+1+1:=by omega
 have g0:=zF5 n zs ros home frm hk (f:=0) (by omega);have g1:=zF5 n zs ros home frm hk (f:=1) (by omega);have g2:=zF5 n zs ros home frm hk (f:=2) (by omega);have g3:=zF5 n zs ros home frm hk (f:=3) (by omega);simp only[Nat.add_zero,yu8]at g0 g1 g2 g3;rw[e,ze2 _ _ (by omega),ze2 _ _ (by omega),ze2 _ _ (by omega),ze2 _ _ (by omega)];simp only[g0,g1,g2,g3];simp[h0,h1,h2,h3]
theorem yl3:(Tryz.prog.info? 165).map (fun i=>(i.zero,i.size,i.bytes))=some (some (.agg #[Value.int .i64 0,Value.int .i64 0,Value.int .i64 0,Value.int .i64 0]),4,32):=by kernel_rfl
theorem zE6(w:World){ops:Array Oper}{rest:List Oper}{o:Oper}{a:Act}{Q:Exit->Act->World->Prop}
 (hg:o.guard=none) (s x:Operand) (hop:o.op=Op.call {callee:=Callee.builtin Builtin.append,args:=#[s,x],argTypes:=#[135,135]})
 (base:Nat) (v:Value) (k:Nat) (xs:List Value) (hs:a.eval s=v) (hown:w.ownsRow base 165 4 v k xs) (ad:Addr) (c:Nat) (news:List Value) (hx:a.eval x=.slice (some ad) 1 c) (hn:news.length=4)
 (hc:∀j u,news[j]? =some u->w.cell? (ad.add j)=some u) (h1c:∀u∈news,u.oneCell'=true) (b1:k<=1000) (hb:base<=w.heap.size)
 (hK:∀v' w',w'.ownsRow base 165 4 v' (k+1) (xs++news)->w.grownBy w' v.ownBlock->wpList Tryz.prog ops Q rest (a.put o.dst v') w'):
 wpList Tryz.prog ops Q (o::rest) a w:=by
 obtain⟨i0,hi,hz0,hz1,hz2⟩:=info_parts yl3;exact wpList_append_own w hg s x _ hop base _ i0 _ 4 32 Tryz.underlying135 hi hz0 hz1 hz2 rfl (by decide) v k xs hs hown ad 1 c news hx (by rw[hn]) hc h1c (by unfold maxLen;omega) (by omega) hb (fun v' w' h1 h2 _=>hK v' w' h1 h2)
theorem zV8(W:World)(o0 o1 o2 o3:Value)(T:TypeId)(g:Nat)(hg:W.heap.size=g):∀j u,[o0,o1,o2,o3][j]? =some u->(W.alloc (.cells #[o0,o1,o2,o3] T)).cell? ((⟨g,0,none⟩:Addr).add j)=some u:=by
 intro j u hu;subst hg;have hadd:(⟨W.heap.size,0,none⟩:Addr).add j=⟨W.heap.size,j,none⟩:=by unfold Addr.add;split<;>simp_all
 rw[hadd,cell_of_row _ _ j _ _ _ (heap_alloc_new W (.cells #[o0,o1,o2,o3] T))];simpa using hu
theorem yk8{w:World}{base k:Nat}{v:Value}{e:TypeId}{size:Nat}{xs:List Value}(h:w.ownsRow base e size v (k+1) xs):∃g c,v=.slice (some ⟨g,0,none⟩) (k+1) c/\base<=g:=by
 obtain⟨_,⟨_,h2⟩|⟨g,cap,cur,h2,h3,_⟩⟩:=h
 ·omega
 ·exact⟨g,cap,h2,h3⟩
theorem CR.grown{w W W':World}{cs rs:Array Value}{g:Nat}(h:CR w W cs rs)(hg:W.grownBy W' (some g))(hlt:w.heap.size+1<g):CR w W' cs rs:=
 ⟨h.1.grown hg h.1.size (fun k e=>by cases e;omega),(hg.block _ (za3 h.2.1) (fun e=>by cases e;omega)).trans h.2.1,(hg.block _ (za3 h.2.2) (fun e=>by cases e;omega)).trans h.2.2⟩
theorem zt0(n x y:Int)(a:Option Addr)(cap:Nat)(zs:List Int)(w:World)(d:Int)(hd:tmI n zs x y=d)(hm:zm2 n zs=true)(hx:0<=x/\x<n)(hy:0<=y/\y<n)(hA:za0 w a zs):
 Calls Tryz.prog 120 #[.agg #[.int .i64 n,.slice a zs.length cap],.int .i64 x,.int .i64 y] w fun e w'=>e=.returned (.int .i64 d)/\Below w.heap.size w w':=hd▸yh7 n x y a cap zs w hm hx hy hA
set_option maxHeartbeats 2000000 in
theorem z15(n fine veh:Int)(a ao av bi:Option Addr)(cap ko co kv cv c2:Nat)(zs os vs ids:List Int)(w:World)(hA:za0 w a zs)(hO:za0 w ao os)(hV:za0 w av vs)(hI:za0 w bi ids)(hlo:os.length=ko*6)(hlv:vs.length=kv*5)(hko:ko<=9223372036854775807)(hkv:kv<=9223372036854775807)(hli:ids.length<=9223372036854775807)(hc2:ids.length<=c2):
 Calls Tryz.prog 101 #[.agg #[.int .i64 n,.slice a zs.length cap,.slice ao ko co,.slice av kv cv,.int .i64 fine],.agg #[.int .i64 veh,.slice bi ids.length c2]] w fun e w'=>Below w.heap.size w w'/\((codeV (zb8 n zs os vs ko kv fine) n zs os vs ko kv veh ids≠0/\e=.returned (.tuple #[.slice none 0 0,.int .i64 0,.int .i64 (codeV (zb8 n zs os vs ko kv fine) n zs os vs ko kv veh ids)]))∨(codeV (zb8 n zs os vs ko kv fine) n zs os vs ko kv veh ids=0/\∃g c,w.heap.size<=g/\e=.returned (.tuple #[.slice (some ⟨g,0,none⟩) ids.length c,.int .i64 (homeV n zs (zc4 os ko ids) ids.length (zb5 vs kv veh 1) (zb5 vs kv veh 3)),.int .i64 0])/\za0 w' (some ⟨g,0,none⟩) (yh1 n zs (zc4 os ko ids) (zb5 vs kv veh 1) (zb5 vs kv veh 3) ids.length))):=by
 have HA:Hid (za0 w a zs):=hA;have HO:Hid (za0 w ao os):=hO;have HV:Hid (za0 w av vs):=hV;have HI:Hid (za0 w bi ids):=hI;have HLO:Hid _:=hlo;have HLV:Hid _:=hlv;clear hA hO hV hI hlo hlv;have HC0:Hid (CR w ((w.alloc (.cells #[Value.int .i64 n,Value.slice a zs.length cap,Value.slice ao ko co,Value.slice av kv cv,Value.int .i64 fine] 30)).alloc (.cells #[Value.int .i64 veh,Value.slice bi ids.length c2] 43)) _ _):=CR.new w _ _;obtain⟨r,HR⟩:=nmd (codeV (zb8 n zs os vs ko kv fine) n zs os vs ko kv veh ids);rw[HR.out];go_enter Tryz.func101,Tryz.ntmps101;obtain⟨c0,c1,c2',c3,c4⟩:=za8 HC0.2.1;obtain⟨d0,d1⟩:=za2 HC0.2.2
 go_wp2_with fail
 clear c0 c1 c2' c3 c4 d0 d1;refine(zW2 n fine veh a ao av bi cap ko co kv cv c2 zs os vs ids _ (HA.below HC0.1) (HO.below HC0.1) (HV.below HC0.1) (HI.below HC0.1) HLO.out HLV.out hko hkv hli hc2).mono ?_;rintro e w1 ⟨rfl,hb⟩;have C1:Hid (CR w w1 _ _):=HC0.below hb;clear hb HC0;obtain⟨fv,HFV⟩:=nmd (zi9 (zb8 n zs os vs ko kv fine) vs os kv ko veh ids);rw[HFV.out];by_cases hfv:fv=0
 ·subst hfv
  have HRV:=(zw1 (n:=n) (zs:=zs) HFV.out).symm.trans HR.out;obtain⟨hcb,_,hstB⟩:=zg2 HFV.out;obtain⟨hmat,hords,hvehs,hn1,_⟩:=zc7 hcb;have hvb:=zp2 hvehs hn1 veh;have HMAT:Hid _:=hmat;have HOB:Hid _:=hords;have HN1:Hid _:=hn1;have h12:=(zf5 hstB).1;clear hmat hords hvehs hn1 hcb hstB;obtain⟨c0,c1,c2',c3,c4⟩:=za8 C1.2.1;obtain⟨d0,d1⟩:=za2 C1.2.2
  go_wp2_with fail
  clear c0 c1 c2' c3 c4 d0 d1;refine(z35 n fine veh a ao av _ cap ko co kv cv vs _ (HV.below C1.1) HLV.out hkv).mono ?_;rintro e w2 ⟨rfl,hb⟩;obtain⟨v0,G0⟩:=nmd (zb5 vs kv veh 0);obtain⟨v1,G1⟩:=nmd (zb5 vs kv veh 1);obtain⟨v2,G2⟩:=nmd (zb5 vs kv veh 2);obtain⟨v3,G3⟩:=nmd (zb5 vs kv veh 3);obtain⟨v4,G4⟩:=nmd (zb5 vs kv veh 4);rw[G1.out,G2.out,G3.out,G4.out]at hvb;rw[G1.out,G3.out,G4.out]at HRV;rw[G0.out,G1.out,G2.out,G3.out,G4.out];generalize fnd5T vs kv veh=tv;have HV1:Hid _:=HRV;have HX1:Hid _:=hvb.1;have HX3:Hid _:=hvb.2.2.1;clear hvb HRV;have C3:Hid (CR w ((w2.alloc (Obj.cells #[Value.int .i64 v0,Value.int .i64 v1,Value.int .i64 v2,Value.int .i64 v3,Value.int .i64 v4] 41)).alloc (Obj.cells #[] 165)) _ _):=CR.alloc (CR.alloc (C1.below hb) _) _;have RV3:Hid (((w2.alloc (Obj.cells #[Value.int .i64 v0,Value.int .i64 v1,Value.int .i64 v2,Value.int .i64 v3,Value.int .i64 v4] 41)).alloc (Obj.cells #[] 165)).heap[w2.heap.size]? =_):=heap_alloc2_old _ _ _;have RO3:Hid (((w2.alloc (Obj.cells #[Value.int .i64 v0,Value.int .i64 v1,Value.int .i64 v2,Value.int .i64 v3,Value.int .i64 v4] 41)).alloc (Obj.cells #[] 165)).heap[w2.heap.size+1]? =_):=heap_alloc2_new _ _ _;have HGV:Hid _:=za3 (C1.below hb).2.2;clear hb C1;obtain⟨q0,q1,q2,q3,q4⟩:=za8 RV3.out
  go_wp2_with fail
  clear q0 q1 q2 q3 q4;generalize(w2.alloc (Obj.cells #[Value.int .i64 v0,Value.int .i64 v1,Value.int .i64 v2,Value.int .i64 v3,Value.int .i64 v4] 41)).alloc (Obj.cells #[] 165)=W2 at*;generalize w2.heap.size=gv at*;have HW0:Hid (W2.ownsRow (gv+1) 165 4 (.slice (some ⟨gv+1,0,none⟩) 0 0) 0 []):=⟨by simp,.inr ⟨gv+1,0,#[],rfl,Nat.le_refl _,RO3.out,Nat.le_refl _,Nat.zero_le _,by simp,by simp⟩⟩;have HBD:Hid (zq7 n (zc4 os ko ids) ids.length):=zw9 HOB.out HN1.out ids;go_loopw[10,11,12,13] (fun sl nw pl t wr=>∃k gg cc:Nat,k<=ids.length/\t=.int .i64 k/\sl=.slice (some ⟨gg,0,none⟩) k cc/\gv+1<=gg/\wr.ownsRow (gv+1) 165 4 (.slice (some ⟨gg,0,none⟩) k cc) k (((yh1 n zs (zc4 os ko ids) v1 v3 ids.length).take (k*4)).map (Value.int .i64))/\pl=.int .i64 (plc (zc4 os ko ids) v1 k)/\nw=.int .i64 (zt8 n zs (zc4 os ko ids) v1 v3 k)/\zl2 n zs (zc4 os ko ids) v1 v3 k/\CR w wr #[Value.int .i64 n,Value.slice a zs.length cap,Value.slice ao ko co,Value.slice av kv cv,Value.int .i64 fine] #[Value.int .i64 veh,Value.slice bi ids.length c2]/\wr.heap[gv]? =some (.cells #[Value.int .i64 v0,Value.int .i64 v1,Value.int .i64 v2,Value.int .i64 v3,Value.int .i64 v4] 41 (0,0))) (fun _ _ _ t _=>ids.length - (intOf t).toNat)
  case atStart=>exact⟨0,gv+1,0,Nat.zero_le _,rfl,rfl,Nat.le_refl _,by simpa using HW0.out,rfl,rfl,fun j hj=>by omega,C3.out,RV3.out⟩
  case round=>
   clear C3 RV3 RO3 HW0;obtain⟨k,gg,cc,hk,rfl,rfl,hgg,hw,rfl,rfl,htm,hb,hrv⟩:=hrel;have hpl:=zJ7 HBD.out HX1.1 HX1.2 k hk;have hnw:=zF4 (home:=v1) HMAT.out HBD.out HX3.out k hk;have HTM:Hid (zl2 n zs (zc4 os ko ids) v1 v3 k):=htm;have HB:Hid (CR w wr _ _):=hb;have HRV:Hid (wr.heap[gv]? =_):=hrv;have HW:Hid (wr.ownsRow (gv+1) 165 4 _ k _):=hw;have HGG:Hid _:=hgg;obtain⟨c0,c1,c2',c3,c4⟩:=za8 hb.2.1;obtain⟨d0,d1⟩:=za2 hb.2.2;obtain⟨p,HPL⟩:=nmd (plc (zc4 os ko ids) v1 k);obtain⟨f,HFR⟩:=nmd (zt8 n zs (zc4 os ko ids) v1 v3 k);rw[HPL.out]at hpl;rw[HFR.out]at hnw;rw[HPL.out,HFR.out];have HPB:Hid _:=hpl;clear htm hb hrv hpl hw hgg;by_cases hlt:k<ids.length
   ·obtain⟨b,off,rfl,hcs⟩:=za0.some (za0.below HI.out HB.1) hlt
    have ct:=hcs k hlt;clear hcs;obtain⟨id,HID⟩:=nmd (ids.getD k 0);rw[HID.out]at ct;obtain⟨h1b,h2b,h3b,h4b,h5b⟩:=zG0 HOB.out HN1.out id;obtain⟨o0,H0⟩:=nmd (zc3 os ko id 0);obtain⟨o1,H1⟩:=nmd (zc3 os ko id 1);obtain⟨o2,H2⟩:=nmd (zc3 os ko id 2);obtain⟨o3,H3⟩:=nmd (zc3 os ko id 3);obtain⟨o4,H4⟩:=nmd (zc3 os ko id 4);obtain⟨o5,H5⟩:=nmd (zc3 os ko id 5);rw[H1.out]at h1b;rw[H3.out]at h3b;rw[H4.out]at h4b;rw[H5.out]at h5b;have HO1:Hid _:=h1b;clear h1b h2b;obtain⟨d,HD⟩:=nmd (tmI n zs p o1);have hdb:=zr5 HMAT.out p o1;rw[HD.out]at hdb;have K0:Hid (og6 (zc4 os ko ids) k 0=o0):=(zh1 os ko ids hlt (by omega)).trans (by rw[HID.out];exact H0.out);have K1:Hid (og6 (zc4 os ko ids) k 1=o1):=(zh1 os ko ids hlt (by omega)).trans (by rw[HID.out];exact H1.out);have K3:Hid (og6 (zc4 os ko ids) k 3=o3):=(zh1 os ko ids hlt (by omega)).trans (by rw[HID.out];exact H3.out);have K4:Hid (og6 (zc4 os ko ids) k 4=o4):=(zh1 os ko ids hlt (by omega)).trans (by rw[HID.out];exact H4.out);have K5:Hid (og6 (zc4 os ko ids) k 5=o5):=(zh1 os ko ids hlt (by omega)).trans (by rw[HID.out];exact H5.out);obtain⟨mx,HMX⟩:=nmd (max (f+d) o3);have HAR:Hid (zS6 n zs (zc4 os ko ids) v1 v3 k=f+d):=by
     show _=_;unfold zS6;rw[HFR.out,HPL.out,K1.out,HD.out]
    have HSTV:Hid (zg0 n zs (zc4 os ko ids) v1 v3 k=mx):=by
     show _=_;unfold zg0;rw[HAR.out,K3.out,HMX.out]
    have HNX:Hid (zt8 n zs (zc4 os ko ids) v1 v3 (k+1)=mx+o5):=by
     show _=_;rw[zK8,HSTV.out,K5.out]
    have hmb:0<=mx/\mx<=3000000:=by
     have:=HMX.out;omega
    obtain⟨tt,HTT⟩:=nmd (zi8 os ko id)
    go_wp2_with fail
    have HCT:Hid (wr.cell? ⟨b,off+k,none⟩=_):=ct;have HCA:Hid ((wr.alloc (Obj.cells #[Value.int .i64 0,Value.int .i64 0,Value.int .i64 0,Value.int .i64 0,Value.int .i64 0,Value.int .i64 0] 95)).cell? ⟨b,off+k,none⟩=_):=(((Below.refl wr.heap.size wr).alloc (Nat.le_refl _) _).cell (p:=⟨b,off+k,none⟩) (block_lt_of_cell ct)).trans ct;have HVA:Hid ((wr.alloc (Obj.cells #[Value.int .i64 0,Value.int .i64 0,Value.int .i64 0,Value.int .i64 0,Value.int .i64 0,Value.int .i64 0] 95)).heap[gv]? =_):=(heap_alloc_old _ _ (za3 HRV.out)).trans HRV.out;have hlb:=block_lt_of_cell ct;simp at hlb;have hlw:=za3 HB.2.1;have hlr:=za3 HB.2.2
    go_region_held3 (fun W=>W.cell? ⟨w.heap.size,0,none⟩=some (.int .i64 n)/\W.cell? ⟨w.heap.size,1,none⟩=some (.slice a zs.length cap)/\W.cell? ⟨w.heap.size,2,none⟩=some (.slice ao ko co)/\W.cell? ⟨w.heap.size,3,none⟩=some (.slice av kv cv)/\W.cell? ⟨w.heap.size,4,none⟩=some (.int .i64 fine)/\W.cell? ⟨w.heap.size+1,1,none⟩=some (.slice (some ⟨b,off,none⟩) ids.length c2)/\W.cell? ⟨b,off+k,none⟩=some (.int .i64 id)) (first|with_reducible exact kS|with_reducible exact⟨(za4 (za4 (za4 (za4 (za4 (za4 kS.1 (Nat.ne_of_lt hlw)) (Nat.ne_of_lt hlw)) (Nat.ne_of_lt hlw)) (Nat.ne_of_lt hlw)) (Nat.ne_of_lt hlw)) (Nat.ne_of_lt hlw)),(za4 (za4 (za4 (za4 (za4 (za4 kS.2.1 (Nat.ne_of_lt hlw)) (Nat.ne_of_lt hlw)) (Nat.ne_of_lt hlw)) (Nat.ne_of_lt hlw)) (Nat.ne_of_lt hlw)) (Nat.ne_of_lt hlw)),(za4 (za4 (za4 (za4 (za4 (za4 kS.2.2.1 (Nat.ne_of_lt hlw)) (Nat.ne_of_lt hlw)) (Nat.ne_of_lt hlw)) (Nat.ne_of_lt hlw)) (Nat.ne_of_lt hlw)) (Nat.ne_of_lt hlw)),(za4 (za4 (za4 (za4 (za4 (za4 kS.2.2.2.1 (Nat.ne_of_lt hlw)) (Nat.ne_of_lt hlw)) (Nat.ne_of_lt hlw)) (Nat.ne_of_lt hlw)) (Nat.ne_of_lt hlw)) (Nat.ne_of_lt hlw)),(za4 (za4 (za4 (za4 (za4 (za4 kS.2.2.2.2.1 (Nat.ne_of_lt hlw)) (Nat.ne_of_lt hlw)) (Nat.ne_of_lt hlw)) (Nat.ne_of_lt hlw)) (Nat.ne_of_lt hlw)) (Nat.ne_of_lt hlw)),(za4 (za4 (za4 (za4 (za4 (za4 kS.2.2.2.2.2.1 (Nat.ne_of_lt hlr)) (Nat.ne_of_lt hlr)) (Nat.ne_of_lt hlr)) (Nat.ne_of_lt hlr)) (Nat.ne_of_lt hlr)) (Nat.ne_of_lt hlr)),(za4 (za4 (za4 (za4 (za4 (za4 kS.2.2.2.2.2.2 (Nat.ne_of_lt hlb)) (Nat.ne_of_lt hlb)) (Nat.ne_of_lt hlb)) (Nat.ne_of_lt hlb)) (Nat.ne_of_lt hlb)) (Nat.ne_of_lt hlb))⟩|go_keep) ((first
     |(go_at_call 58
       with_reducible refine(zn6 n fine id a ao av _ cap ko co kv cv os wr.drew ?_ HLO.out hko).mono ?_
       ·exact HO.below HB.1.drew
       rintro e w2 ⟨rfl,hb2⟩;rw[H0.out,H1.out,H2.out,H3.out,H4.out,H5.out,HTT.out];have hcr2:=CR.below (CR.drew HB.out) hb2;obtain⟨k0,k1,k2,k3,k4⟩:=za8 hcr2.2.1;have k5:=(za2 hcr2.2.2).2;have k6:=(hb2.cell (p:=⟨b,off+k,none⟩) (block_lt_of_cell HCT.out)).trans HCT.out;have kS:=And.intro k0 (And.intro k1 (And.intro k2 (And.intro k3 (And.intro k4 (And.intro k5 k6)))));have CR2:Hid (CR w w2 _ _):=hcr2;have RV2:Hid (w2.heap[gv]? =_):=za1 hb2 (za3 HRV.out) HRV.out;have B2:Hid (Below wr.heap.size wr w2):=(Below.refl _ wr).drew.trans hb2;clear hb2 hcr2 k0 k1 k2 k3 k4 k5 k6)
     |(go_at_call 58
       with_reducible refine(zn6 n fine id a ao av _ cap ko co kv cv os (wr.alloc (Obj.cells #[Value.int .i64 0,Value.int .i64 0,Value.int .i64 0,Value.int .i64 0,Value.int .i64 0,Value.int .i64 0] 95)).drew ?_ HLO.out hko).mono ?_
       ·exact HO.below (CR.alloc HB.out (Obj.cells #[Value.int .i64 0,Value.int .i64 0,Value.int .i64 0,Value.int .i64 0,Value.int .i64 0,Value.int .i64 0] 95)).1.drew
       rintro e w2 ⟨rfl,hb2⟩;rw[H0.out,H1.out,H2.out,H3.out,H4.out,H5.out,HTT.out];have hcr2:=CR.below (CR.drew (CR.alloc HB.out (Obj.cells #[Value.int .i64 0,Value.int .i64 0,Value.int .i64 0,Value.int .i64 0,Value.int .i64 0,Value.int .i64 0] 95))) hb2;obtain⟨k0,k1,k2,k3,k4⟩:=za8 hcr2.2.1;have k5:=(za2 hcr2.2.2).2;have k6:=(hb2.cell (p:=⟨b,off+k,none⟩) (block_lt_of_cell HCA.out)).trans HCA.out;have kS:=And.intro k0 (And.intro k1 (And.intro k2 (And.intro k3 (And.intro k4 (And.intro k5 k6)))));have CR2:Hid (CR w w2 _ _):=hcr2;have RV2:Hid (w2.heap[gv]? =_):=za1 hb2 (za3 HVA.out) HVA.out;obtain⟨z0,z1,z2,z3,z4,z5⟩:=zf8 (za1 hb2 (k:=wr.heap.size) (by simp) (heap_alloc_new wr (Obj.cells #[Value.int .i64 0,Value.int .i64 0,Value.int .i64 0,Value.int .i64 0,Value.int .i64 0,Value.int .i64 0] 95)));have zf:=fun i=>frozen_of_row _ _ i _ _ (za1 hb2 (k:=wr.heap.size) (by simp) (heap_alloc_new wr (Obj.cells #[Value.int .i64 0,Value.int .i64 0,Value.int .i64 0,Value.int .i64 0,Value.int .i64 0,Value.int .i64 0] 95)))
       have RO2:Hid (w2.heap[wr.heap.size]? =_):=za1 hb2 (k:=wr.heap.size) (by simp) (heap_alloc_new wr (Obj.cells #[Value.int .i64 0,Value.int .i64 0,Value.int .i64 0,Value.int .i64 0,Value.int .i64 0,Value.int .i64 0] 95));have B2:Hid _:=((Below.refl _ wr).alloc (Nat.le_refl _) _).drew.trans (hb2.mono (by simp));clear hb2 hcr2 k0 k1 k2 k3 k4 k5 k6)))
    all_goals(first
     |(have CRW:Hid (CR w (World.setCell (World.setCell (World.setCell (World.setCell (World.setCell (World.setCell w2 ⟨wr.heap.size,0,none⟩ (Value.int .i64 o0)) ⟨wr.heap.size,1,none⟩ (Value.int .i64 o1)) ⟨wr.heap.size,2,none⟩ (Value.int .i64 o2)) ⟨wr.heap.size,3,none⟩ (Value.int .i64 o3)) ⟨wr.heap.size,4,none⟩ (Value.int .i64 o4)) ⟨wr.heap.size,5,none⟩ (Value.int .i64 o5)) _ _):=CR.set (CR.set (CR.set (CR.set (CR.set (CR.set CR2.out HB.big) HB.big) HB.big) HB.big) HB.big) HB.big
       have RVW:Hid ((World.setCell (World.setCell (World.setCell (World.setCell (World.setCell (World.setCell w2 ⟨wr.heap.size,0,none⟩ (Value.int .i64 o0)) ⟨wr.heap.size,1,none⟩ (Value.int .i64 o1)) ⟨wr.heap.size,2,none⟩ (Value.int .i64 o2)) ⟨wr.heap.size,3,none⟩ (Value.int .i64 o3)) ⟨wr.heap.size,4,none⟩ (Value.int .i64 o4)) ⟨wr.heap.size,5,none⟩ (Value.int .i64 o5)).heap[gv]? =_):=za7 (za7 (za7 (za7 (za7 (za7 RV2.out (Nat.ne_of_lt (za3 HRV.out))) (Nat.ne_of_lt (za3 HRV.out))) (Nat.ne_of_lt (za3 HRV.out))) (Nat.ne_of_lt (za3 HRV.out))) (Nat.ne_of_lt (za3 HRV.out))) (Nat.ne_of_lt (za3 HRV.out));have ROW:Hid ((World.setCell (World.setCell (World.setCell (World.setCell (World.setCell (World.setCell w2 ⟨wr.heap.size,0,none⟩ (Value.int .i64 o0)) ⟨wr.heap.size,1,none⟩ (Value.int .i64 o1)) ⟨wr.heap.size,2,none⟩ (Value.int .i64 o2)) ⟨wr.heap.size,3,none⟩ (Value.int .i64 o3)) ⟨wr.heap.size,4,none⟩ (Value.int .i64 o4)) ⟨wr.heap.size,5,none⟩ (Value.int .i64 o5)).heap[wr.heap.size]? =_):=zE4 RO2.out;have BW:Hid (∀base e size v n xs,wr.ownsRow base e size v n xs->World.ownsRow (World.setCell (World.setCell (World.setCell (World.setCell (World.setCell (World.setCell w2 ⟨wr.heap.size,0,none⟩ (Value.int .i64 o0)) ⟨wr.heap.size,1,none⟩ (Value.int .i64 o1)) ⟨wr.heap.size,2,none⟩ (Value.int .i64 o2)) ⟨wr.heap.size,3,none⟩ (Value.int .i64 o3)) ⟨wr.heap.size,4,none⟩ (Value.int .i64 o4)) ⟨wr.heap.size,5,none⟩ (Value.int .i64 o5)) base e size v n xs):=fun _ _ _ _ _ _ h=>zc2 h ((((((B2.setCell (Nat.le_refl _) _).setCell (Nat.le_refl _) _).setCell (Nat.le_refl _) _).setCell (Nat.le_refl _) _).setCell (Nat.le_refl _) _).setCell (Nat.le_refl _) _);clear kS CR2 RV2 RO2 HCT HCA HVA ct z0 z1 z2 z3 z4 z5 zf;generalize(World.setCell (World.setCell (World.setCell (World.setCell (World.setCell (World.setCell w2 ⟨wr.heap.size,0,none⟩ (Value.int .i64 o0)) ⟨wr.heap.size,1,none⟩ (Value.int .i64 o1)) ⟨wr.heap.size,2,none⟩ (Value.int .i64 o2)) ⟨wr.heap.size,3,none⟩ (Value.int .i64 o3)) ⟨wr.heap.size,4,none⟩ (Value.int .i64 o4)) ⟨wr.heap.size,5,none⟩ (Value.int .i64 o5))=W at*;generalize wr.heap.size=g at*)
     |(have CRW:Hid (CR w (w2.alloc (Obj.cells #[Value.int .i64 o0,Value.int .i64 o1,Value.int .i64 o2,Value.int .i64 o3,Value.int .i64 o4,Value.int .i64 o5] 95)) _ _):=CR.alloc CR2.out _
       have RVW:Hid ((w2.alloc (Obj.cells #[Value.int .i64 o0,Value.int .i64 o1,Value.int .i64 o2,Value.int .i64 o3,Value.int .i64 o4,Value.int .i64 o5] 95)).heap[gv]? =_):=(heap_alloc_old _ _ (za3 RV2.out)).trans RV2.out;have ROW:Hid ((w2.alloc (Obj.cells #[Value.int .i64 o0,Value.int .i64 o1,Value.int .i64 o2,Value.int .i64 o3,Value.int .i64 o4,Value.int .i64 o5] 95)).heap[w2.heap.size]? =_):=heap_alloc_new _ _;have BW:Hid (∀base e size v n xs,wr.ownsRow base e size v n xs->(w2.alloc (Obj.cells #[Value.int .i64 o0,Value.int .i64 o1,Value.int .i64 o2,Value.int .i64 o3,Value.int .i64 o4,Value.int .i64 o5] 95)).ownsRow base e size v n xs):=fun _ _ _ _ _ _ h=>zc2 h (B2.alloc B2.size _);clear kS CR2 RV2 HCT HCA HVA ct;generalize w2.alloc (Obj.cells #[Value.int .i64 o0,Value.int .i64 o1,Value.int .i64 o2,Value.int .i64 o3,Value.int .i64 o4,Value.int .i64 o5] 95)=W at*;generalize w2.heap.size=g at*))
    all_goals
     clear c0 c1 c2' c3 c4 d0 d1 hlw hlr hlb HTT;generalize tt=tt';have HWW:Hid (W.ownsRow (gv+1) 165 4 _ k _):=BW.out _ _ _ _ _ _ HW.out;obtain⟨c0,c1,c2',c3,c4⟩:=za8 CRW.2.1;obtain⟨p0,p1,p2,p3,p4,p5⟩:=zf8 ROW.out
     go_wp2_with fail
     clear c0 c1 c2' c3 c4 p0 p1 p2 p3 p4 p5;refine(zt0 n p o1 _ _ zs _ d HD.out HMAT.out HPB.out HO1.out (HA.below CRW.1)).mono ?_;rintro e W3 ⟨rfl,hb3⟩;have CR3:Hid (CR w W3 _ _):=CRW.below hb3;have RV3:Hid (W3.heap[gv]? =_):=za1 hb3 (za3 RVW.out) RVW.out;have RO3:Hid (W3.heap[g]? =_):=za1 hb3 (za3 ROW.out) ROW.out;have HW3:Hid (W3.ownsRow (gv+1) 165 4 _ k _):=zc2 HWW.out hb3;clear hb3 CRW RVW ROW HWW BW;obtain⟨p0,p1,p2,p3,p4,p5⟩:=zf8 RO3.out;by_cases hlate:o4<mx
     ·have HN:Hid _:=HV1.symm.trans (z51 hlt (by rw[K4.out,HSTV.out];exact hlate))
      have hor:(f+d<o3/\mx=o3)∨(o3<=f+d/\mx=f+d):=by
       have:=HMX.out;omega
      rcases hor with⟨hmx,rfl⟩|⟨hmx,rfl⟩
      all_goals
       clear HMX;go_wp2;refine bodyPost_ret (v:=.tuple #[.slice none 0 0,.int .i64 0,.int .i64 5]) (by simp[results,Tryz.results101,go_sem]) rfl ⟨CR3.1,.inl ⟨by rw[HN.out];decide,by rw[HN.out]⟩⟩
     ·have hle:mx<=o4:=by omega
      have HT1:Hid (zl2 n zs (zc4 os ko ids) v1 v3 (k+1)):=zC7 HTM.out (by rw[K4.out,HSTV.out];exact hle);have hor:(f+d<o3/\mx=o3)∨(o3<=f+d/\mx=f+d):=by
       have:=HMX.out;omega
      have HLG:Hid (gv+1<=W3.heap.size):=za3 RV3.out;clear hlate;rcases hor with⟨hmx,rfl⟩|⟨hmx,rfl⟩
      all_goals
       clear HMX
       go_wp2_with(first
        |(at_builtin;refine zE6 _ rfl _ _ rfl (gv+1) _ k _ rfl (HW3.alloc _) _ 1 _ rfl rfl (zV8 _ _ _ _ _ _ _ (by simp)) (by simp[Value.oneCell']) (by omega) (Nat.le_trans HLG.out (by simp)) ?_;intro v' w4 hown4 hgrow4;obtain⟨gg',cc',rfl,hgg'⟩:=yk8 hown4))
       replace hgrow4:World.grownBy _ w4 (some gg):=hgrow4;rw[ye6 n zs (zc4 os ko ids) v1 v3 hlt K0.out HAR.out HSTV.out HNX.out]at hown4;go_roundw
       case rel=>exact⟨k+1,gg',cc',by omega,by go_num,rfl,hgg',hown4,by rw[<-K1.out];rfl,by rw[HNX.out],HT1.out,(CR3.alloc _).grown hgrow4 (by have:=HGG.out;have:=HGV.out;omega),(hgrow4.block _ (Nat.lt_of_lt_of_le (za3 RV3.out) (by simp)) (fun e=>by have h7:=HGG.out;rw[Option.some.injEq]at e;omega)).trans ((heap_alloc_old _ _ (za3 RV3.out)).trans RV3.out)⟩
       case measure=>simp[intOf];omega
   ·have hkl:k=ids.length:=by omega
    obtain⟨q0,q1,q2,q3,q4⟩:=za8 HRV.out;have HHM:Hid (homeV n zs (zc4 os ko ids) ids.length v1 v3=f+tmI n zs p v1):=by
     show _=_;unfold homeV;rw[<-hkl,HFR.out,HPL.out]
    have HTM':Hid (zl2 n zs (zc4 os ko ids) v1 v3 ids.length):=hkl▸HTM.out;have HOI:Hid (za0 wr (some ⟨gg,0,none⟩) (yh1 n zs (zc4 os ko ids) v1 v3 ids.length)):=by
     have:=HW.out;rw[List.take_of_length_le (by rw[z34];omega)]at this;exact zd2 this
    obtain⟨d,HD⟩:=nmd (tmI n zs p v1);have hdb:=zr5 HMAT.out p v1;rw[HD.out]at hdb HHM;have hkI:(k:Int)=ids.length:=by omega
    have HKL:Hid _:=hkl;clear hkl hkI
    go_wp2_with fail
    refine(zt0 n p v1 _ _ zs _ d HD.out HMAT.out HPB.out HX1.out (HA.below HB.1)).mono ?_;rintro e W3 ⟨rfl,hb3⟩;have CR3:Hid (CR w W3 _ _):=HB.below hb3;have RV3:Hid (W3.heap[gv]? =_):=za1 hb3 (za3 HRV.out) HRV.out;have HOI3:Hid (za0 W3 (some ⟨gg,0,none⟩) (yh1 n zs (zc4 os ko ids) v1 v3 ids.length)):=HOI.below hb3;clear hb3 c0 c1 c2' c3 c4 d0 d1 q0 q1 q2 q3 q4;obtain⟨q0,q1,q2,q3,q4⟩:=za8 RV3.out;by_cases hto:v4<f+d
    ·have HN:Hid _:=HV1.symm.trans (z63 HTM'.out (by rw[HHM.out];exact hto))
     go_wp2;refine bodyPost_ret (v:=.tuple #[.slice none 0 0,.int .i64 0,.int .i64 6]) (by simp[results,Tryz.results101,go_sem]) rfl ⟨CR3.1,.inl ⟨by rw[HN.out];decide,by rw[HN.out]⟩⟩
    ·have HN:Hid _:=HV1.symm.trans (zI5 HTM'.out (by rw[HHM.out];exact hto))
     go_wp2;refine bodyPost_ret (v:=.tuple #[.slice (some ⟨gg,0,none⟩) k cc,.int .i64 (f+d),.int .i64 0]) (by simp[results,Tryz.results101,go_sem]) rfl ⟨CR3.1,.inr ⟨HN.out,gg,cc,by have:=HGG.out;have:=HGV.out;omega,?_,?_⟩⟩
     ·rw[G1.out,G3.out,HHM.out,HKL.out]
     ·rw[G1.out,G3.out]
      exact HOI3.out
 ·have HRV:Hid _:=HFV.symm.trans ((zt1 (by rw[HFV.out];exact hfv)).symm.trans HR.out)
  have heb:(fv !=0)=true:=by simp[hfv]
  have HF:Hid (fv≠0):=hfv;clear hfv;go_wp2;refine bodyPost_ret (v:=.tuple #[.slice none 0 0,.int .i64 0,.int .i64 fv]) (by simp[results,Tryz.results101,go_sem]) rfl ⟨C1.1,.inl ⟨by rw[<-HRV.out];exact HF.out,by rw[HRV.out]⟩⟩
theorem zF9{W:World}{g o k i:Nat}{zs:List Int}{v:Value}(h:za0 W (some ⟨g,o,none⟩) zs)(hne:g≠k):za0 (W.setCell ⟨k,i,none⟩ v) (some ⟨g,o,none⟩) zs:=by
 intro j hj;exact⟨g,o,rfl,za4 (zn0 h hj rfl) hne⟩
theorem zg4{w:World}{k:Nat}{c0 c1 c2 c3 c4 c5 c6 c7:Value}{T:TypeId}(r:w.heap[k]? =some (.cells #[c0,c1,c2,c3,c4,c5,c6,c7] T (0,0))):
 w.cell? ⟨k,0,none⟩=some c0/\w.cell? ⟨k,1,none⟩=some c1/\w.cell? ⟨k,2,none⟩=some c2/\w.cell? ⟨k,3,none⟩=some c3/\w.cell? ⟨k,4,none⟩=some c4/\w.cell? ⟨k,5,none⟩=some c5/\w.cell? ⟨k,6,none⟩=some c6/\w.cell? ⟨k,7,none⟩=some c7:=by
 refine⟨?_,?_,?_,?_,?_,?_,?_,?_⟩
 ·rw[cell_of_row _ _ 0 _ _ _ r];simp
 ·rw[cell_of_row _ _ 1 _ _ _ r];simp
 ·rw[cell_of_row _ _ 2 _ _ _ r];simp
 ·rw[cell_of_row _ _ 3 _ _ _ r];simp
 ·rw[cell_of_row _ _ 4 _ _ _ r];simp
 ·rw[cell_of_row _ _ 5 _ _ _ r];simp
 ·rw[cell_of_row _ _ 6 _ _ _ r];simp
 ·rw[cell_of_row _ _ 7 _ _ _ r];simp
theorem zJ9(n lo hi:Int)(w:World)(v:Bool)(hv:inB n lo hi=v):
 Calls Tryz.prog 44 #[.int .i64 n,.int .i64 lo,.int .i64 hi] w fun e w'=>e=.returned (.bool v)/\w'=w:=hv▸zc1 n lo hi w
end Go.Proofs.YtjobhigmdaiinaaGreat
namespace Go.Proofs.YtjobhigmdaiinaaGreat
end Go.Proofs.YtjobhigmdaiinaaGreat
namespace Go.Proofs.YtjobhigmdaiinaaGreat
open Go.RowKit
def zK0(w:World)(ch:Bool)(veh D:Int)(xs:List Int)(e:Ending)(w':World):Prop:=
 Below w.heap.size w w'/\∃ad c,e=.returned (.tuple #[.agg #[.int .i64 (chI ch veh),.slice ad xs.length c],.int .i64 D,.bool ch])/\w'.ownsRow w.heap.size 2 1 (.slice ad xs.length c) xs.length (xs.map (Value.int .i64))
def CRR(w W:World)(cs rs ts:Array Value):Prop:=CR w W cs rs/\W.heap[w.heap.size+2]? =some (.cells ts 43 (0,0))
theorem CRR.new(w:World)(cs rs ts:Array Value):CRR w (((w.alloc (.cells cs 30)).alloc (.cells rs 43)).alloc (.cells ts 43)) cs rs ts:=
 ⟨(CR.new w cs rs).alloc _,by have:=heap_alloc_new ((w.alloc (.cells cs 30)).alloc (.cells rs 43)) (.cells ts 43);simpa using this⟩
theorem CRR.below{w W W':World}{cs rs ts:Array Value}(h:CRR w W cs rs ts)(hb:Below W.heap.size W W'):CRR w W' cs rs ts:=
 ⟨h.1.below hb,za1 hb (za3 h.2) h.2⟩
theorem CRR.b{w W:World}{cs rs ts:Array Value}(h:CRR w W cs rs ts):Below w.heap.size w W:=h.1.1
theorem CRR.alloc{w W:World}{cs rs ts:Array Value}(h:CRR w W cs rs ts)(o:Obj):CRR w (W.alloc o) cs rs ts:=h.below ((Below.refl _ _).alloc (Nat.le_refl _) _)
theorem CRR.big{w W:World}{cs rs ts:Array Value}(h:CRR w W cs rs ts):w.heap.size+2<W.heap.size:=za3 h.2
theorem CRR.set{w W:World}{cs rs ts:Array Value}(h:CRR w W cs rs ts)(u1 u2:Value):CR w ((W.setCell ⟨w.heap.size+1+1,0,none⟩ u1).setCell ⟨w.heap.size+1+1,1,none⟩ u2) cs rs:=(h.1.set (by omega)).set (by omega)
theorem cr7{w W:World}{c0 c1 c2 c3 c4 r0 r1:Value}(h:CR w W #[c0,c1,c2,c3,c4] #[r0,r1]):
 W.cell? ⟨w.heap.size,0,none⟩=some c0/\W.cell? ⟨w.heap.size,1,none⟩=some c1/\W.cell? ⟨w.heap.size,2,none⟩=some c2/\W.cell? ⟨w.heap.size,3,none⟩=some c3/\W.cell? ⟨w.heap.size,4,none⟩=some c4/\W.cell? ⟨w.heap.size+1,0,none⟩=some r0/\W.cell? ⟨w.heap.size+1,1,none⟩=some r1:=by
 obtain⟨k0,k1,k2,k3,k4⟩:=za8 h.2.1;obtain⟨k5,k6⟩:=za2 h.2.2;exact⟨k0,k1,k2,k3,k4,k5,k6⟩
theorem yq7:(Tryz.prog.info? 2).map (fun i=>(i.zero,i.size,i.bytes))=some (some (Value.int .i64 0),1,8):=by kernel_rfl
theorem zn7:∃i0,Tryz.prog.info? 2=some i0/\i0.zero=some (Value.int .i64 0)/\i0.size=1/\i0.bytes=8:=by
 have h:=yq7;cases hq:Tryz.prog.info? 2 with
 |none=>rw[hq]at h;simp at h
 |some i0=>
  rw[hq]at h;simp only[Option.map_some,Option.some.injEq,Prod.mk.injEq]at h;exact⟨i0,rfl,h.1,h.2.1,h.2.2⟩
theorem zX5{W:World}{b off:Nat}{ys:List Int}(h:za0 W (some ⟨b,off,none⟩) ys):∀j u,(ys.map (Value.int .i64))[j]? =some u->W.cell? ((⟨b,off,none⟩:Addr).add j)=some u:=by
 intro j u hu;have hj:j<ys.length:=by
  rcases Nat.lt_or_ge j ys.length with h'|h'
  ·exact h'
  ·simp[List.getElem?_eq_none (by simpa using h':(ys.map (Value.int .i64)).length<=j)]at hu
 obtain⟨b',off',e,hc⟩:=h j hj;simp at e;obtain⟨rfl,rfl⟩:=e;have hadd:(⟨b,off,none⟩:Addr).add j=⟨b,off+j,none⟩:=by unfold Addr.add;split<;>simp_all
 rw[hadd,hc,<-hu];simp[List.getD,hj]
theorem zd3{ops:Array Oper}{o:Oper}{a:Act}{w:World}{K:Act->World->Prop}{Q:Exit->Act->World->Prop}{E:Prop}
 (hg:o.guard=none) (s x:Operand) (hop:o.op=Op.call {callee:=Callee.builtin Builtin.append,args:=#[s,x],argTypes:=#[24,24]})
 (base:Nat) (v:Value) (xs:List Int) (k:Nat) (hs:a.eval s=v) (hown:w.ownsRow base 2 1 v k (xs.map (Value.int .i64))) (b off m c:Nat) (ys:List Int) (hx:a.eval x=.slice (some ⟨b,off,none⟩) m c)
 (hy:ys.length=m) (hc:za0 w (some ⟨b,off,none⟩) ys) (b1:k<=1000) (b2:m<=1000) (hb:base<=w.heap.size)
 (hK:∀v' w',w'.ownsRow base 2 1 v' (k+m) ((xs++ys).map (Value.int .i64))->w.grownBy w' v.ownBlock->(v'=.slice none 0 0↔v=.slice none 0 0/\m=0)->K (a.put o.dst v') w'):
 if Region.wanted o (yielded ops a.tmps)=true then Oper.wp Tryz.prog o a w K Q else E:=by
 have hw:Region.wanted o (yielded ops a.tmps)=true:=by simp[Region.wanted,hg]
 rw[if_pos hw];obtain⟨i0,hi,hz0,hz1,hz2⟩:=zn7;obtain⟨v',w',hrun,r1,r2,r3⟩:=run_append_own (P:=Tryz.prog) w base 24 o.type _ i0 _ 1 8 Tryz.underlying24 hi hz0 hz1 hz2 rfl (by decide) v k (xs.map (Value.int .i64)) hown ⟨b,off,none⟩ m c (ys.map (Value.int .i64)) (by simp[hy]) (zX5 hc) (by simp[Value.oneCell']) (by unfold maxLen;omega) (by omega) hb;unfold Oper.wp;simp[execOp,hop,resolve,invoke,builtin,hs,hx,hrun,Result.andThen];exact hK _ _ (by rw[List.map_append];exact r1) r2 r3
theorem z86{ops:Array Oper}{o:Oper}{a:Act}{w:World}{K:Act->World->Prop}{Q:Exit->Act->World->Prop}{E:Prop}
 (hg:o.guard=none) (s x:Operand) (hop:o.op=Op.call {callee:=Callee.builtin Builtin.append,args:=#[s,x],argTypes:=#[24,24]})
 (base:Nat) (v:Value) (xs:List Int) (k:Nat) (hs:a.eval s=v) (hown:w.ownsRow base 2 1 v k (xs.map (Value.int .i64))) (ad:Option Addr) (m c:Nat) (ys:List Int) (hx:a.eval x=.slice ad m c)
 (had:∃b off,ad=some ⟨b,off,none⟩) (hy:ys.length=m) (hc:za0 w ad ys) (b1:k<=1000) (b2:m<=1000) (hb:base<=w.heap.size)
 (hK:∀v' w',w'.ownsRow base 2 1 v' (k+m) ((xs++ys).map (Value.int .i64))->w.grownBy w' v.ownBlock->(v'=.slice none 0 0↔v=.slice none 0 0/\m=0)->K (a.put o.dst v') w'):
 if Region.wanted o (yielded ops a.tmps)=true then Oper.wp Tryz.prog o a w K Q else E:=by
 obtain⟨b,off,rfl⟩:=had;exact zd3 hg s x hop base v xs k hs hown b off m c ys hx hy hc b1 b2 hb hK
theorem CRR.grown{w W W':World}{cs rs ts:Array Value}{row:Option Nat}(h:CRR w W cs rs ts)(hg:W.grownBy W' row)(hlt:∀g,row=some g->w.heap.size+2<g):CRR w W' cs rs ts:=
 ⟨⟨h.1.1.grown hg h.1.1.size (fun k e=>by have:=hlt k e;omega),(hg.block _ (za3 h.1.2.1) (fun e=>by have:=hlt _ e.symm;omega)).trans h.1.2.1,(hg.block _ (za3 h.1.2.2) (fun e=>by have:=hlt _ e.symm;omega)).trans h.1.2.2⟩,(hg.block _ (za3 h.2) (fun e=>by have:=hlt _ e.symm;omega)).trans h.2⟩
theorem CRR.put{w W:World}{cs rs ts:Array Value}(h:CRR w W cs rs ts){k i:Nat}{v:Value}(hk:w.heap.size+2<k):CRR w (W.setCell ⟨k,i,none⟩ v) cs rs ts:=
 ⟨h.1.set (by omega),za7 h.2 (by omega)⟩
theorem CRR.drew{w W:World}{cs rs ts:Array Value}(h:CRR w W cs rs ts):CRR w W.drew cs rs ts:=h.below (Below.refl _ _).drew
def OX(w W:World)(B ko:Nat)(cs rs ts:Array Value)(veh:Int)(sl:Value)(ys:List Int):Prop:=
 CRR w W cs rs ts/\W.heap[ko]? =some (.cells #[.int .i64 veh,sl] 43 (0,0))/\B<=ko/\w.heap.size+2<B/\W.ownsRow B 2 1 sl ys.length (ys.map (Value.int .i64))
theorem OX.c{w W:World}{B ko:Nat}{cs rs ts:Array Value}{veh:Int}{sl:Value}{ys:List Int}(h:OX w W B ko cs rs ts veh sl ys):CRR w W cs rs ts:=h.1
theorem OX.b{w W:World}{B ko:Nat}{cs rs ts:Array Value}{veh:Int}{sl:Value}{ys:List Int}(h:OX w W B ko cs rs ts veh sl ys):Below w.heap.size w W:=h.1.1.1
theorem OX.o{w W:World}{B ko:Nat}{cs rs ts:Array Value}{veh:Int}{sl:Value}{ys:List Int}(h:OX w W B ko cs rs ts veh sl ys):W.ownsRow B 2 1 sl ys.length (ys.map (Value.int .i64)):=h.2.2.2.2
theorem OX.below{w W W':World}{B ko:Nat}{cs rs ts:Array Value}{veh:Int}{sl:Value}{ys:List Int}(h:OX w W B ko cs rs ts veh sl ys)(hb:Below W.heap.size W W'):OX w W' B ko cs rs ts veh sl ys:=
 ⟨h.1.below hb,za1 hb (za3 h.2.1) h.2.1,h.2.2.1,h.2.2.2.1,zc2 h.2.2.2.2 hb⟩
theorem OX.drew{w W:World}{B ko:Nat}{cs rs ts:Array Value}{veh:Int}{sl:Value}{ys:List Int}(h:OX w W B ko cs rs ts veh sl ys):OX w W.drew B ko cs rs ts veh sl ys:=h.below (Below.refl _ _).drew
theorem z76{w:World}{base k ko:Nat}{v:Value}{size:Nat}{xs:List Value}{cs:Array Value}(h:w.ownsRow base 2 size v k xs)(hk:w.heap[ko]? =some (.cells cs 43 (0,0))):v.ownBlock≠some ko:=by
 intro e;obtain⟨_,⟨rfl,_⟩|⟨g,cap,cur,rfl,_,h4,_⟩⟩:=h
 ·cases e
 ·have:g=ko:=by simpa[Value.ownBlock]using e
  subst this;rw[h4]at hk;simp at hk
theorem OX.grow{w W W':World}{B ko:Nat}{cs rs ts:Array Value}{veh:Int}{sl sl':Value}{ys ys':List Int}(h:OX w W B ko cs rs ts veh sl ys)(hg:W.grownBy W' sl.ownBlock)(ho:W'.ownsRow B 2 1 sl' ys'.length (ys'.map (Value.int .i64))):
 OX w ((W'.setCell ⟨ko,1,none⟩ sl')) B ko cs rs ts veh sl' ys':=by
 have hk:=(hg.block _ (za3 h.2.1) (fun e=>z76 h.2.2.2.2 h.2.1 e.symm)).trans h.2.1;refine⟨(h.1.grown hg (fun g e=> ?_)).put ?_,?_,h.2.2.1,h.2.2.2.1,?_⟩
 ·have:=(h.2.2.2.2.lt g e).1;have:=h.2.2.2.1;omega
 ·have:=h.2.2.1;have:=h.2.2.2.1;omega
 ·have:=heap_setCell_same W' ko 1 _ _ sl' hk
  simpa using this
 ·exact ownsRow_setCell_other ho (z76 ho hk) sl'
theorem ys3(w1:World):((w1.alloc (.cells #[] 2)).drew).ownsRow w1.heap.size 2 1 (.slice (some ⟨w1.heap.size,0,none⟩) 0 0) 0 (([]:List Int).map (Value.int .i64)):=
 zc2 (World.ownsRow_made w1 #[] 0 (Nat.le_refl _) (by unfold maxLen;omega) (by simp)) (Below.refl _ _).drew
theorem ys7(w1:World)(o:Obj):(((w1.alloc (.cells #[] 2)).alloc o).drew).ownsRow w1.heap.size 2 1 (.slice (some ⟨w1.heap.size,0,none⟩) 0 0) 0 (([]:List Int).map (Value.int .i64)):=
 zc2 (World.ownsRow_made w1 #[] 0 (Nat.le_refl _) (by unfold maxLen;omega) (by simp)) ((Below.refl _ _).alloc (Nat.le_refl _) _).drew
theorem yr5(w1:World)(o:Obj):(((w1.alloc o).alloc (.cells #[] 2)).drew).ownsRow w1.heap.size 2 1 (.slice (some ⟨w1.heap.size+1,0,none⟩) 0 0) 0 (([]:List Int).map (Value.int .i64)):=by
 have:=zc2 (World.ownsRow_made (base:=w1.heap.size) (e:=2) (size:=1) (w1.alloc o) #[] 0 (by simp) (by unfold maxLen;omega) (by simp)) (Below.refl _ _).drew;simpa using this
theorem zz6(w1:World)(o:Obj):(w1.alloc o).heap.size=w1.heap.size+1:=by simp
theorem OX.newa{w w1 w':World}{cs rs ts:Array Value}{veh:Int}{sl:Value}{ys:List Int}{o:Obj}(h:CRR w w1 cs rs ts)(hg:((w1.alloc o).drew).grownBy w' (some w1.heap.size))(ho:w'.ownsRow w1.heap.size 2 1 sl ys.length (ys.map (Value.int .i64))):
 OX w (w'.alloc (.cells #[.int .i64 veh,sl] 43)) w1.heap.size w'.heap.size cs rs ts veh sl ys:=
 ⟨(((h.alloc o).drew).grown hg (fun g e=>by cases e;exact h.big)).alloc _,heap_alloc_new _ _,by have:=hg.size;have e:=zz6 w1 o;have:(w1.alloc o).drew.heap.size=w1.heap.size+1:=e;omega,h.big,ho.alloc _⟩
theorem OX.newb{w w1 w':World}{cs rs ts:Array Value}{veh:Int}{sl z0 z1:Value}{ys:List Int}{o:Obj}(h:CRR w w1 cs rs ts)(hg:(((w1.alloc o).alloc (.cells #[z0,z1] 43)).drew).grownBy w' (some w1.heap.size))(ho:w'.ownsRow w1.heap.size 2 1 sl ys.length (ys.map (Value.int .i64))):
 OX w ((w'.setCell ⟨w1.heap.size+1,0,none⟩ (.int .i64 veh)).setCell ⟨w1.heap.size+1,1,none⟩ sl) w1.heap.size (w1.heap.size+1) cs rs ts veh sl ys:=by
 have hk0:(((w1.alloc o).alloc (.cells #[z0,z1] 43)).drew).heap[w1.heap.size+1]? =some (.cells #[z0,z1] 43 (0,0)):=by
  have:=heap_alloc_new (w1.alloc o) (.cells #[z0,z1] 43);rw[zz6]at this;exact this
 have hk:w'.heap[w1.heap.size+1]? =some (.cells #[z0,z1] 43 (0,0)):=(hg.block _ (za3 hk0) (fun e=>by simp at e)).trans hk0;have hb:=h.big;have s1:=heap_setCell_same w' (w1.heap.size+1) 0 _ _ (.int .i64 veh) hk;have s2:=heap_setCell_same _ (w1.heap.size+1) 1 _ _ sl s1;refine⟨((((h.alloc o).alloc _).drew.grown hg (fun g e=>by cases e;exact hb)).put (by omega)).put (by omega),by simpa using s2,by omega,hb,?_⟩;exact ownsRow_setCell_other (ownsRow_setCell_other ho (z76 ho hk) _) (z76 ho hk) _
theorem OX.newc{w w1 w':World}{cs rs ts:Array Value}{veh:Int}{sl z0 z1:Value}{ys:List Int}{o:Obj}(h:CRR w w1 cs rs ts)(hg:(((w1.alloc (.cells #[z0,z1] 43)).alloc o).drew).grownBy w' (some (w1.heap.size+1)))(ho:w'.ownsRow w1.heap.size 2 1 sl ys.length (ys.map (Value.int .i64))):
 OX w ((w'.setCell ⟨w1.heap.size,0,none⟩ (.int .i64 veh)).setCell ⟨w1.heap.size,1,none⟩ sl) w1.heap.size w1.heap.size cs rs ts veh sl ys:=by
 have hk0:(((w1.alloc (.cells #[z0,z1] 43)).alloc o).drew).heap[w1.heap.size]? =some (.cells #[z0,z1] 43 (0,0)):=heap_alloc2_old _ _ _;have hk:w'.heap[w1.heap.size]? =some (.cells #[z0,z1] 43 (0,0)):=(hg.block _ (za3 hk0) (fun e=>by simp at e)).trans hk0;have hb:=h.big;have s1:=heap_setCell_same w' w1.heap.size 0 _ _ (.int .i64 veh) hk;have s2:=heap_setCell_same _ w1.heap.size 1 _ _ sl s1;refine⟨((((h.alloc _).alloc o).drew.grown hg (fun g e=>by cases e;omega)).put (by omega)).put (by omega),by simpa using s2,by omega,hb,?_⟩;exact ownsRow_setCell_other (ownsRow_setCell_other ho (z76 ho hk) _) (z76 ho hk) _
theorem yt8{w1 w2:World}{o:Obj}{cs:Array Value}{T:TypeId}(hg:(((w1.alloc o).alloc (.cells cs T)).drew).grownBy w2 (some w1.heap.size)):w2.heap[w1.heap.size+1]? =some (.cells cs T (0,0)):=by
 have hk0:(((w1.alloc o).alloc (.cells cs T)).drew).heap[w1.heap.size+1]? =some (.cells cs T (0,0)):=by
  have:=heap_alloc_new (w1.alloc o) (.cells cs T);rw[zz6]at this;exact this
 exact(hg.block _ (za3 hk0) (fun e=>by simp at e)).trans hk0
theorem yt7{w1 w2:World}{o:Obj}{cs:Array Value}{T:TypeId}(hg:(((w1.alloc (.cells cs T)).alloc o).drew).grownBy w2 (some (w1.heap.size+1))):w2.heap[w1.heap.size]? =some (.cells cs T (0,0)):=by
 have hk0:(((w1.alloc (.cells cs T)).alloc o).drew).heap[w1.heap.size]? =some (.cells cs T (0,0)):=heap_alloc2_old _ _ _;exact(hg.block _ (za3 hk0) (fun e=>by simp at e)).trans hk0
theorem zO0{w:World}{base n:Nat}{v:Value}{e:TypeId}{xs:List Int}(h:w.ownsRow base e 1 v (0+n) (([]++xs).map (Value.int .i64)))(hl:xs.length=n):w.ownsRow base e 1 v xs.length (xs.map (Value.int .i64)):=by
 rw[Nat.zero_add]at h;rw[hl];exact h
theorem zP4{w:World}{base n m:Nat}{v:Value}{e:TypeId}{xs ys:List Int}(h:w.ownsRow base e 1 v (n+m) ((xs++ys).map (Value.int .i64)))(hx:xs.length=n)(hy:ys.length=m):w.ownsRow base e 1 v (xs++ys).length ((xs++ys).map (Value.int .i64)):=by
 rw[List.length_append,hx,hy];exact h
theorem yp0{w:World}{base n:Nat}{v:Value}{e:TypeId}{xs:List Int}(h:w.ownsRow base e 1 v xs.length (xs.map (Value.int .i64)))(hl:xs.length=n):w.ownsRow base e 1 v n (xs.map (Value.int .i64)):=by
 rw[<-hl];exact h
theorem yd3{w:World}{base k g c:Nat}{e:TypeId}{size:Nat}{xs:List Value}(h:w.ownsRow base e size (.slice (some ⟨g,0,none⟩) k c) k xs):k<=c/\k<=9223372036854775807:=by
 obtain⟨_,⟨h1,_⟩|⟨g',cap,cur,h2,_,_,h5,h6,_⟩⟩:=h
 ·cases h1
 ·simp at h2
  obtain⟨rfl,rfl⟩:=h2;unfold maxLen at h6;exact⟨h5,by omega⟩
theorem yt3{c:Bool}{n:Int}{zs os vs:List Int}{ko kv:Nat}{veh:Int}{ids:List Int}(h:codeV c n zs os vs ko kv veh ids=0):rcV n zs os vs ko kv veh ids=zn3 n zs (zc4 os ko ids) ids.length (zb5 vs kv veh 1):=by
 have hc:=zw8 h;rw[hc]at h;exact z52 h
theorem ye2{ch c:Bool}{n:Int}{zs os vs:List Int}{ko kv:Nat}{veh:Int}{ids ids':List Int}(h:ch=true)(h1:codeV c n zs os vs ko kv veh ids=0)(h2:codeV c n zs os vs ko kv veh ids'=0):
 chD ch n zs os vs ko kv veh ids ids'=zn3 n zs (zc4 os ko ids') ids'.length (zb5 vs kv veh 1) - zn3 n zs (zc4 os ko ids) ids.length (zb5 vs kv veh 1):=by
 subst h;unfold chD;rw[if_pos rfl,yt3 h1,yt3 h2]
theorem zI1{w1 X:World}{b o:Nat}{v:Value}(hc:w1.cell? ⟨b,o,none⟩=some v)(hb:Below w1.heap.size w1 X):X.cell? ⟨b,o,none⟩=some v:=by
 rw[hb.cell (p:=⟨b,o,none⟩) (block_lt_of_cell hc)];exact hc
theorem yg6{W:World}{a:Option Addr}{ids:List Int}(h:za0 W a ids)(i:Nat):za0 W a (ids.take i):=by
 intro j hj;simp at hj;obtain⟨b,off,e,hc⟩:=h j (by omega);refine⟨b,off,e,hc.trans ?_⟩;simp only[List.getD,List.getElem?_take];rw[if_pos (by omega)]
theorem yb2{W:World}{b off:Nat}{ids:List Int}(h:za0 W (some ⟨b,off,none⟩) ids)(i:Nat):za0 W (some ⟨b,off+i,none⟩) (ids.drop i):=by
 intro j hj;simp at hj;obtain⟨b',off',e,hc⟩:=h (i+j) (by omega);simp at e;obtain⟨rfl,rfl⟩:=e;refine⟨b,off+i,rfl,?_⟩;rw[Nat.add_assoc,hc];simp[List.getD,List.getElem?_drop]
theorem yl7{W:World}{b off:Nat}{ids:List Int}(h:za0 W (some ⟨b,off,none⟩) ids)(i c2:Nat)(hc:ids.length<=c2):za0 W (if c2=i then some ⟨b,off,none⟩else some ⟨b,off+i,none⟩) (ids.drop i):=by
 by_cases e:c2=i
 ·rw[if_pos e,List.drop_eq_nil_of_le (by omega)]
  intro j hj;simp at hj
 ·rw[if_neg e]
  exact yb2 h i
theorem yh3(b off i c2:Nat):∃b' off',(if c2=i then some (⟨b,off,none⟩:Addr)else some ⟨b,off+i,none⟩)=some ⟨b',off',none⟩:=by
 split
 ·exact⟨_,_,rfl⟩
 ·exact⟨_,_,rfl⟩
theorem OX.keep{w W W':World}{B ko:Nat}{cs ts:Array Value}{r0 r1:Value}{veh:Int}{sl:Value}{ys:List Int}(h:OX w W B ko cs #[r0,r1] ts veh sl ys)(hg:W.grownBy W' sl.ownBlock):
 W'.cell? ⟨w.heap.size+1,1,none⟩=some r1/\W'.cell? ⟨ko,1,none⟩=some sl/\(∀i,W'.frozen? ⟨ko,i,none⟩=false):=by
 have hk:=(hg.block _ (za3 h.2.1) (fun e=>z76 h.2.2.2.2 h.2.1 e.symm)).trans h.2.1;have hc:=(h.1.grown hg (fun g e=>by have:=(h.2.2.2.2.lt g e).1;have:=h.2.2.2.1;omega)).1.2.2;exact⟨(za2 hc).2,(za2 hk).2,fun i=>frozen_of_row _ _ i _ _ hk⟩
theorem OX.size{w W:World}{B ko:Nat}{cs rs ts:Array Value}{veh:Int}{sl:Value}{ys:List Int}(h:OX w W B ko cs rs ts veh sl ys):B<=W.heap.size:=by
 have:=h.2.2.1;have:=za3 h.2.1;omega
theorem ox9{w W:World}{B ko:Nat}{c0 c1 c2 c3 c4 r0 r1:Value}{ts:Array Value}{veh:Int}{sl:Value}{ys:List Int}(h:OX w W B ko #[c0,c1,c2,c3,c4] #[r0,r1] ts veh sl ys):
 W.cell? ⟨w.heap.size,0,none⟩=some c0/\W.cell? ⟨w.heap.size,1,none⟩=some c1/\W.cell? ⟨w.heap.size,2,none⟩=some c2/\W.cell? ⟨w.heap.size,3,none⟩=some c3/\W.cell? ⟨w.heap.size,4,none⟩=some c4/\W.cell? ⟨w.heap.size+1,0,none⟩=some r0/\W.cell? ⟨w.heap.size+1,1,none⟩=some r1/\W.cell? ⟨ko,0,none⟩=some (.int .i64 veh)/\W.cell? ⟨ko,1,none⟩=some sl:=by
 obtain⟨k0,k1,k2,k3,k4⟩:=za8 h.1.1.2.1;obtain⟨k5,k6⟩:=za2 h.1.1.2.2;obtain⟨k7,k8⟩:=za2 h.2.1;exact⟨k0,k1,k2,k3,k4,k5,k6,k7,k8⟩
theorem yv4{w W:World}{B ko:Nat}{c0 c1 c2 c3 c4 r0 r1:Value}{ts:Array Value}{veh:Int}{sl:Value}{ys:List Int}(h:OX w W B ko #[c0,c1,c2,c3,c4] #[r0,r1] ts veh sl ys)(u1 u2:Value):
 (fun X:World=>X.cell? ⟨w.heap.size,0,none⟩=some c0/\X.cell? ⟨w.heap.size,1,none⟩=some c1/\X.cell? ⟨w.heap.size,2,none⟩=some c2/\X.cell? ⟨w.heap.size,3,none⟩=some c3/\X.cell? ⟨w.heap.size,4,none⟩=some c4/\X.cell? ⟨w.heap.size+1,0,none⟩=some r0/\X.cell? ⟨w.heap.size+1,1,none⟩=some r1/\X.cell? ⟨ko,0,none⟩=some (.int .i64 veh)/\X.cell? ⟨ko,1,none⟩=some sl) ((W.setCell ⟨w.heap.size+1+1,0,none⟩ u1).setCell ⟨w.heap.size+1+1,1,none⟩ u2):=by
 have hc:=h.1.set u1 u2;obtain⟨k0,k1,k2,k3,k4,k5,k6⟩:=cr7 hc;obtain⟨k7,k8⟩:=za2 h.2.1;have hne:ko≠w.heap.size+1+1:=by have:=h.2.2.1;have:=h.2.2.2.1;omega
 exact⟨k0,k1,k2,k3,k4,k5,k6,za4 (za4 k7 hne) hne,za4 (za4 k8 hne) hne⟩
theorem zB1{w:World}{base k n:Nat}{v:Value}{e:TypeId}{size:Nat}{xs:List Value}(h:w.ownsRow base e size v k xs)(hne:v≠.slice none 0 0)(hk:k=n):∃g c,v=.slice (some ⟨g,0,none⟩) n c:=by
 subst hk;rcases zk3 h with h1|h1
 ·exact absurd h1 hne
 ·exact h1
theorem zj2{w W w2:World}{row:Option Nat}{cs ts:Array Value}{r0 r1:Value}(hg:W.grownBy w2 row)(h:CRR w W cs #[r0,r1] ts)(hr:∀g,row=some g->w.heap.size+2<g):w2.cell? ⟨w.heap.size+1,0,none⟩=some r0/\w2.cell? ⟨w.heap.size+1,1,none⟩=some r1:=za2 (h.grown hg hr).1.2.2
def zh7(L:List Int)(x:Int):List Int:=L.filter (fun y=>decide (y≠x))
theorem zY5{L:List Int}{x:Int}{k:Nat}(hk:k<L.length)(h:L.getD k 0≠x):zh7 (L.take (k+1)) x=zh7 (L.take k) x++[L.getD k 0]:=by
 have e:L.take (k+1)=L.take k++[L.getD k 0]:=by
  rw[List.take_add_one,List.getD_eq_getElem?_getD,List.getElem?_eq_getElem hk];rfl
 unfold zh7;rw[e,List.filter_append];clear e;generalize L.getD k 0=y at*;simp[h]
theorem yd6{L:List Int}{x:Int}{k:Nat}(hk:k<L.length)(h:L.getD k 0=x):zh7 (L.take (k+1)) x=zh7 (L.take k) x:=by
 have e:L.take (k+1)=L.take k++[L.getD k 0]:=by
  rw[List.take_add_one,List.getD_eq_getElem?_getD,List.getElem?_eq_getElem hk];rfl
 unfold zh7;rw[e,List.filter_append];clear e;generalize L.getD k 0=y at*;simp[h]
theorem z00(L:List Int)(x:Int):(zh7 L x).length<=L.length:=List.length_filter_le _ _
theorem ye5(L:List Int)(x:Int)(k:Nat):(zh7 (L.take k) x).length<=k:=Nat.le_trans (z00 _ _) (List.length_take_le _ _)
theorem yi7{L:List Int}{x y:Int}(h:y∈zh7 L x):y∈L:=(List.mem_filter.1 h).1
set_option maxHeartbeats 2000000 in
theorem z43(bi:Option Addr)(c m:Nat)(L:List Int)(x:Int)(w:World)(hA:za0 w bi L)(hm:L.length=m)(hl:m<=900):
 Calls Tryz.prog 70 #[.slice bi m c,.int .i64 x] w fun e w'=>∃g cc,e=.returned (.slice (some ⟨g,0,none⟩) (zh7 L x).length cc)/\Below w.heap.size w w'/\w'.ownsRow w.heap.size 2 1 (.slice (some ⟨g,0,none⟩) (zh7 L x).length cc) (zh7 L x).length ((zh7 L x).map (Value.int .i64)):=by
 have HA:Hid (za0 w bi L):=hA;have HM:Hid (L.length=m):=hm;clear hA hm;have B1:Hid (Below w.heap.size w (w.alloc (.cells #[] 2))):=(Below.refl _ _).alloc (Nat.le_refl _) _;have O1:Hid ((w.alloc (.cells #[] 2)).ownsRow w.heap.size 2 1 (.slice (some ⟨w.heap.size,0,none⟩) 0 0) 0 (([]:List Int).map (Value.int .i64))):=World.ownsRow_made w #[] 0 (Nat.le_refl _) (by unfold maxLen;omega) (by simp);go_enter Tryz.func70,Tryz.ntmps70
 go_wp2_with fail
 go_loopw[5,6] (fun ts t wr=>∃(k g cc:Nat),k<=m/\t=.int .i64 k/\ts=.slice (some ⟨g,0,none⟩) (zh7 (L.take k) x).length cc/\Below w.heap.size w wr/\wr.ownsRow w.heap.size 2 1 (.slice (some ⟨g,0,none⟩) (zh7 (L.take k) x).length cc) (zh7 (L.take k) x).length ((zh7 (L.take k) x).map (Value.int .i64))) (fun _ t _=>m - (intOf t).toNat)
 case atStart=>exact⟨0,w.heap.size,0,Nat.zero_le _,rfl,rfl,B1.out,O1.out⟩
 case round=>
  clear B1 O1;obtain⟨k,g,cc,hk,rfl,rfl,hb,ho⟩:=hrel;have B2:Hid _:=hb;have O2:Hid (wr.ownsRow w.heap.size 2 1 (.slice (some ⟨g,0,none⟩) (zh7 (L.take k) x).length cc) (zh7 (L.take k) x).length ((zh7 (L.take k) x).map (Value.int .i64))):=ho;have hcl:=ye5 L x k;clear hb ho;by_cases hlt:k<m
  ·have hkI:(k:Int)<(m:Int):=by omega
   have hkL:k<L.length:=by rw[HM.out];exact hlt
   obtain⟨b,off,e,c1⟩:=(HA.below B2.out) k hkL;subst e;by_cases hx:L.getD k 0=x
   ·have HE:Hid _:=yd6 hkL hx
    rw[hx]at c1;have hxx:(x !=x)=false:=by simp
    clear hx;obtain⟨n,HN⟩:=nmd ((zh7 (L.take k) x).length);rw[HN.out]at O2 hcl⊢;go_wp2
    first
     |exact⟨⟨k+1,g,cc,by omega,by first|rfl|go_num,by rw[HE.out,HN.out],B2.out,by rw[HE.out,HN.out];exact O2.out⟩,by simp[intOf];omega⟩
     |(go_roundw
       case rel=>exact⟨k+1,g,cc,by omega,by first|rfl|go_num,by rw[HE.out,HN.out],B2.out,by rw[HE.out,HN.out];exact O2.out⟩
       case measure=>simp[intOf];omega)
   ·have HE:Hid _:=zY5 hkL hx
    obtain⟨y,HY⟩:=nmd (L.getD k 0);rw[HY.out]at c1 hx HE;have hxy:(y !=x)=true:=by simp[hx]
    obtain⟨n,HN⟩:=nmd ((zh7 (L.take k) x).length);rw[HN.out]at O2 hcl⊢;have B3:Hid (Below w.heap.size w (wr.alloc (.cells #[.int .i64 y] 2))):=B2.alloc B2.size _
    go_wp2_with(first
     |(at_builtin
       refine zf4 _ rfl (.tmp 20) (.tmp 25) rfl w.heap.size _ n (zh7 (L.take k) x) rfl (O2.alloc _) wr.heap.size 0 1 1 [y] rfl rfl (zk2 wr y) (by omega) (by omega) B3.size ?_;intro v4 w4 hown hg hbk hnl;have hbg:=(O2.lt g rfl).1;have B4:Hid _:=B3.grown hg B3.size (fun k e=>Nat.le_trans hbg (zS4 e));obtain⟨g4,c4,rfl⟩:=zQ0 hown (zC3 hnl ⟨_,_,_,rfl⟩);have O4:Hid (w4.ownsRow w.heap.size 2 1 (.slice (some ⟨g4,0,none⟩) (n+1) c4) (n+1) ((zh7 (L.take k) x++[y]).map (Value.int .i64))):=hown;clear hown hg hbk hnl hbg))
    have HL4:Hid ((zh7 (L.take k) x++[y]).length=n+1):=by show _=_;rw[List.length_append,HN.out];rfl
    first
     |exact⟨⟨k+1,g4,c4,by omega,by first|rfl|go_num,by rw[HE.out,HL4.out],B4.out,by rw[HE.out,HL4.out];exact O4.out⟩,by simp[intOf];omega⟩
     |(go_roundw
       case rel=>exact⟨k+1,g4,c4,by omega,by first|rfl|go_num,by rw[HE.out,HL4.out],B4.out,by rw[HE.out,HL4.out];exact O4.out⟩
       case measure=>simp[intOf];omega)
  ·have hkI:¬((k:Int)<(m:Int)):=by omega
   have hke:k=m:=by omega
   have O3:Hid (wr.ownsRow w.heap.size 2 1 (.slice (some ⟨g,0,none⟩) (zh7 L x).length cc) (zh7 L x).length ((zh7 L x).map (Value.int .i64))):=by
    have:=O2.out;rw[hke,<-HM.out,List.take_length]at this;exact this
   have HE:Hid ((zh7 (L.take k) x).length=(zh7 L x).length):=by show _=_;rw[hke,<-HM.out,List.take_length]
   rw[HE.out];obtain⟨n,HN⟩:=nmd ((zh7 L x).length);rw[HN.out]at O3⊢;clear hke;go_wp2;go_ret;exact⟨g,cc,by rw[HN.out];rfl,B2.out,by rw[HN.out];exact O3.out⟩
def zY6(os:List Int)(k:Nat):List Int:=(List.range k).map fun i=>og6 os i 0
theorem yb0(os:List Int)(k:Nat):zY6 os (k+1)=zY6 os k++[og6 os k 0]:=by simp[zY6,List.range_succ]
def EP(w W:World)(cs:Array Value):Prop:=Below w.heap.size w W/\W.heap[w.heap.size]? =some (.cells cs 30 (0,0))/\W.heap[w.heap.size+1]? =some (.cells #[Value.slice none 0 0,Value.slice none 0 0] 33 (0,0))
theorem EP.new(w:World)(cs:Array Value):EP w ((w.alloc (.cells cs 30)).alloc (.cells #[Value.slice none 0 0,Value.slice none 0 0] 33)) cs:=
 ⟨((Below.refl _ _).alloc (Nat.le_refl _) _).alloc (by simp) _,heap_alloc2_old _ _ _,heap_alloc2_new _ _ _⟩
theorem EP.below{w W W':World}{cs:Array Value}(h:EP w W cs)(hb:Below W.heap.size W W'):EP w W' cs:=
 ⟨h.1.trans (hb.mono h.1.size),za1 hb (za3 h.2.1) h.2.1,za1 hb (za3 h.2.2) h.2.2⟩
theorem EP.alloc{w W:World}{cs:Array Value}(h:EP w W cs)(o:Obj):EP w (W.alloc o) cs:=h.below ((Below.refl _ _).alloc (Nat.le_refl _) _)
theorem EP.b{w W:World}{cs:Array Value}(h:EP w W cs):Below w.heap.size w W:=h.1
theorem EP.grown{w W W':World}{cs:Array Value}{row:Option Nat}(h:EP w W cs)(hg:W.grownBy W' row)(hr:∀g,row=some g->w.heap.size+1<g):EP w W' cs:=
 ⟨h.1.grown hg h.1.size (fun k e=>by have:=hr k e;omega),(hg.block _ (za3 h.2.1) (fun e=>by have:=hr _ e.symm;omega)).trans h.2.1,(hg.block _ (za3 h.2.2) (fun e=>by have:=hr _ e.symm;omega)).trans h.2.2⟩
theorem EP.set{w W:World}{cs:Array Value}(h:EP w W cs){k i:Nat}{v:Value}(hk:w.heap.size+1<k):EP w (W.setCell ⟨k,i,none⟩ v) cs:=
 ⟨h.1.setCell (by simp;omega) _,za7 h.2.1 (by omega),za7 h.2.2 (by omega)⟩
set_option maxHeartbeats 2000000 in
theorem zC4(n fine:Int)(a ao av:Option Addr)(cap ko co kv cv:Nat)(zs os vs:List Int)(w:World)(hA:za0 w a zs)(hO:za0 w ao os)(hV:za0 w av vs)(hlo:os.length=ko*6)(hlv:vs.length=kv*5)(hko:ko<=9223372036854775807)(hkv:kv<=9223372036854775807)(cb:Bool)(K:Nat)(X:List Int)(hcb:zb8 n zs os vs ko kv fine=cb)(hK:(if cb=true then ko else 0)=K)(hX:(if cb=true then zY6 os ko else [])=X):
 Calls Tryz.prog 84 #[.agg #[.int .i64 n,.slice a zs.length cap,.slice ao ko co,.slice av kv cv,.int .i64 fine]] w fun e w'=>∃sl,e=.returned (.tuple #[.agg #[.slice none 0 0,sl],.bool cb])/\Below w.heap.size w w'/\w'.ownsRow w.heap.size 2 1 sl K (X.map (Value.int .i64)):=by
 have HA:Hid (za0 w a zs):=hA;have HO:Hid (za0 w ao os):=hO;have HV:Hid (za0 w av vs):=hV;have HLO:Hid _:=hlo;have HLV:Hid _:=hlv;clear hA hO hV hlo hlv;have HKK:Hid _:=hK;have HXX:Hid _:=hX;have HCB:Hid _:=hcb;clear hK hX hcb;have HE0:Hid (EP w ((w.alloc (.cells #[Value.int .i64 n,Value.slice a zs.length cap,Value.slice ao ko co,Value.slice av kv cv,Value.int .i64 fine] 30)).alloc (.cells #[Value.slice none 0 0,Value.slice none 0 0] 33)) _):=EP.new w _;go_enter Tryz.func84,Tryz.ntmps84;obtain⟨c0,c1,c2',c3,c4⟩:=za8 HE0.out.2.1
 go_wp2_with fail
 clear c0 c1 c2' c3 c4;refine(zr3 n fine a ao av cap ko co kv cv zs os vs _ (HA.out.below HE0.out.1) (HO.out.below HE0.out.1) (HV.out.below HE0.out.1) HLO.out HLV.out hko hkv).mono ?_;rintro e w1 ⟨rfl,hb⟩;have E1:Hid (EP w w1 _):=HE0.out.below hb;clear hb HE0;rw[HCB.out];cases cb
 ·have hk0:K=0:=HKK.out.symm.trans (if_neg (by simp))
  have hx0:X=[]:=HXX.out.symm.trans (if_neg (by simp));subst hk0 hx0;obtain⟨p0,p1⟩:=za2 E1.out.2.2;have pf:=fun i=>frozen_of_row _ _ i _ _ E1.out.2.2;go_wp2;refine bodyPost_ret (v:=.tuple #[.agg #[.slice none 0 0,.slice none 0 0],.bool false]) (by simp[results,Tryz.results84,go_sem,p0,p1]) rfl ⟨.slice none 0 0,rfl,?_,World.ownsRow_nil _ _ _ _⟩
  repeat(first|with_reducible exact E1.out.b|refine Below.setCell ?_ (by simp<;>omega) _)
 ·have hk1:K=ko:=HKK.out.symm.trans (if_pos rfl)
  have hx1:X=zY6 os ko:=HXX.out.symm.trans (if_pos rfl);subst hk1 hx1;have h12:K<=12:=(zh0 (zA7 HCB.out)).1;have E2:Hid (EP w (w1.alloc (Obj.cells #[Value.slice none 0 0,Value.slice none 0 0] 33)) _):=E1.out.alloc _;have PR2:Hid ((w1.alloc (Obj.cells #[Value.slice none 0 0,Value.slice none 0 0] 33)).heap[w1.heap.size]? =_):=heap_alloc_new _ _;have HBP:Hid _:=za3 E1.out.2.2;obtain⟨c0,c1,c2',c3,c4⟩:=za8 E2.out.2.1;clear E1
  go_wp2_with fail
  clear c0 c1 c2' c3 c4;generalize w1.alloc (Obj.cells #[Value.slice none 0 0,Value.slice none 0 0] 33)=W1 at*;generalize w1.heap.size=bp at*;go_loopw[5] (fun t wr=>∃(k:Nat) (sl:Value),k<=K/\t=.int .i64 k/\EP w wr #[Value.int .i64 n,Value.slice a zs.length cap,Value.slice ao K co,Value.slice av kv cv,Value.int .i64 fine]/\wr.heap[bp]? =some (.cells #[.slice none 0 0,sl] 33 (0,0))/\wr.ownsRow (bp+1) 2 1 sl k ((zY6 os k).map (Value.int .i64))) (fun t _=>K - (intOf t).toNat)
  case atStart=>exact⟨0,.slice none 0 0,Nat.zero_le _,rfl,E2.out,PR2.out,World.ownsRow_nil _ _ _ _⟩
  case round=>
   clear E2 PR2;obtain⟨k,sl,hk,rfl,he,hp,ho⟩:=hrel;have HE:Hid (EP w wr _):=he;have HP:Hid (wr.heap[bp]? =_):=hp;have HW:Hid (wr.ownsRow (bp+1) 2 1 sl k _):=ho;obtain⟨c0,c1,c2',c3,c4⟩:=za8 he.2.1;obtain⟨p0,p1⟩:=za2 hp;have pf:=fun i=>frozen_of_row _ _ i _ _ hp;clear he hp ho;by_cases hlt:k<K
   ·obtain⟨b,off,rfl,hcs⟩:=za0.some (za0.below HO.out HE.out.1) (j:=k*6) (by rw[HLO.out];omega)
    obtain⟨r0,r1,r2,r3,r4,r5⟩:=zq3 hcs HLO.out k hlt;clear hcs;have HNX:Hid _:=yb0 os k;have hlb:=block_lt_of_cell r0;simp at hlb;obtain⟨o0,H0⟩:=nmd (og6 os k 0);obtain⟨o1,H1⟩:=nmd (og6 os k 1);obtain⟨o2,H2⟩:=nmd (og6 os k 2);obtain⟨o3,H3⟩:=nmd (og6 os k 3);obtain⟨o4,H4⟩:=nmd (og6 os k 4);obtain⟨o5,H5⟩:=nmd (og6 os k 5);rw[H0.out]at HNX;rw[H0.out]at r0;rw[H1.out]at r1;rw[H2.out]at r2;rw[H3.out]at r3;rw[H4.out]at r4;rw[H5.out]at r5;have HLE:Hid (bp+1<=wr.heap.size):=za3 HP.out
    go_wp2_with fail
    obtain⟨s0,s1⟩:=za2 ((heap_alloc_old wr (Obj.cells #[Value.int .i64 o0] 2) (za3 HP.out)).trans HP.out)
    go_region_law ((
     refine z80 rfl (.tmp 19) (.tmp 26) rfl (bp+1) sl k _ (by simp[Act.eval]) (HW.out.drew.alloc _) ⟨wr.heap.size,0,none⟩ 1 (.int .i64 o0) (by simp[Act.eval]) (zl7 _ _ _ _ (by simp)) rfl (by omega) (Nat.le_trans HLE.out (by simp)) ?_;intro v' w4 hown4 hgrow4;obtain⟨gg',cc',rfl,hgg'⟩:=zj7 hown4;have hne:∀q,sl.ownBlock=some q->bp<q:=fun q e=>(HW.out.lt _ e).1;have hp4:w4.heap[bp]? =some (.cells #[.slice none 0 0,sl] 33 (0,0)):=(hgrow4.block _ (Nat.lt_of_lt_of_le (za3 HP.out) (by simp;try omega)) (fun e=>by have:=hne _ e.symm;omega)).trans ((heap_alloc_old _ _ (za3 HP.out)).trans HP.out);have HP4:Hid (w4.heap[bp]? =_):=hp4;obtain⟨u0,u1⟩:=za2 hp4;have uf:=fun i=>frozen_of_row _ _ i _ _ hp4;have HE4:Hid (EP w w4 _):=EP.grown (EP.below (HE.out.alloc _) (Below.refl _ _).drew) hgrow4 (fun q e=>by have:=hne q e;have:=HBP.out;omega);have HW4:Hid (w4.ownsRow (bp+1) 2 1 (.slice (some ⟨gg',0,none⟩) (k+1) cc') (k+1) _):=hown4;clear hp4 hown4 hgrow4 hne))
    all_goals
     go_wp2;go_roundw
     case rel=>
      refine⟨k+1,_,by omega,by go_num,HE4.out.set (by have:=HBP.out;omega),heap_setCell_same _ _ _ _ _ _ HP4.out,?_⟩;rw[HNX.out,List.map_append];exact ze5 HW4.out (by omega)
     case measure=>simp[intOf];omega
   ·have hkl:k=K:=by omega
    subst hkl;obtain⟨q0,q1⟩:=za2 HE.out.2.2;have qf:=fun i=>frozen_of_row _ _ i _ _ HE.out.2.2;have HRN:Hid (w.heap.size+1≠bp):=Nat.ne_of_lt HBP.out;rcases zk3 HW.out with rfl|⟨gq,cq,rfl⟩
    ·go_wp2
     refine bodyPost_ret (v:=.tuple #[.agg #[.slice none 0 0,.slice none 0 0],.bool true]) (by simp[results,Tryz.results84,go_sem,q0,q1]) rfl ⟨_,rfl,?_,?_⟩
     ·repeat(first|with_reducible exact HE.out.b|refine Below.setCell ?_ (by simp<;>omega) _)
     ·exact zb7 (ownsRow_setCell_below (ownsRow_setCell_below HW.out (by simp;have:=HBP.out;omega) _) (by simp;have:=HBP.out;omega) _) (by have:=HBP.out;omega)
    ·go_wp2
     refine bodyPost_ret (v:=.tuple #[.agg #[.slice none 0 0,.slice (some ⟨gq,0,none⟩) k cq],.bool true]) (by simp[results,Tryz.results84,go_sem,q0,q1]) rfl ⟨_,rfl,?_,?_⟩
     ·repeat(first|with_reducible exact HE.out.b|refine Below.setCell ?_ (by simp<;>omega) _)
     ·exact zb7 (ownsRow_setCell_below (ownsRow_setCell_below HW.out (by simp;have:=HBP.out;omega) _) (by simp;have:=HBP.out;omega) _) (by have:=HBP.out;omega)
theorem RD.kept2{w W W':World}{q c p p0:Nat}{a:Option Addr}{bs:List Int}{row:Option Nat}(h0:RD w q a bs c p0)(h:RD W q a bs c p)(hg:W.grownBy W' row)(hr:∀g,row=some g->w.heap.size<=g):RD W' q a bs c p:=by
 have hq:=za3 h0.1;refine⟨za5 hg h.1 (fun e=>by have:=hr q e.symm;omega),h.2.1,fun j hj=> ?_,h.2.2.2⟩;obtain⟨b,off,e,hne,hc,hv⟩:=h.2.2.1 j hj;obtain⟨b',off',e',_,hc',_⟩:=h0.2.2.1 j hj;have hb:b<w.heap.size:=by
  have:=block_lt_of_cell hc';rw[e]at e';simp at e';obtain⟨rfl,rfl⟩:=e';exact this
 exact⟨b,off,e,hne,hg.cell hc (fun e2=>by have:=hr b e2.symm;omega),hv⟩
theorem zc5{w W W':World}{q:Nat}{row:Option Nat}(h:w.grownBy W (some q))(hg:W.grownBy W' row)(hr:∀g,row=some g->w.heap.size<=g):w.grownBy W' (some q):=
 ⟨hg.os.trans h.os,hg.tape.trans h.tape,hg.output.trans h.output,Nat.le_trans h.size hg.size,fun k hk hne=>(hg.block k (Nat.lt_of_lt_of_le hk h.size) (fun e=>by have:=hr k e.symm;omega)).trans (h.block k hk hne)⟩
theorem zI9(W:World)(o:Obj):W.grownBy (W.alloc o) none:=⟨rfl,rfl,rfl,by simp,fun k hk _=>heap_alloc_old _ _ hk⟩
structure CL(w W:World)(q:Nat)(a:Option Addr)(bs:List Int)(c:Nat)(ov:Value)(O:List Int):Prop where
 g:w.grownBy W (some q)
 r0:∃p,RD w q a bs c p
 r:∃p,RD W q a bs c p
 o:W.ownsRow w.heap.size 2 1 ov O.length (O.map (Value.int .i64))
 so:∃g cg,ov=.slice (some ⟨g,0,none⟩) O.length cg
theorem z38(W:World)(x0 x1 x2 x3:Int)(T:TypeId)(y:Nat)(hy:y<4):(W.alloc (Obj.cells #[Value.int .i64 x0,Value.int .i64 x1,Value.int .i64 x2,Value.int .i64 x3] T)).cell? ⟨W.heap.size,y,none⟩=some (.int .i64 ([x0,x1,x2,x3].getD y 0)):=by
 have h:=heap_alloc_new W (Obj.cells #[Value.int .i64 x0,Value.int .i64 x1,Value.int .i64 x2,Value.int .i64 x3] T);rw[cell_of_row _ _ y _ _ _ h];rcases(show y=0∨y=1∨y=2∨y=3 from by omega)with rfl|rfl|rfl|rfl<;>rfl
theorem zx8(W:World)(x0 x1 x2:Int)(T:TypeId)(y:Nat)(hy:y<3):(W.alloc (Obj.cells #[Value.int .i64 x0,Value.int .i64 x1,Value.int .i64 x2] T)).cell? ⟨W.heap.size,y,none⟩=some (.int .i64 ([x0,x1,x2].getD y 0)):=by
 have h:=heap_alloc_new W (Obj.cells #[Value.int .i64 x0,Value.int .i64 x1,Value.int .i64 x2] T);rw[cell_of_row _ _ y _ _ _ h];rcases(show y=0∨y=1∨y=2 from by omega)with rfl|rfl|rfl<;>rfl
def ys0(w:World)(q:Nat)(a:Option Addr)(bs:List Int)(c:Nat)(e:Ending)(w':World):Prop:=∃(x y:Int) (p':Nat),e=.returned (.tuple #[.int .i64 x,.int .i64 y])/\RD w' q a bs c p'/\w.grownBy w' (some q)
set_option maxRecDepth 10000 in
set_option maxHeartbeats 1000000 in
theorem zQ9(q p c:Nat)(a:Option Addr)(bs:List Int)(w:World)(h:RD w q a bs c p):
 Calls Tryz.prog 83 #[.pointer (some ⟨q,0,none⟩)] w (ys0 w q a bs c):=by
 have H:Hid (RD w q a bs c p):=h;clear h;go_enter Tryz.func83,Tryz.ntmps83
 go_wp2_with fail
 refine(zb1 q p c 40 a bs w H.out (by omega)).mono ?_;rintro e w1 ⟨x,p1,rfl,hx0,hx1,hr,hg⟩;have R1:Hid (RD w1 q a bs c p1):=hr;have G1:Hid _:=hg;clear hr hg
 go_wp2_with fail
 refine(zj9 q p1 c 2 a bs w1 R1.out (by omega) (by omega)).mono ?_;rintro e w2 ⟨v,p2,rfl,hr,hg⟩;have R2:Hid (RD w2 q a bs c p2):=hr;have G2:Hid _:=zb0 G1.out hg;clear hr hg R1 G1;have HQ:Hid _:=za3 R2.out.1;cases v
 all_goals
  go_wp2_with fail
  go_region_with (first
   |(go_at_call 43
     with_reducible refine(zb1 q p2 c 4 a bs w2.drew (R2.out.below (Below.refl _ _).drew) (by omega)).mono ?_
     rintro e w3 ⟨y,p3,rfl,hy0,hy1,hr,hg⟩;obtain⟨y,rfl⟩:=Int.eq_ofNat_of_zero_le hy0;have hy4:y<4:=by omega
     have R3:Hid (RD w3 q a bs c p3):=hr;have G3:Hid _:=zb0 (zo6 G2.out) hg;have n3:=z38 w3 200 60 30 500 2 y hy4;obtain⟨z,HZ⟩:=nmd ([(200:Int),60,30,500].getD y 0);rw[HZ.out]at n3;clear hr hg hy0 hy1)
   |(go_at_call 43
     with_reducible refine(zb1 q p2 c 4 a bs (w2.alloc (Obj.cells #[Value.int .i64 200,Value.int .i64 60,Value.int .i64 30,Value.int .i64 500] 2)).drew (R2.out.below ((Below.refl _ _).alloc (Nat.le_refl _) _).drew) (by omega)).mono ?_
     rintro e w3 ⟨y,p3,rfl,hy0,hy1,hr,hg⟩;obtain⟨y,rfl⟩:=Int.eq_ofNat_of_zero_le hy0;have hy4:y<4:=by omega
     have R3:Hid (RD w3 q a bs c p3):=hr;have G3:Hid _:=zb0 (zo6 (zb0 G2.out (zm6 w2 _ q))) hg;have n3:=hg.cell (z38 w2.drew 200 60 30 500 2 y hy4) (fun e=>by have:=HQ.out;simp at e;omega);obtain⟨z,HZ⟩:=nmd ([(200:Int),60,30,500].getD y 0);rw[HZ.out]at n3;simp at n3;clear hr hg hy0 hy1))
  all_goals
   go_wp2;refine bodyPost_ret (results_tmp2 rfl _ _ _) rfl ?_
   first
    |exact⟨_,_,p3,rfl,R3.out,G3.out⟩
    |exact⟨_,_,p3,rfl,R3.out.below ((Below.refl _ _).alloc (Nat.le_refl _) _),zb0 G3.out (zm6 w3 _ q)⟩
theorem yc7:(Tryz.prog.info? 95).map (fun i=>(i.zero,i.size,i.bytes))=some (some (.agg #[Value.int .i64 0,Value.int .i64 0,Value.int .i64 0,Value.int .i64 0,Value.int .i64 0,Value.int .i64 0]),6,48):=by kernel_rfl
theorem yd5:(Tryz.prog.info? 41).map (fun i=>(i.zero,i.size,i.bytes))=some (some (.agg #[Value.int .i64 0,Value.int .i64 0,Value.int .i64 0,Value.int .i64 0,Value.int .i64 0]),5,40):=by kernel_rfl
theorem zA5(t e:TypeId)(z:Value)(size bytes:Nat)(hinfo:(Tryz.prog.info? e).map (fun i=>(i.zero,i.size,i.bytes))=some (some z,size,bytes))(hund:Tryz.prog.underlying t=some (.slice e))(hzc:z.cells.size=size)(hs0:0<size)(hby:bytes<=100)
 (w:World) {ops:Array Oper} {rest:List Oper} {o:Oper} {a:Act} {Q:Exit->Act->World->Prop}
 (hg:o.guard=none) (s x:Operand) (hop:o.op=Op.call {callee:=Callee.builtin Builtin.append,args:=#[s,x],argTypes:=#[t,t]})
 (base:Nat) (v:Value) (k:Nat) (xs:List Int) (hs:a.eval s=v) (hown:w.ownsRow base e size v k (xs.map (Value.int .i64))) (b c:Nat) (ys:List Int) (hx:a.eval x=.slice (some ⟨b,0,none⟩) 1 c)
 (hy:ys.length=size) (hc:za0 w (some ⟨b,0,none⟩) ys) (b1:k<=1000) (hb:base<=w.heap.size)
 (hK:∀v' w',w'.ownsRow base e size v' (k+1) ((xs++ys).map (Value.int .i64))->w.grownBy w' v.ownBlock->(v'.ownBlock=v.ownBlock∨v'.ownBlock=some w.heap.size)->v'≠.slice none 0 0->wpList Tryz.prog ops Q rest (a.put o.dst v') w'):
 wpList Tryz.prog ops Q (o::rest) a w:=by
 obtain⟨i0,hi,hz0,hz1,hz2⟩:=info_parts hinfo;have hnews:∀j u,(ys.map (Value.int .i64))[j]? =some u->w.cell? ((⟨b,0,none⟩:Addr).add j)=some u:=by
  intro j u hu;have hj:j<ys.length:=by
   rcases Nat.lt_or_ge j ys.length with h'|h'
   ·exact h'
   ·simp[List.getElem?_eq_none (by simpa using h':(ys.map (Value.int .i64)).length<=j)]at hu
  obtain⟨b',off',e,hcc⟩:=hc j hj;simp at e;obtain⟨rfl,rfl⟩:=e;have hadd:(⟨b,0,none⟩:Addr).add j=⟨b,0+j,none⟩:=by unfold Addr.add;split<;>simp_all
  rw[hadd,hcc,<-hu];simp[List.getD,hj]
 have h1c:∀u∈ys.map (Value.int .i64),u.oneCell'=true:=by simp[Value.oneCell']
 have hbb:(k+1)*bytes<=140737488355328:=by
  have:(k+1)*bytes<=1001*100:=Nat.mul_le_mul (by omega) hby;omega
 obtain⟨v',w',hrun,r1,r2,r3⟩:=run_append_own (P:=Tryz.prog) w base t o.type _ i0 _ size bytes hund hi hz0 hz1 hz2 hzc hs0 v k (xs.map (Value.int .i64)) hown ⟨b,0,none⟩ 1 c (ys.map (Value.int .i64)) (by simp[hy]) hnews h1c (by unfold maxLen;omega) hbb hb;have r4:=z02 (P:=Tryz.prog) w base t o.type _ i0 _ size bytes hund hi hz0 hz1 hz2 v k (xs.map (Value.int .i64)) hown ⟨b,0,none⟩ 1 c (ys.map (Value.int .i64)) (by simp[hy]) hnews h1c (by unfold maxLen;omega) hbb hrun;refine zs3 v' hg (zr7 s x _ v _ hop hs hx hrun) (hK v' w' (by rw[List.map_append];exact r1) r2 r4 ?_);intro e;exact absurd (r3.1 e).2 (by omega)
theorem zP6{w:World}{base n g c k size:Nat}{e:TypeId}{xs:List Int}(v:Int)(h:w.ownsRow base e size (.slice (some ⟨g,0,none⟩) n c) n (xs.map (Value.int .i64))):(w.setCell ⟨g,k,none⟩ (.int .i64 v)).ownsRow base e size (.slice (some ⟨g,0,none⟩) n c) n ((xs.set k v).map (Value.int .i64)):=by
 obtain⟨h0,⟨h1,_⟩|⟨g',cap,cur,h2,h3,h4,h5,h6,h7,h8⟩⟩:=h
 ·cases h1
 ·simp at h2
  obtain⟨rfl,rfl⟩:=h2;refine⟨by simpa using h0,.inr ⟨g,c,cur.setIfInBounds k (.int .i64 v),rfl,h3,heap_setCell_same w g k cur e _ h4,h5,h6,by simpa using h7,?_⟩⟩;rw[Array.toList_setIfInBounds,List.take_set,h8,List.map_set]
theorem zI6{w:World}{base n g c k size:Nat}{e:TypeId}{xs:List Int}(h:w.ownsRow base e size (.slice (some ⟨g,0,none⟩) n c) n (xs.map (Value.int .i64)))(hk:k<xs.length):w.cell? ⟨g,k,none⟩=some (.int .i64 (xs.getD k 0))/\w.frozen? ⟨g,k,none⟩=false:=by
 refine⟨?_,?_⟩
 ·obtain⟨_,_,e1,h1⟩:=zd2 h k hk
  simp at e1;obtain⟨rfl,rfl⟩:=e1;rw[Nat.zero_add]at h1;exact h1
 ·obtain⟨h0,⟨h1,_⟩|⟨g',cap,cur,h2,h3,h4,h5⟩⟩:=h
  ·cases h1
  ·simp at h2
   obtain⟨rfl,rfl⟩:=h2;exact frozen_of_row _ _ k _ _ h4
structure CD(w W:World)(q:Nat)(a:Option Addr)(bs:List Int)(c k:Nat)(n:Int)(g zl cg:Nat)(zs:List Int)(oo:Value)(ko:Nat)(O:List Int)(ov:Value)(kv:Nat)(V:List Int)(fi:Int):Prop where
 gr:w.grownBy W (some q)
 r0:∃p,RD w q a bs c p
 r:∃p,RD W q a bs c p
 b0:W.heap[w.heap.size]? =some (.cells #[.int .i64 0,.slice none 0 0,.slice none 0 0,.slice none 0 0,.int .i64 0] 30 (0,0))
 b1:W.heap[k]? =some (.cells #[.int .i64 n,.slice (some ⟨g,0,none⟩) zl cg,oo,ov,.int .i64 fi] 30 (0,0))
 h:w.heap.size<k/\w.heap.size<g/\k≠g/\0<zs.length
 i:za0 W (some ⟨g,0,none⟩) zs
 o:W.ownsRow (w.heap.size+1) 95 6 oo ko (O.map (Value.int .i64))
 v:W.ownsRow (w.heap.size+1) 41 5 ov kv (V.map (Value.int .i64))
 d1:∀b,oo.ownBlock=some b->b≠k/\b≠g
 d2:∀b,ov.ownBlock=some b->b≠k/\b≠g
 d3:∀b,oo.ownBlock=some b->ov.ownBlock≠some b
section
variable {w W W' w4:World} {q:Nat} {a:Option Addr} {bs:List Int} {c k:Nat} {n:Int} {g zl cg:Nat} {zs:List Int} {oo oo':Value} {ko:Nat} {O:List Int} {ov ov':Value} {kv:Nat} {V:List Int} {fi:Int}
theorem CD.lt(h:CD w W q a bs c k n g zl cg zs oo ko O ov kv V fi):q<w.heap.size:=by
 obtain⟨p,hr⟩:=h.r0;exact za3 hr.1
theorem CD.size(h:CD w W q a bs c k n g zl cg zs oo ko O ov kv V fi):w.heap.size+1<=W.heap.size:=za3 h.b0
theorem zh2{X X':World}{g:Nat}{xs:List Int}{row:Option Nat}(h:za0 X (some ⟨g,0,none⟩) xs)(hg:X.grownBy X' row)(hne:some g≠row):za0 X' (some ⟨g,0,none⟩) xs:=by
 intro j hj;obtain⟨b,off,e,hc⟩:=h j hj;simp at e;obtain⟨rfl,rfl⟩:=e;exact⟨g,0,rfl,hg.cell hc hne⟩
theorem CD.read{p:Nat}(h:CD w W q a bs c k n g zl cg zs oo ko O ov kv V fi)(hr:RD W' q a bs c p)(hg:W.grownBy W' (some q)):CD w W' q a bs c k n g zl cg zs oo ko O ov kv V fi:=by
 have hl:=h.lt;obtain⟨h1,h2,h3,h4⟩:=h.h;exact⟨zb0 h.gr hg,h.r0,⟨p,hr⟩,za5 hg h.b0 (fun e=>by injection e with e;omega),za5 hg h.b1 (fun e=>by injection e with e;omega),h.h,zh2 h.i hg (fun e=>by injection e with e;omega),h.o.kept hg (.inr fun e=>by have:=(h.o.lt q e).1;omega),h.v.kept hg (.inr fun e=>by have:=(h.v.lt q e).1;omega),h.d1,h.d2,h.d3⟩
theorem zl5{w W W':World}{q:Nat}(h:w.grownBy W (some q))(hb:Below W.heap.size W W'):w.grownBy W' (some q):=
 ⟨hb.os.trans h.os,hb.tape.trans h.tape,hb.output.trans h.output,Nat.le_trans h.size hb.size,fun k hk hne=>(hb.block k (Nat.lt_of_lt_of_le hk h.size)).trans (h.block k hk hne)⟩
theorem CD.below(h:CD w W q a bs c k n g zl cg zs oo ko O ov kv V fi)(hb:Below W.heap.size W W'):CD w W' q a bs c k n g zl cg zs oo ko O ov kv V fi:=by
 obtain⟨p,hr⟩:=h.r;exact⟨zl5 h.gr hb,h.r0,⟨p,hr.below hb⟩,za1 hb (za3 h.b0) h.b0,za1 hb (za3 h.b1) h.b1,h.h,h.i.below hb,zc2 h.o hb,zc2 h.v hb,h.d1,h.d2,h.d3⟩
theorem CD.cells(h:CD w W q a bs c k n g zl cg zs oo ko O ov kv V fi):(W.cell? ⟨k,0,none⟩=some (.int .i64 n)/\W.cell? ⟨k,1,none⟩=some (.slice (some ⟨g,0,none⟩) zl cg)/\W.cell? ⟨k,2,none⟩=some oo/\W.cell? ⟨k,3,none⟩=some ov/\W.cell? ⟨k,4,none⟩=some (.int .i64 fi))/\∀i,W.frozen? ⟨k,i,none⟩=false:=by
 have h0:=cell_of_row _ _ 0 _ _ _ h.b1;have h1:=cell_of_row _ _ 1 _ _ _ h.b1;have h2:=cell_of_row _ _ 2 _ _ _ h.b1;have h3:=cell_of_row _ _ 3 _ _ _ h.b1;have h4:=cell_of_row _ _ 4 _ _ _ h.b1;simp at h0 h1 h2 h3 h4;exact⟨⟨h0,h1,h2,h3,h4⟩,fun i=>frozen_of_row _ _ i _ _ h.b1⟩
theorem zg1{v:Value}{row:Option Nat}(h:∀b,row=some b->v.ownBlock≠some b):v.ownBlock=none∨v.ownBlock≠row:=by
 cases hv:v.ownBlock with
 |none=>exact .inl rfl
 |some x=>exact .inr fun e=>h x e.symm hv
theorem CD.aside{row:Option Nat}(h:CD w W q a bs c k n g zl cg zs oo ko O ov kv V fi)(hg:W.grownBy W' row)(hr:∀b,row=some b->w.heap.size+1<=b/\b≠k/\b≠g/\oo.ownBlock≠some b/\ov.ownBlock≠some b):CD w W' q a bs c k n g zl cg zs oo ko O ov kv V fi:=by
 obtain⟨p,hrd⟩:=h.r;obtain⟨p0,hr0⟩:=h.r0;have hrw:∀b,row=some b->w.heap.size<=b:=fun b e=>by have:=(hr b e).1;omega
 exact⟨zc5 h.gr hg hrw,h.r0,⟨p,RD.kept2 hr0 hrd hg hrw⟩,za5 hg h.b0 (fun e=>by have:=(hr _ e.symm).1;omega),za5 hg h.b1 (fun e=>(hr _ e.symm).2.1 rfl),h.h,zh2 h.i hg (fun e=>(hr _ e.symm).2.2.1 rfl),h.o.kept hg (zg1 fun b e=>(hr b e).2.2.2.1),h.v.kept hg (zg1 fun b e=>(hr b e).2.2.2.2),h.d1,h.d2,h.d3⟩
theorem zc6{X:World}{k i:Nat}{cs:Array Value}{T:TypeId}(v:Value)(h:X.heap[k]? =some (.cells cs T (0,0))):(X.setCell ⟨k,i,none⟩ v).heap[k]? =some (.cells (cs.setIfInBounds i v) T (0,0)):=heap_setCell_same X k i cs T v h
theorem CD.glt(h:CD w W q a bs c k n g zl cg zs oo ko O ov kv V fi):g<W.heap.size:=by
 obtain⟨b,off,e,hc⟩:=h.i 0 h.h.2.2.2;simp at e;obtain⟨rfl,rfl⟩:=e;exact block_lt_of_cell hc
theorem CD.putO{ob:Obj}{xs:List Int}(h:CD w W q a bs c k n g zl cg zs oo ko O ov kv V fi)(ho:w4.ownsRow (w.heap.size+1) 95 6 oo' (ko+1) ((O++xs).map (Value.int .i64)))(hg:(W.alloc ob).grownBy w4 oo.ownBlock)(hn:oo'.ownBlock=oo.ownBlock∨oo'.ownBlock=some (W.alloc ob).heap.size):CD w (w4.setCell ⟨k,2,none⟩ oo') q a bs c k n g zl cg zs oo' (ko+1) (O++xs) ov kv V fi:=by
 obtain⟨h1,h2,h3,h4⟩:=h.h;have hk:=za3 h.b1;have hA:CD w (W.alloc ob) q a bs c k n g zl cg zs oo ko O ov kv V fi:=h.below ((Below.refl _ _).alloc (Nat.le_refl _) _);obtain⟨p,hrd⟩:=hA.r;obtain⟨p0,hr0⟩:=h.r0;have hrw:∀b,oo.ownBlock=some b->w.heap.size<=b:=fun b e=>by have:=(h.o.lt b e).1;omega
 have hsw:∀b,some k=some b->w.heap.size<=b:=fun b e=>by injection e with e;omega
 have hs:=za9 w4 k 2 oo';have hgi:=h.glt;have hrd4:=RD.kept2 hr0 hrd hg hrw;have hov:=hA.v.kept hg (zg1 fun b e=>h.d3 b e);have hsz:(W.alloc ob).heap.size=W.heap.size+1:=by simp
 refine⟨zc5 (zc5 hA.gr hg hrw) hs hsw,h.r0,⟨p,RD.kept2 hr0 hrd4 hs hsw⟩,?_,?_,h.h,?_,?_,?_,?_,h.d2,?_⟩
 ·exact za5 hs (za5 hg hA.b0 (fun e=>by have:=(h.o.lt _ e.symm).1;omega)) (fun e=>by injection e with e;omega)
 ·have:=zc6 (i:=2) oo' (za5 hg hA.b1 (fun e=>(h.d1 _ e.symm).1 rfl))
  simpa using this
 ·exact zh2 (zh2 hA.i hg (fun e=>(h.d1 _ e.symm).2 rfl)) hs (fun e=>by injection e with e;omega)
 ·refine ho.kept hs (zg1 fun b e=> ?_)
  injection e with e
  subst e;intro e2;rcases hn with hn|hn
  ·rw[hn]at e2;exact(h.d1 _ e2).1 rfl
  ·rw[hn,hsz]at e2;injection e2 with e2;omega
 ·refine hov.kept hs (zg1 fun b e=> ?_)
  injection e with e
  subst e;intro e2;exact(h.d2 _ e2).1 rfl
 ·intro b e2
  rcases hn with hn|hn
  ·rw[hn]at e2;exact h.d1 _ e2
  ·rw[hn,hsz]at e2
   injection e2 with e2
   refine⟨by omega,?_⟩;omega
 ·intro b e2 e3
  rcases hn with hn|hn
  ·rw[hn]at e2;exact h.d3 _ e2 e3
  ·rw[hn,hsz]at e2
   injection e2 with e2
   have:=(h.v.lt _ e3).2;omega
theorem CD.putV{ob:Obj}{xs:List Int}(h:CD w W q a bs c k n g zl cg zs oo ko O ov kv V fi)(ho:w4.ownsRow (w.heap.size+1) 41 5 ov' (kv+1) ((V++xs).map (Value.int .i64)))(hg:(W.alloc ob).grownBy w4 ov.ownBlock)(hn:ov'.ownBlock=ov.ownBlock∨ov'.ownBlock=some (W.alloc ob).heap.size):CD w (w4.setCell ⟨k,3,none⟩ ov') q a bs c k n g zl cg zs oo ko O ov' (kv+1) (V++xs) fi:=by
 obtain⟨h1,h2,h3,h4⟩:=h.h;have hk:=za3 h.b1;have hA:CD w (W.alloc ob) q a bs c k n g zl cg zs oo ko O ov kv V fi:=h.below ((Below.refl _ _).alloc (Nat.le_refl _) _);obtain⟨p,hrd⟩:=hA.r;obtain⟨p0,hr0⟩:=h.r0;have hrw:∀b,ov.ownBlock=some b->w.heap.size<=b:=fun b e=>by have:=(h.v.lt b e).1;omega
 have hsw:∀b,some k=some b->w.heap.size<=b:=fun b e=>by injection e with e;omega
 have hs:=za9 w4 k 3 ov';have hgi:=h.glt;have hrd4:=RD.kept2 hr0 hrd hg hrw;have hov:=hA.o.kept hg (zg1 fun b e e2=>h.d3 b e2 e);have hsz:(W.alloc ob).heap.size=W.heap.size+1:=by simp
 refine⟨zc5 (zc5 hA.gr hg hrw) hs hsw,h.r0,⟨p,RD.kept2 hr0 hrd4 hs hsw⟩,?_,?_,h.h,?_,?_,?_,h.d1,?_,?_⟩
 ·exact za5 hs (za5 hg hA.b0 (fun e=>by have:=(h.v.lt _ e.symm).1;omega)) (fun e=>by injection e with e;omega)
 ·have:=zc6 (i:=3) ov' (za5 hg hA.b1 (fun e=>(h.d2 _ e.symm).1 rfl))
  simpa using this
 ·exact zh2 (zh2 hA.i hg (fun e=>(h.d2 _ e.symm).2 rfl)) hs (fun e=>by injection e with e;omega)
 ·refine hov.kept hs (zg1 fun b e=> ?_)
  injection e with e
  subst e;intro e2;exact(h.d1 _ e2).1 rfl
 ·refine ho.kept hs (zg1 fun b e=> ?_)
  injection e with e
  subst e;intro e2;rcases hn with hn|hn
  ·rw[hn]at e2;exact(h.d2 _ e2).1 rfl
  ·rw[hn,hsz]at e2;injection e2 with e2;omega
 ·intro b e2
  rcases hn with hn|hn
  ·rw[hn]at e2;exact h.d2 _ e2
  ·rw[hn,hsz]at e2
   injection e2 with e2
   refine⟨by omega,?_⟩;omega
 ·intro b e3 e2
  rcases hn with hn|hn
  ·rw[hn]at e2;exact h.d3 _ e3 e2
  ·rw[hn,hsz]at e2
   injection e2 with e2
   have:=(h.o.lt _ e3).2;omega
theorem CD.setF(x:Int)(h:CD w W q a bs c k n g zl cg zs oo ko O ov kv V fi):CD w (W.setCell ⟨k,4,none⟩ (.int .i64 x)) q a bs c k n g zl cg zs oo ko O ov kv V x:=by
 obtain⟨h1,h2,h3,h4⟩:=h.h;obtain⟨p,hrd⟩:=h.r;obtain⟨p0,hr0⟩:=h.r0;have hs:=za9 W k 4 (.int .i64 x);have hsw:∀b,some k=some b->w.heap.size<=b:=fun b e=>by injection e with e;omega
 refine⟨zc5 h.gr hs hsw,h.r0,⟨p,RD.kept2 hr0 hrd hs hsw⟩,za5 hs h.b0 (fun e=>by injection e with e;omega),?_,h.h,zh2 h.i hs (fun e=>by injection e with e;omega),h.o.kept hs (zg1 fun b e e2=>by injection e with e;subst e;exact(h.d1 _ e2).1 rfl),h.v.kept hs (zg1 fun b e e2=>by injection e with e;subst e;exact(h.d2 _ e2).1 rfl),h.d1,h.d2,h.d3⟩;have:=zc6 (i:=4) (.int .i64 x) h.b1;simpa using this
theorem CD.setO{go co:Nat}(j:Nat)(x:Int)(h:CD w W q a bs c k n g zl cg zs (.slice (some ⟨go,0,none⟩) ko co) ko O ov kv V fi):CD w (W.setCell ⟨go,j,none⟩ (.int .i64 x)) q a bs c k n g zl cg zs (.slice (some ⟨go,0,none⟩) ko co) ko (O.set j x) ov kv V fi:=by
 obtain⟨h1,h2,h3,h4⟩:=h.h;obtain⟨p,hrd⟩:=h.r;obtain⟨p0,hr0⟩:=h.r0;have hgo:=(h.o.lt go rfl).1;have hd:=h.d1 go rfl;have hs:=za9 W go j (.int .i64 x);have hsw:∀b,some go=some b->w.heap.size<=b:=fun b e=>by injection e with e;omega
 refine⟨zc5 h.gr hs hsw,h.r0,⟨p,RD.kept2 hr0 hrd hs hsw⟩,za5 hs h.b0 (fun e=>by injection e with e;omega),za5 hs h.b1 (fun e=>by injection e with e;omega),h.h,zh2 h.i hs (fun e=>by injection e with e;omega),zP6 x h.o,h.v.kept hs (zg1 fun b e e2=>by injection e with e;subst e;exact h.d3 _ rfl e2),h.d1,h.d2,h.d3⟩
theorem CD.setV{gv cv:Nat}(j:Nat)(x:Int)(h:CD w W q a bs c k n g zl cg zs oo ko O (.slice (some ⟨gv,0,none⟩) kv cv) kv V fi):CD w (W.setCell ⟨gv,j,none⟩ (.int .i64 x)) q a bs c k n g zl cg zs oo ko O (.slice (some ⟨gv,0,none⟩) kv cv) kv (V.set j x) fi:=by
 obtain⟨h1,h2,h3,h4⟩:=h.h;obtain⟨p,hrd⟩:=h.r;obtain⟨p0,hr0⟩:=h.r0;have hgo:=(h.v.lt gv rfl).1;have hd:=h.d2 gv rfl;have hs:=za9 W gv j (.int .i64 x);have hsw:∀b,some gv=some b->w.heap.size<=b:=fun b e=>by injection e with e;omega
 refine⟨zc5 h.gr hs hsw,h.r0,⟨p,RD.kept2 hr0 hrd hs hsw⟩,za5 hs h.b0 (fun e=>by injection e with e;omega),za5 hs h.b1 (fun e=>by injection e with e;omega),h.h,zh2 h.i hs (fun e=>by injection e with e;omega),h.o.kept hs (zg1 fun b e e2=>by injection e with e;subst e;exact h.d3 _ e2 rfl),zP6 x h.v,h.d1,h.d2,h.d3⟩
end
theorem zG8(w:World){ops:Array Oper}{rest:List Oper}{o:Oper}{a:Act}{Q:Exit->Act->World->Prop}
 (hg:o.guard=none) (s x:Operand) (hop:o.op=Op.call {callee:=Callee.builtin Builtin.append,args:=#[s,x],argTypes:=#[24,24]})
 (base:Nat) (v:Value) (k:Nat) (xs:List Int) (hs:a.eval s=v) (hown:w.ownsRow base 2 1 v k (xs.map (Value.int .i64))) (b c:Nat) (id:Int) (hx:a.eval x=.slice (some ⟨b,0,none⟩) 1 c)
 (hc:w.cell? ⟨b,0,none⟩=some (.int .i64 id)) (b1:k<=1000) (hb:base<=w.heap.size)
 (hK:∀v' w',w'.ownsRow base 2 1 v' (k+1) ((xs++[id]).map (Value.int .i64))->w.grownBy w' v.ownBlock->(v'=.slice none 0 0↔v=.slice none 0 0/\1=0)->wpList Tryz.prog ops Q rest (a.put o.dst v') w'):
 wpList Tryz.prog ops Q (o::rest) a w:=by
 obtain⟨i0,hi,hz0,hz1,hz2⟩:=zn7;refine wpList_append_own w hg s x _ hop base _ i0 _ 1 8 Tryz.underlying24 hi hz0 hz1 hz2 rfl (by decide) v k _ hs hown ⟨b,0,none⟩ 1 c [.int .i64 id] hx rfl ?_ (by simp[Value.oneCell']) (by unfold maxLen;omega) (by omega) hb (fun v' w' h1 h2 h3=>hK v' w' (by rw[List.map_append];exact h1) h2 h3);intro j u hu;have hj:j=0:=by
  rcases j with _|j
  ·rfl
  ·simp at hu
 subst hj;have hadd:(⟨b,0,none⟩:Addr).add 0=⟨b,0,none⟩:=by unfold Addr.add;split<;>simp_all
 rw[hadd,hc];simpa using hu
set_option maxHeartbeats 1000000 in
theorem zw5(n fine veh:Int)(a ao av bi:Option Addr)(cap ko co kv cv c2:Nat)(zs os vs ids:List Int)(w:World)(hA:za0 w a zs)(hO:za0 w ao os)(hV:za0 w av vs)(hI:za0 w bi ids)(hlo:os.length=ko*6)(hlv:vs.length=kv*5)(hko:ko<=9223372036854775807)(hkv:kv<=9223372036854775807)(hli:ids.length<=9223372036854775807)(hc2:ids.length<=c2)(v:Bool)(hv:decide (codeV (zb8 n zs os vs ko kv fine) n zs os vs ko kv veh ids=0)=v):
 Calls Tryz.prog 56 #[.agg #[.int .i64 n,.slice a zs.length cap,.slice ao ko co,.slice av kv cv,.int .i64 fine],.agg #[.int .i64 veh,.slice bi ids.length c2]] w fun e w'=>e=.returned (.bool v)/\Below w.heap.size w w':=by
 have HA:Hid (za0 w a zs):=hA;have HO:Hid (za0 w ao os):=hO;have HV:Hid (za0 w av vs):=hV;have HI:Hid (za0 w bi ids):=hI;have HLO:Hid _:=hlo;have HLV:Hid _:=hlv;clear hA hO hV hI hlo hlv;have HVV:Hid _:=hv;clear hv;have HC0:Hid (CR w ((w.alloc (.cells #[Value.int .i64 n,Value.slice a zs.length cap,Value.slice ao ko co,Value.slice av kv cv,Value.int .i64 fine] 30)).alloc (.cells #[Value.int .i64 veh,Value.slice bi ids.length c2] 43)) _ _):=CR.new w _ _;go_enter Tryz.func56,Tryz.ntmps56;obtain⟨c0,c1,c2',c3,c4⟩:=za8 HC0.2.1;obtain⟨d0,d1⟩:=za2 HC0.2.2
 go_wp2_with fail
 clear c0 c1 c2' c3 c4 d0 d1;refine(z15 n fine veh a ao av bi cap ko co kv cv c2 zs os vs ids _ (HA.below HC0.1) (HO.below HC0.1) (HV.below HC0.1) (HI.below HC0.1) HLO.out HLV.out hko hkv hli hc2).mono ?_;rintro e w2 ⟨hb,⟨hf,rfl⟩|⟨hf,g,c,_,rfl,_⟩⟩
 ·have HB2:Hid _:=HC0.1.trans (hb.mono HC0.1.size)
  have HVF:Hid _:=HVV.symm.trans (decide_eq_false hf);generalize codeV (zb8 n zs os vs ko kv fine) n zs os vs ko kv veh ids=r at*;have hfb:(r==0)=false:=by simp[hf]
  clear hb hf HC0 HVV;go_wp2;go_ret;exact⟨zb4 HVF.symm,HB2.out⟩
 ·have HB2:Hid _:=HC0.1.trans (hb.mono HC0.1.size)
  have HVF:Hid _:=HVV.symm.trans (decide_eq_true hf);clear hb hf HC0 HVV;generalize homeV n zs (zc4 os ko ids) ids.length (zb5 vs kv veh 1) (zb5 vs kv veh 3)=hm;go_wp2;go_ret;exact⟨zb4 HVF.symm,HB2.out⟩
set_option maxHeartbeats 1000000 in
theorem zt4(n fine veh:Int)(a ao av bi:Option Addr)(cap ko co kv cv c2:Nat)(zs os vs ids:List Int)(w:World)(hA:za0 w a zs)(hO:za0 w ao os)(hV:za0 w av vs)(hI:za0 w bi ids)(hlo:os.length=ko*6)(hlv:vs.length=kv*5)(hko:ko<=9223372036854775807)(hkv:kv<=9223372036854775807)(hli:ids.length<=9223372036854775807)(hcode:codeV (zb8 n zs os vs ko kv fine) n zs os vs ko kv veh ids=0):
 Calls Tryz.prog 107 #[.agg #[.int .i64 n,.slice a zs.length cap,.slice ao ko co,.slice av kv cv,.int .i64 fine],.agg #[.int .i64 veh,.slice bi ids.length c2]] w fun e w'=>e=.returned (.int .i64 (zn3 n zs (zc4 os ko ids) ids.length (zb5 vs kv veh 1)))/\Below w.heap.size w w':=by
 have HA:Hid (za0 w a zs):=hA;have HO:Hid (za0 w ao os):=hO;have HV:Hid (za0 w av vs):=hV;have HI:Hid (za0 w bi ids):=hI;have HLO:Hid _:=hlo;have HLV:Hid _:=hlv;clear hA hO hV hI hlo hlv;have HC0:Hid (CR w ((w.alloc (.cells #[Value.int .i64 n,Value.slice a zs.length cap,Value.slice ao ko co,Value.slice av kv cv,Value.int .i64 fine] 30)).alloc (.cells #[Value.int .i64 veh,Value.slice bi ids.length c2] 43)) _ _):=CR.new w _ _;obtain⟨hcb,_,hstB⟩:=zg2 (zi3 hcode).1;obtain⟨hmat,hords,hvehs,hn1,_⟩:=zc7 hcb;have hvb:=zp2 hvehs hn1 veh;have HMAT:Hid _:=hmat;have HOB:Hid _:=hords;have HN1:Hid (1<=n):=hn1;have h12:=(zf5 hstB).1;clear hmat hords hvehs hn1 hcb hstB hcode;obtain⟨r,HV1⟩:=nmd (zn3 n zs (zc4 os ko ids) ids.length (zb5 vs kv veh 1));rw[HV1.out];go_enter Tryz.func107,Tryz.ntmps107;obtain⟨c0,c1,c2',c3,c4⟩:=za8 HC0.2.1;obtain⟨d0,d1⟩:=za2 HC0.2.2
 go_wp2_with fail
 clear c0 c1 c2' c3 c4 d0 d1;refine(z35 n fine veh a ao av _ cap ko co kv cv vs _ (HV.below HC0.1) HLV.out hkv).mono ?_;rintro e w2 ⟨rfl,hb⟩;obtain⟨v0,G0⟩:=nmd (zb5 vs kv veh 0);obtain⟨v1,G1⟩:=nmd (zb5 vs kv veh 1);obtain⟨v2,G2⟩:=nmd (zb5 vs kv veh 2);obtain⟨v3,G3⟩:=nmd (zb5 vs kv veh 3);obtain⟨v4,G4⟩:=nmd (zb5 vs kv veh 4);rw[G1.out,G2.out,G3.out,G4.out]at hvb;rw[G1.out]at HV1;rw[G0.out,G1.out,G2.out,G3.out,G4.out];generalize fnd5T vs kv veh=tv;have HX1:Hid _:=hvb.1;clear hvb;have C3:Hid (CR w (w2.alloc (Obj.cells #[Value.int .i64 v0,Value.int .i64 v1,Value.int .i64 v2,Value.int .i64 v3,Value.int .i64 v4] 41)) _ _):=CR.alloc (HC0.below hb) _;have RV3:Hid ((w2.alloc (Obj.cells #[Value.int .i64 v0,Value.int .i64 v1,Value.int .i64 v2,Value.int .i64 v3,Value.int .i64 v4] 41)).heap[w2.heap.size]? =_):=heap_alloc_new _ _;clear hb HC0;obtain⟨q0,q1,q2,q3,q4⟩:=za8 RV3.out
 go_wp2_with fail
 clear q0 q1 q2 q3 q4;generalize w2.alloc (Obj.cells #[Value.int .i64 v0,Value.int .i64 v1,Value.int .i64 v2,Value.int .i64 v3,Value.int .i64 v4] 41)=W2 at*;generalize w2.heap.size=gv at*;have HBD:Hid (zq7 n (zc4 os ko ids) ids.length):=zw9 HOB.out HN1.out ids;go_loopw[7,8,9] (fun pl sm t wr=>∃k:Nat,k<=ids.length/\t=.int .i64 k/\pl=.int .i64 (plc (zc4 os ko ids) v1 k)/\sm=.int .i64 (zm3 n zs (zc4 os ko ids) v1 k)/\CR w wr #[Value.int .i64 n,Value.slice a zs.length cap,Value.slice ao ko co,Value.slice av kv cv,Value.int .i64 fine] #[Value.int .i64 veh,Value.slice bi ids.length c2]/\wr.heap[gv]? =some (.cells #[Value.int .i64 v0,Value.int .i64 v1,Value.int .i64 v2,Value.int .i64 v3,Value.int .i64 v4] 41 (0,0))) (fun _ _ t _=>ids.length - (intOf t).toNat)
 case atStart=>exact⟨0,Nat.zero_le _,rfl,rfl,rfl,C3.out,RV3.out⟩
 case round=>
  clear C3 RV3;obtain⟨k,hk,rfl,rfl,rfl,hb,hrv⟩:=hrel;have hpl:=zJ7 HBD.out HX1.1 HX1.2 k hk;have hcb:=zw7 (ros:=(zc4 os ko ids)) (home:=v1) HMAT.out k;have HB:Hid (CR w wr _ _):=hb;have HRV:Hid (wr.heap[gv]? =_):=hrv;obtain⟨c0,c1,c2',c3,c4⟩:=za8 hb.2.1;obtain⟨d0,d1⟩:=za2 hb.2.2;obtain⟨p,HPL⟩:=nmd (plc (zc4 os ko ids) v1 k);obtain⟨f,HFR⟩:=nmd (zm3 n zs (zc4 os ko ids) v1 k);rw[HPL.out]at hpl;rw[HFR.out]at hcb;rw[HPL.out,HFR.out];have HPB:Hid _:=hpl;clear hb hrv hpl;by_cases hlt:k<ids.length
  ·obtain⟨b,off,rfl,hcs⟩:=za0.some (za0.below HI.out HB.1) hlt
   have ct:=hcs k hlt;clear hcs;obtain⟨id,HID⟩:=nmd (ids.getD k 0);rw[HID.out]at ct;have HO1:=(zG0 HOB.out HN1.out id).1;obtain⟨o0,H0⟩:=nmd (zc3 os ko id 0);obtain⟨o1,H1⟩:=nmd (zc3 os ko id 1);obtain⟨o2,H2⟩:=nmd (zc3 os ko id 2);obtain⟨o3,H3⟩:=nmd (zc3 os ko id 3);obtain⟨o4,H4⟩:=nmd (zc3 os ko id 4);obtain⟨o5,H5⟩:=nmd (zc3 os ko id 5);rw[H1.out]at HO1;have HO1:Hid _:=HO1;obtain⟨d,HD⟩:=nmd (tmI n zs p o1);have hdb:=zr5 HMAT.out p o1;rw[HD.out]at hdb;have K1:Hid (og6 (zc4 os ko ids) k 1=o1):=(zh1 os ko ids hlt (by omega)).trans (by rw[HID.out];exact H1.out);have HNX:Hid (zm3 n zs (zc4 os ko ids) v1 (k+1)=f+d):=by
    show _=_;simp only[zm3];rw[HFR.out,HPL.out,K1.out,HD.out]
   obtain⟨tt,HTT⟩:=nmd (zi8 os ko id)
   go_wp2_with fail
   have HCT:Hid (wr.cell? ⟨b,off+k,none⟩=_):=ct;have HCA:Hid ((wr.alloc (Obj.cells #[Value.int .i64 0,Value.int .i64 0,Value.int .i64 0,Value.int .i64 0,Value.int .i64 0,Value.int .i64 0] 95)).cell? ⟨b,off+k,none⟩=_):=(((Below.refl wr.heap.size wr).alloc (Nat.le_refl _) _).cell (p:=⟨b,off+k,none⟩) (block_lt_of_cell ct)).trans ct;have HVA:Hid ((wr.alloc (Obj.cells #[Value.int .i64 0,Value.int .i64 0,Value.int .i64 0,Value.int .i64 0,Value.int .i64 0,Value.int .i64 0] 95)).heap[gv]? =_):=(heap_alloc_old _ _ (za3 HRV.out)).trans HRV.out;have hlb:=block_lt_of_cell ct;simp at hlb;have hlw:=za3 HB.2.1;have hlr:=za3 HB.2.2
   go_region_held3 (fun W=>W.cell? ⟨w.heap.size,0,none⟩=some (.int .i64 n)/\W.cell? ⟨w.heap.size,1,none⟩=some (.slice a zs.length cap)/\W.cell? ⟨w.heap.size,2,none⟩=some (.slice ao ko co)/\W.cell? ⟨w.heap.size,3,none⟩=some (.slice av kv cv)/\W.cell? ⟨w.heap.size,4,none⟩=some (.int .i64 fine)/\W.cell? ⟨w.heap.size+1,1,none⟩=some (.slice (some ⟨b,off,none⟩) ids.length c2)/\W.cell? ⟨b,off+k,none⟩=some (.int .i64 id)) (first|with_reducible exact kS|with_reducible exact⟨(za4 (za4 (za4 (za4 (za4 (za4 kS.1 (Nat.ne_of_lt hlw)) (Nat.ne_of_lt hlw)) (Nat.ne_of_lt hlw)) (Nat.ne_of_lt hlw)) (Nat.ne_of_lt hlw)) (Nat.ne_of_lt hlw)),(za4 (za4 (za4 (za4 (za4 (za4 kS.2.1 (Nat.ne_of_lt hlw)) (Nat.ne_of_lt hlw)) (Nat.ne_of_lt hlw)) (Nat.ne_of_lt hlw)) (Nat.ne_of_lt hlw)) (Nat.ne_of_lt hlw)),(za4 (za4 (za4 (za4 (za4 (za4 kS.2.2.1 (Nat.ne_of_lt hlw)) (Nat.ne_of_lt hlw)) (Nat.ne_of_lt hlw)) (Nat.ne_of_lt hlw)) (Nat.ne_of_lt hlw)) (Nat.ne_of_lt hlw)),(za4 (za4 (za4 (za4 (za4 (za4 kS.2.2.2.1 (Nat.ne_of_lt hlw)) (Nat.ne_of_lt hlw)) (Nat.ne_of_lt hlw)) (Nat.ne_of_lt hlw)) (Nat.ne_of_lt hlw)) (Nat.ne_of_lt hlw)),(za4 (za4 (za4 (za4 (za4 (za4 kS.2.2.2.2.1 (Nat.ne_of_lt hlw)) (Nat.ne_of_lt hlw)) (Nat.ne_of_lt hlw)) (Nat.ne_of_lt hlw)) (Nat.ne_of_lt hlw)) (Nat.ne_of_lt hlw)),(za4 (za4 (za4 (za4 (za4 (za4 kS.2.2.2.2.2.1 (Nat.ne_of_lt hlr)) (Nat.ne_of_lt hlr)) (Nat.ne_of_lt hlr)) (Nat.ne_of_lt hlr)) (Nat.ne_of_lt hlr)) (Nat.ne_of_lt hlr)),(za4 (za4 (za4 (za4 (za4 (za4 kS.2.2.2.2.2.2 (Nat.ne_of_lt hlb)) (Nat.ne_of_lt hlb)) (Nat.ne_of_lt hlb)) (Nat.ne_of_lt hlb)) (Nat.ne_of_lt hlb)) (Nat.ne_of_lt hlb))⟩|go_keep) ((first
    |(go_at_call 58
      with_reducible refine(zn6 n fine id a ao av _ cap ko co kv cv os wr.drew ?_ HLO.out hko).mono ?_
      ·exact HO.below HB.1.drew
      rintro e w2 ⟨rfl,hb2⟩;rw[H0.out,H1.out,H2.out,H3.out,H4.out,H5.out,HTT.out];have hcr2:=CR.below (CR.drew HB.out) hb2;obtain⟨k0,k1,k2,k3,k4⟩:=za8 hcr2.2.1;have k5:=(za2 hcr2.2.2).2;have k6:=(hb2.cell (p:=⟨b,off+k,none⟩) (block_lt_of_cell HCT.out)).trans HCT.out;have kS:=And.intro k0 (And.intro k1 (And.intro k2 (And.intro k3 (And.intro k4 (And.intro k5 k6)))));have CR2:Hid (CR w w2 _ _):=hcr2;have RV2:Hid (w2.heap[gv]? =_):=za1 hb2 (za3 HRV.out) HRV.out;clear hb2 hcr2 k0 k1 k2 k3 k4 k5 k6)
    |(go_at_call 58
      with_reducible refine(zn6 n fine id a ao av _ cap ko co kv cv os (wr.alloc (Obj.cells #[Value.int .i64 0,Value.int .i64 0,Value.int .i64 0,Value.int .i64 0,Value.int .i64 0,Value.int .i64 0] 95)).drew ?_ HLO.out hko).mono ?_
      ·exact HO.below (CR.alloc HB.out (Obj.cells #[Value.int .i64 0,Value.int .i64 0,Value.int .i64 0,Value.int .i64 0,Value.int .i64 0,Value.int .i64 0] 95)).1.drew
      rintro e w2 ⟨rfl,hb2⟩;rw[H0.out,H1.out,H2.out,H3.out,H4.out,H5.out,HTT.out];have hcr2:=CR.below (CR.drew (CR.alloc HB.out (Obj.cells #[Value.int .i64 0,Value.int .i64 0,Value.int .i64 0,Value.int .i64 0,Value.int .i64 0,Value.int .i64 0] 95))) hb2;obtain⟨k0,k1,k2,k3,k4⟩:=za8 hcr2.2.1;have k5:=(za2 hcr2.2.2).2;have k6:=(hb2.cell (p:=⟨b,off+k,none⟩) (block_lt_of_cell HCA.out)).trans HCA.out;have kS:=And.intro k0 (And.intro k1 (And.intro k2 (And.intro k3 (And.intro k4 (And.intro k5 k6)))));have CR2:Hid (CR w w2 _ _):=hcr2;have RV2:Hid (w2.heap[gv]? =_):=za1 hb2 (za3 HVA.out) HVA.out;obtain⟨z0,z1,z2,z3,z4,z5⟩:=zf8 (za1 hb2 (k:=wr.heap.size) (by simp) (heap_alloc_new wr (Obj.cells #[Value.int .i64 0,Value.int .i64 0,Value.int .i64 0,Value.int .i64 0,Value.int .i64 0,Value.int .i64 0] 95)));have zf:=fun i=>frozen_of_row _ _ i _ _ (za1 hb2 (k:=wr.heap.size) (by simp) (heap_alloc_new wr (Obj.cells #[Value.int .i64 0,Value.int .i64 0,Value.int .i64 0,Value.int .i64 0,Value.int .i64 0,Value.int .i64 0] 95)))
      have RO2:Hid (w2.heap[wr.heap.size]? =_):=za1 hb2 (k:=wr.heap.size) (by simp) (heap_alloc_new wr (Obj.cells #[Value.int .i64 0,Value.int .i64 0,Value.int .i64 0,Value.int .i64 0,Value.int .i64 0,Value.int .i64 0] 95));clear hb2 hcr2 k0 k1 k2 k3 k4 k5 k6)))
   all_goals(first
    |(have CRW:Hid (CR w (World.setCell (World.setCell (World.setCell (World.setCell (World.setCell (World.setCell w2 ⟨wr.heap.size,0,none⟩ (Value.int .i64 o0)) ⟨wr.heap.size,1,none⟩ (Value.int .i64 o1)) ⟨wr.heap.size,2,none⟩ (Value.int .i64 o2)) ⟨wr.heap.size,3,none⟩ (Value.int .i64 o3)) ⟨wr.heap.size,4,none⟩ (Value.int .i64 o4)) ⟨wr.heap.size,5,none⟩ (Value.int .i64 o5)) _ _):=CR.set (CR.set (CR.set (CR.set (CR.set (CR.set CR2.out HB.big) HB.big) HB.big) HB.big) HB.big) HB.big
      have RVW:Hid ((World.setCell (World.setCell (World.setCell (World.setCell (World.setCell (World.setCell w2 ⟨wr.heap.size,0,none⟩ (Value.int .i64 o0)) ⟨wr.heap.size,1,none⟩ (Value.int .i64 o1)) ⟨wr.heap.size,2,none⟩ (Value.int .i64 o2)) ⟨wr.heap.size,3,none⟩ (Value.int .i64 o3)) ⟨wr.heap.size,4,none⟩ (Value.int .i64 o4)) ⟨wr.heap.size,5,none⟩ (Value.int .i64 o5)).heap[gv]? =_):=za7 (za7 (za7 (za7 (za7 (za7 RV2.out (Nat.ne_of_lt (za3 HRV.out))) (Nat.ne_of_lt (za3 HRV.out))) (Nat.ne_of_lt (za3 HRV.out))) (Nat.ne_of_lt (za3 HRV.out))) (Nat.ne_of_lt (za3 HRV.out))) (Nat.ne_of_lt (za3 HRV.out));have ROW:Hid ((World.setCell (World.setCell (World.setCell (World.setCell (World.setCell (World.setCell w2 ⟨wr.heap.size,0,none⟩ (Value.int .i64 o0)) ⟨wr.heap.size,1,none⟩ (Value.int .i64 o1)) ⟨wr.heap.size,2,none⟩ (Value.int .i64 o2)) ⟨wr.heap.size,3,none⟩ (Value.int .i64 o3)) ⟨wr.heap.size,4,none⟩ (Value.int .i64 o4)) ⟨wr.heap.size,5,none⟩ (Value.int .i64 o5)).heap[wr.heap.size]? =_):=zE4 RO2.out;clear kS CR2 RV2 RO2 HCT HCA HVA ct z0 z1 z2 z3 z4 z5 zf;generalize(World.setCell (World.setCell (World.setCell (World.setCell (World.setCell (World.setCell w2 ⟨wr.heap.size,0,none⟩ (Value.int .i64 o0)) ⟨wr.heap.size,1,none⟩ (Value.int .i64 o1)) ⟨wr.heap.size,2,none⟩ (Value.int .i64 o2)) ⟨wr.heap.size,3,none⟩ (Value.int .i64 o3)) ⟨wr.heap.size,4,none⟩ (Value.int .i64 o4)) ⟨wr.heap.size,5,none⟩ (Value.int .i64 o5))=W at*;generalize wr.heap.size=g at*)
    |(have CRW:Hid (CR w (w2.alloc (Obj.cells #[Value.int .i64 o0,Value.int .i64 o1,Value.int .i64 o2,Value.int .i64 o3,Value.int .i64 o4,Value.int .i64 o5] 95)) _ _):=CR.alloc CR2.out _
      have RVW:Hid ((w2.alloc (Obj.cells #[Value.int .i64 o0,Value.int .i64 o1,Value.int .i64 o2,Value.int .i64 o3,Value.int .i64 o4,Value.int .i64 o5] 95)).heap[gv]? =_):=(heap_alloc_old _ _ (za3 RV2.out)).trans RV2.out;have ROW:Hid ((w2.alloc (Obj.cells #[Value.int .i64 o0,Value.int .i64 o1,Value.int .i64 o2,Value.int .i64 o3,Value.int .i64 o4,Value.int .i64 o5] 95)).heap[w2.heap.size]? =_):=heap_alloc_new _ _;clear kS CR2 RV2 HCT HCA HVA ct;generalize w2.alloc (Obj.cells #[Value.int .i64 o0,Value.int .i64 o1,Value.int .i64 o2,Value.int .i64 o3,Value.int .i64 o4,Value.int .i64 o5] 95)=W at*;generalize w2.heap.size=g at*))
   all_goals
    clear c0 c1 c2' c3 c4 d0 d1 hlw hlr hlb HTT;generalize tt=tt';obtain⟨c0,c1,c2',c3,c4⟩:=za8 CRW.2.1;obtain⟨p0,p1,p2,p3,p4,p5⟩:=zf8 ROW.out
    go_wp2_with fail
    clear c0 c1 c2' c3 c4 p0 p1 p2 p3 p4 p5;refine(zt0 n p o1 _ _ zs _ d HD.out HMAT.out HPB.out HO1.out (HA.below CRW.1)).mono ?_;rintro e W3 ⟨rfl,hb3⟩;have CR3:Hid (CR w W3 _ _):=CRW.below hb3;have RV3:Hid (W3.heap[gv]? =_):=za1 hb3 (za3 RVW.out) RVW.out;have RO3:Hid (W3.heap[g]? =_):=za1 hb3 (za3 ROW.out) ROW.out;clear hb3 CRW RVW ROW;obtain⟨p0,p1,p2,p3,p4,p5⟩:=zf8 RO3.out;go_wp2;go_roundw
    case rel=>exact⟨k+1,by omega,by go_num,by rw[<-K1.out];rfl,by rw[HNX.out],CR3.out,RV3.out⟩
    case measure=>simp[intOf];omega
  ·have hkl:k=ids.length:=by omega
   obtain⟨q0,q1,q2,q3,q4⟩:=za8 HRV.out;have HE:Hid (r=f+tmI n zs p v1):=by
    have:=HV1.out;unfold zn3 at this;rw[<-hkl,HFR.out,HPL.out]at this;exact this.symm
   clear hkl;obtain⟨d,HD⟩:=nmd (tmI n zs p v1);have hdb:=zr5 HMAT.out p v1;rw[HD.out]at hdb HE
   go_wp2_with fail
   refine(zt0 n p v1 _ _ zs _ d HD.out HMAT.out HPB.out HX1.out (HA.below HB.1)).mono ?_;rintro e W3 ⟨rfl,hb3⟩;have HB3:Hid _:=HB.1.trans (hb3.mono HB.1.size);clear hb3;go_wp2;go_ret;exact⟨zm7 HE.symm,HB3.out⟩
theorem zZ1{n fi:Int}{zs O V:List Int}{ko kv:Nat}(h:zb8 n zs O V ko kv fi=true):∀x∈zY6 O ko,-9223372036854775808<=x/\x<9223372036854775808:=fun x hx=>by
 unfold zb8 at h;simp only[Bool.and_eq_true]at h;obtain⟨_,ht⟩:=zh0 h.1.1.2;unfold zY6 at hx;obtain⟨i,hi,rfl⟩:=List.mem_map.1 hx;have:=(ht i (List.mem_range.1 hi)).1;unfold z64 inB at this;simp only[Bool.and_eq_true,decide_eq_true_eq]at this;omega
set_option maxHeartbeats 1000000 in
theorem zM9(n fine:Int)(a ao av bi:Option Addr)(cap ko co kv cv c2:Nat)(zs os ids:List Int)(w:World)(hO:za0 w ao os)(hI:za0 w bi ids)(hlo:os.length=ko*6)(hko:ko<=9223372036854775807)(hli:ids.length<=9223372036854775807)(hc2:ids.length<=c2):
 Calls Tryz.prog 139 #[.agg #[.int .i64 n,.slice a zs.length cap,.slice ao ko co,.slice av kv cv,.int .i64 fine],.slice bi ids.length c2] w fun e w'=>Below w.heap.size w w'/\((zl8 os ko ids=false/\e=.returned (.tuple #[.slice none 0 0,.bool false]))∨(zl8 os ko ids=true/\e=.returned (.tuple #[.slice (some ⟨w.heap.size+1,0,none⟩) ids.length ids.length,.bool true])/\za0 w' (some ⟨w.heap.size+1,0,none⟩) (zc4 os ko ids))):=by
 have HO:Hid (za0 w ao os):=hO;have HI:Hid (za0 w bi ids):=hI;have HLO:Hid _:=hlo;clear hO hI hlo;have HB0:Hid (Below w.heap.size w (w.alloc (Obj.cells #[Value.int .i64 n,Value.slice a zs.length cap,Value.slice ao ko co,Value.slice av kv cv,Value.int .i64 fine] 30))):=(Below.refl _ _).alloc (Nat.le_refl _) _;have HP0:Hid ((w.alloc (Obj.cells #[Value.int .i64 n,Value.slice a zs.length cap,Value.slice ao ko co,Value.slice av kv cv,Value.int .i64 fine] 30)).heap[w.heap.size]? =_):=heap_alloc_new _ _;by_cases h12:ids.length<=12
 ·go_enter Tryz.func139,Tryz.ntmps139
  go_wp2_with(first
   |(at_make;refine zN0 _ rfl _ _ rfl (w.heap.size+1) .i64 .i64 _ ids.length rfl rfl rfl (by omega) (by simp) ?_;intro w1 hown0 hgrow0))
  have HB1:Hid _:=HB0.grown hgrow0 HB0.size (fun k e=>by cases e);have HP1:Hid (w1.heap[w.heap.size]? =_):=za5 hgrow0 HP0.out (by simp);have HW1:Hid (w1.ownsRow (w.heap.size+1) 95 6 (.slice (some ⟨w.heap.size+1,0,none⟩) 0 ids.length) 0 []):=by
   show w1.ownsRow _ _ _ _ _ _;simpa using hown0
  clear hown0 hgrow0 HB0 HP0;go_loopw[6,19] (fun sl t wr=>∃k:Nat,k<=ids.length/\t=.int .i64 k/\sl=.slice (some ⟨w.heap.size+1,0,none⟩) k ids.length/\zm9 os ko ids k/\Below w.heap.size w wr/\wr.heap[w.heap.size]? =some (.cells #[Value.int .i64 n,Value.slice a zs.length cap,Value.slice ao ko co,Value.slice av kv cv,Value.int .i64 fine] 30 (0,0))/\wr.ownsRow (w.heap.size+1) 95 6 (.slice (some ⟨w.heap.size+1,0,none⟩) k ids.length) k (((zc4 os ko ids).take (k*6)).map (Value.int .i64))) (fun _ t _=>ids.length - (intOf t).toNat)
  case atStart=>exact⟨0,Nat.zero_le _,rfl,rfl,z03 _ _ _,HB1.out,HP1.out,by simpa using HW1.out⟩
  case round=>
   clear HB1 HP1 HW1;obtain⟨k,hk,rfl,rfl,hth,hb,hp,hw⟩:=hrel;have HT:Hid (zm9 os ko ids k):=hth;have HB:Hid _:=hb;have HP:Hid (wr.heap[w.heap.size]? =_):=hp;have HW:Hid (wr.ownsRow (w.heap.size+1) 95 6 (.slice (some ⟨w.heap.size+1,0,none⟩) k ids.length) k (((zc4 os ko ids).take (k*6)).map (Value.int .i64))):=hw;obtain⟨c0,c1,c2',c3,c4⟩:=za8 hp;clear hth hb hp hw;by_cases hlt:k<ids.length
   ·obtain⟨b,off,rfl,hcs⟩:=za0.some (za0.below HI.out HB.out) hlt
    have ct:=hcs k hlt;clear hcs;obtain⟨id,HID⟩:=nmd (ids.getD k 0);rw[HID.out]at ct;have hkc:k<=c2:=by omega
    obtain⟨o0,H0⟩:=nmd (zc3 os ko id 0);obtain⟨o1,H1⟩:=nmd (zc3 os ko id 1);obtain⟨o2,H2⟩:=nmd (zc3 os ko id 2);obtain⟨o3,H3⟩:=nmd (zc3 os ko id 3);obtain⟨o4,H4⟩:=nmd (zc3 os ko id 4);obtain⟨o5,H5⟩:=nmd (zc3 os ko id 5);obtain⟨tt,HTT⟩:=nmd (zi8 os ko id)
    go_wp2_with fail
    refine(zw3 n fine id a ao av _ cap ko co kv cv os _ (HO.below HB.out) HLO.out hko).mono ?_;rintro e w2 ⟨rfl,hb2⟩;rw[H0.out,H1.out,H2.out,H3.out,H4.out,H5.out,HTT.out];have HB2:Hid (Below w.heap.size w (w2.alloc (Obj.cells #[Value.int .i64 o0,Value.int .i64 o1,Value.int .i64 o2,Value.int .i64 o3,Value.int .i64 o4,Value.int .i64 o5] 95))):=(HB.trans (hb2.mono HB.size)).alloc (Nat.le_trans HB.size hb2.size) _;have HP2:Hid ((w2.alloc (Obj.cells #[Value.int .i64 o0,Value.int .i64 o1,Value.int .i64 o2,Value.int .i64 o3,Value.int .i64 o4,Value.int .i64 o5] 95)).heap[w.heap.size]? =_):=(heap_alloc_old _ _ (za3 (za1 hb2 (za3 HP.out) HP.out))).trans (za1 hb2 (za3 HP.out) HP.out);have HW2:Hid ((w2.alloc (Obj.cells #[Value.int .i64 o0,Value.int .i64 o1,Value.int .i64 o2,Value.int .i64 o3,Value.int .i64 o4,Value.int .i64 o5] 95)).ownsRow _ _ _ _ _ _):=(zc2 HW.out hb2).alloc _;have HRO:Hid ((w2.alloc (Obj.cells #[Value.int .i64 o0,Value.int .i64 o1,Value.int .i64 o2,Value.int .i64 o3,Value.int .i64 o4,Value.int .i64 o5] 95)).heap[w2.heap.size]? =_):=heap_alloc_new _ _;obtain⟨p0,p1,p2,p3,p4,p5⟩:=zf8 HRO.out;clear hb2 c0 c1 c2' c3 c4 ct;cases tt
    ·have HN:Hid _:=zs4 hlt (zs8 HID.out HTT.out rfl)
     go_wp2;go_ret2;exact⟨HB2.out,.inl ⟨HN.out,rfl⟩⟩
    ·obtain⟨hh,HH⟩:=nmd (zr8 ids k id)
     cases hh
     ·have HS1:Hid (zm9 os ko ids (k+1)):=z07 HT.out (zs8 HID.out HTT.out HH.out)
      go_wp2_with(first
       |(go_at_call 147;refine(z04 _ k _ id ids _ (HI.below HB2.out) hk (by omega)).mono ?_;rintro e w3 ⟨rfl,rfl⟩;rw[HH.out])
       |(at_builtin;refine zE7 _ rfl _ _ rfl (w.heap.size+1) (w.heap.size+1) k ids.length _ rfl (HW2.alloc _) _ 1 1 [Value.int .i64 o0,Value.int .i64 o1,Value.int .i64 o2,Value.int .i64 o3,Value.int .i64 o4,Value.int .i64 o5] rfl rfl (zW6 _ _ _ _ _ _ _ _ _ (by simp)) (by simp[Value.oneCell']) (by omega) ?_;intro w4 hown4 hgrow4))
      have hne:some w.heap.size≠some (w.heap.size+1):=by simp
      refine⟨⟨k+1,by omega,by go_num,rfl,HS1.out,(HB2.alloc HB2.size _).grown hgrow4 (Nat.le_trans HB2.size (by simp)) (fun j e=>by cases e;omega),za5 hgrow4 ((heap_alloc_old _ _ (za3 HP2.out)).trans HP2.out) (by simp),?_⟩,by simp[intOf];omega⟩;rw[yi6 os ko ids hlt HID.out H0.out H1.out H2.out H3.out H4.out H5.out]at hown4;exact hown4
     ·have HN:Hid _:=zs4 hlt (zs8 HID.out HTT.out HH.out)
      go_wp2_with(first
       |(go_at_call 147;refine(z04 _ k _ id ids _ (HI.below HB2.out) hk (by omega)).mono ?_;rintro e w3 ⟨rfl,rfl⟩;rw[HH.out]))
      go_ret2;exact⟨HB2.out,.inl ⟨HN.out,rfl⟩⟩
   ·have hkl:k=ids.length:=by omega
    have HN:Hid _:=zA0 h12 (hkl▸HT.out);subst hkl;go_wp2;go_ret2;refine⟨HB.out,.inr ⟨HN.out,rfl,?_⟩⟩;have:=HW.out;rw[List.take_of_length_le (by rw[zg6];omega)]at this;exact zd2 this
 ·have HN:Hid (zl8 os ko ids=false):=z65 h12
  go_enter Tryz.func139,Tryz.ntmps139;go_wp2;go_ret2;exact⟨HB0.out,.inl ⟨HN.out,rfl⟩⟩
def CRT(w W:World)(cs rs ts:Array Value):Prop:=CR w W cs rs/\W.heap[w.heap.size+2]? =some (.cells ts 60 (0,0))
theorem CRT.new(w:World)(cs rs ts:Array Value):CRT w (((w.alloc (.cells cs 30)).alloc (.cells rs 43)).alloc (.cells ts 60)) cs rs ts:=by
 refine⟨(CR.new w cs rs).alloc _,?_⟩;have:=heap_alloc_new ((w.alloc (.cells cs 30)).alloc (.cells rs 43)) (.cells ts 60);simpa using this
theorem CRT.below{w W W':World}{cs rs ts:Array Value}(h:CRT w W cs rs ts)(hb:Below W.heap.size W W'):CRT w W' cs rs ts:=
 ⟨h.1.below hb,za1 hb (za3 h.2) h.2⟩
theorem CRT.b{w W:World}{cs rs ts:Array Value}(h:CRT w W cs rs ts):Below w.heap.size w W:=h.1.1
theorem CRT.alloc{w W:World}{cs rs ts:Array Value}(h:CRT w W cs rs ts)(o:Obj):CRT w (W.alloc o) cs rs ts:=h.below ((Below.refl _ _).alloc (Nat.le_refl _) _)
set_option maxHeartbeats 1000000 in
theorem z89(n fine veh:Int)(a ao av bi:Option Addr)(cap ko co kv cv c2:Nat)(zs os vs ids:List Int)(w:World)(hA:za0 w a zs)(hO:za0 w ao os)(hV:za0 w av vs)(hI:za0 w bi ids)(hlo:os.length=ko*6)(hlv:vs.length=kv*5)(hko:ko<=9223372036854775807)(hkv:kv<=9223372036854775807)(hli:ids.length<=9223372036854775807)(hc2:ids.length<=c2)(hcB:zb8 n zs os vs ko kv fine=true):
 Calls Tryz.prog 115 #[.agg #[.int .i64 n,.slice a zs.length cap,.slice ao ko co,.slice av kv cv,.int .i64 fine],.agg #[.int .i64 veh,.slice bi ids.length c2]] w fun e w'=>Below w.heap.size w w'/\((zi9 true vs os kv ko veh ids≠0/\e=.returned (.tuple #[.agg #[Value.int .i64 0,Value.slice none 0 0,Value.int .i64 0,Value.int .i64 0,Value.int .i64 0,Value.int .i64 0,Value.int .i64 0,Value.slice none 0 0],.int .i64 (zi9 true vs os kv ko veh ids)]))∨(zi9 true vs os kv ko veh ids=0/\∃g,w.heap.size<=g/\e=.returned (.tuple #[.agg #[.int .i64 n,.slice a zs.length cap,.int .i64 (zb5 vs kv veh 0),.int .i64 (zb5 vs kv veh 1),.int .i64 (zb5 vs kv veh 2),.int .i64 (zb5 vs kv veh 3),.int .i64 (zb5 vs kv veh 4),.slice (some ⟨g,0,none⟩) ids.length ids.length],.int .i64 0])/\za0 w' (some ⟨g,0,none⟩) (zc4 os ko ids))):=by
 have HA:Hid (za0 w a zs):=hA;have HO:Hid (za0 w ao os):=hO;have HV:Hid (za0 w av vs):=hV;have HI:Hid (za0 w bi ids):=hI;have HLO:Hid _:=hlo;have HLV:Hid _:=hlv;clear hA hO hV hI hlo hlv;have HC:Hid _:=hcB;clear hcB;have HC0:Hid (CRT w (((w.alloc (.cells #[Value.int .i64 n,Value.slice a zs.length cap,Value.slice ao ko co,Value.slice av kv cv,Value.int .i64 fine] 30)).alloc (.cells #[Value.int .i64 veh,Value.slice bi ids.length c2] 43)).alloc (.cells #[Value.int .i64 0,Value.slice none 0 0,Value.int .i64 0,Value.int .i64 0,Value.int .i64 0,Value.int .i64 0,Value.int .i64 0,Value.slice none 0 0] 60)) _ _ _):=CRT.new w _ _ _;obtain⟨r,HR⟩:=nmd (zi9 true vs os kv ko veh ids);rw[HR.out];go_enter Tryz.func115,Tryz.ntmps115;obtain⟨c0,c1,c2',c3,c4⟩:=za8 HC0.out.1.2.1;obtain⟨d0,d1⟩:=za2 HC0.out.1.2.2
 go_wp2_with fail
 clear c0 c1 c2' c3 c4 d0 d1;refine(z57 n fine veh a ao av _ cap ko co kv cv vs _ (HV.out.below HC0.out.1.1) HLV.out hkv).mono ?_;rintro e w2 ⟨rfl,hb⟩;obtain⟨v0,G0⟩:=nmd (zb5 vs kv veh 0);obtain⟨v1,G1⟩:=nmd (zb5 vs kv veh 1);obtain⟨v2,G2⟩:=nmd (zb5 vs kv veh 2);obtain⟨v3,G3⟩:=nmd (zb5 vs kv veh 3);obtain⟨v4,G4⟩:=nmd (zb5 vs kv veh 4);rw[G0.out,G1.out,G2.out,G3.out,G4.out];have C2:Hid (CRT w (w2.alloc (Obj.cells #[Value.int .i64 v0,Value.int .i64 v1,Value.int .i64 v2,Value.int .i64 v3,Value.int .i64 v4] 41)) _ _ _):=(HC0.out.below hb).alloc _;have RV2:Hid ((w2.alloc (Obj.cells #[Value.int .i64 v0,Value.int .i64 v1,Value.int .i64 v2,Value.int .i64 v3,Value.int .i64 v4] 41)).heap[w2.heap.size]? =_):=heap_alloc_new _ _;clear hb HC0;obtain⟨t0,t1,t2,t3,t4,t5,t6,t7⟩:=zg4 C2.out.2;have tf:=fun i=>frozen_of_row _ _ i _ _ C2.out.2;cases ht:fnd5T vs kv veh
 ·have HV1:Hid _:=HR.out.symm.trans (zY7 rfl ht)
  go_wp2;refine bodyPost_ret (v:=.tuple #[.agg #[Value.int .i64 0,Value.slice none 0 0,Value.int .i64 0,Value.int .i64 0,Value.int .i64 0,Value.int .i64 0,Value.int .i64 0,Value.slice none 0 0],.int .i64 2]) (by simp[results,Tryz.results115,go_sem,t0,t1,t2,t3,t4,t5,t6,t7]) rfl ⟨?_,.inl ⟨by rw[HV1.out];decide,by rw[HV1.out]⟩⟩
  repeat(first|with_reducible exact C2.out.b|refine Below.setCell ?_ (by simp<;>omega) _)
 ·have HT5:Hid _:=ht
  clear ht;obtain⟨c0,c1,c2',c3,c4⟩:=za8 C2.out.1.2.1;obtain⟨d0,d1⟩:=za2 C2.out.1.2.2
  go_wp2_with fail
  clear c0 c1 c2' c3 c4 d0 d1 t0 t1 t2 t3 t4 t5 t6 t7 tf;generalize w2.alloc (Obj.cells #[Value.int .i64 v0,Value.int .i64 v1,Value.int .i64 v2,Value.int .i64 v3,Value.int .i64 v4] 41)=W2 at*;generalize w2.heap.size=gv at*;refine(zM9 n fine a ao av bi cap ko co kv cv c2 zs os ids W2 (HO.out.below C2.out.1.1) (HI.out.below C2.out.1.1) HLO.out hko hli hc2).mono ?_;rintro e w3 ⟨hb,⟨hst,rfl⟩|⟨hst,rfl,hros⟩⟩
  ·have C3:Hid (CRT w w3 _ _ _):=C2.out.below hb
   have HV1:Hid _:=HR.out.symm.trans (zF3 rfl HT5.out hst);obtain⟨t0,t1,t2,t3,t4,t5,t6,t7⟩:=zg4 C3.out.2;have tf:=fun i=>frozen_of_row _ _ i _ _ C3.out.2;clear hb hst;go_wp2;refine bodyPost_ret (v:=.tuple #[.agg #[Value.int .i64 0,Value.slice none 0 0,Value.int .i64 0,Value.int .i64 0,Value.int .i64 0,Value.int .i64 0,Value.int .i64 0,Value.slice none 0 0],.int .i64 3]) (by simp[results,Tryz.results115,go_sem,t0,t1,t2,t3,t4,t5,t6,t7]) rfl ⟨?_,.inl ⟨by rw[HV1.out];decide,by rw[HV1.out]⟩⟩
   repeat(first|with_reducible exact C3.out.b|refine Below.setCell ?_ (by simp<;>omega) _)
  ·have HST:Hid _:=hst
   have C3:Hid (CRT w w3 _ _ _):=C2.out.below hb;have RV3:Hid (w3.heap[gv]? =_):=za1 hb (za3 RV2.out) RV2.out;have HROS:Hid (za0 w3 (some ⟨W2.heap.size+1,0,none⟩) (zc4 os ko ids)):=hros;have HGR:Hid (w.heap.size+2<W2.heap.size+1):=Nat.lt_succ_of_lt (za3 C2.out.2);clear hb hst hros C2 RV2;generalize W2.heap.size+1=gr at*;obtain⟨q0,q1,q2,q3,q4⟩:=za8 RV3.out;obtain⟨hmat,hords,hvehs,hn1,_⟩:=zc7 HC.out;have hroom:=(zp2 hvehs hn1 veh).2.1;rw[G2.out]at hroom;have HOB:Hid _:=hords;have HN1:Hid _:=hn1;clear hmat hords hvehs hn1;have h12:=(zf5 HST.out).1
   go_wp2_with fail
   clear q0 q1 q2 q3 q4;go_loopw[9,36] (fun rm t wr=>∃k:Nat,k<=ids.length/\t=.int .i64 k/\rm=.int .i64 (v2 - zk7 os ko ids k)/\CRT w wr #[Value.int .i64 n,Value.slice a zs.length cap,Value.slice ao ko co,Value.slice av kv cv,Value.int .i64 fine] #[Value.int .i64 veh,Value.slice bi ids.length c2] #[Value.int .i64 0,Value.slice none 0 0,Value.int .i64 0,Value.int .i64 0,Value.int .i64 0,Value.int .i64 0,Value.int .i64 0,Value.slice none 0 0]/\wr.heap[gv]? =some (.cells #[Value.int .i64 v0,Value.int .i64 v1,Value.int .i64 v2,Value.int .i64 v3,Value.int .i64 v4] 41 (0,0))/\za0 wr (some ⟨gr,0,none⟩) (zc4 os ko ids)) (fun _ t _=>ids.length - (intOf t).toNat)
   case atStart=>exact⟨0,Nat.zero_le _,rfl,by simp[zk7],C3.out,RV3.out,HROS.out⟩
   case round=>
    clear C3 RV3 HROS;obtain⟨k,hk,rfl,rfl,hb,hrv,hros⟩:=hrel;have hbd:=z79 HOB.out ids k;have HB:Hid (CRT w wr _ _ _):=hb;have HRV:Hid (wr.heap[gv]? =_):=hrv;have HROS:Hid (za0 wr (some ⟨gr,0,none⟩) (zc4 os ko ids)):=hros;obtain⟨s0,HS0⟩:=nmd (zk7 os ko ids k);rw[HS0.out]at hbd⊢;clear hb hrv hros;by_cases hlt:k<ids.length
    ·obtain⟨b',off',e,hcs⟩:=za0.some HROS.out (j:=k*6) (by rw[zg6];omega)
     simp at e;obtain⟨rfl,rfl⟩:=e;obtain⟨r0,r1,r2,r3,r4,r5⟩:=zq3 hcs (zg6 os ko ids) k hlt;clear hcs;simp only[Nat.zero_add]at r0 r1 r2 r3 r4 r5;obtain⟨id,HID⟩:=nmd (ids.getD k 0);rw[zh1 os ko ids hlt (by omega),HID.out]at r0 r1 r2 r3 r4 r5;have hl2:=zz2 HOB.out id;obtain⟨o0,H0⟩:=nmd (zc3 os ko id 0);obtain⟨o1,H1⟩:=nmd (zc3 os ko id 1);obtain⟨o2,H2⟩:=nmd (zc3 os ko id 2);obtain⟨o3,H3⟩:=nmd (zc3 os ko id 3);obtain⟨o4,H4⟩:=nmd (zc3 os ko id 4);obtain⟨o5,H5⟩:=nmd (zc3 os ko id 5);rw[H2.out]at hl2;rw[H0.out]at r0;rw[H1.out]at r1;rw[H2.out]at r2;rw[H3.out]at r3;rw[H4.out]at r4;rw[H5.out]at r5;have HL1:Hid (zk7 os ko ids (k+1)=s0+o2):=by
      show _=_;unfold zk7;rw[HS0.out,HID.out,H2.out]
     go_wp2;exact⟨⟨k+1,by omega,by go_num,by rw[HL1.out];go_num,HB.out.alloc _,(heap_alloc_old _ _ (za3 HRV.out)).trans HRV.out,HROS.out.below ((Below.refl _ _).alloc (Nat.le_refl _) _)⟩,by simp[intOf];omega⟩
    ·have hkl:k=ids.length:=by omega
     have HS0':Hid _:=hkl▸HS0.out;obtain⟨t0,t1,t2,t3,t4,t5,t6,t7⟩:=zg4 HB.out.2;have tf:=fun i=>frozen_of_row _ _ i _ _ HB.out.2;clear hkl;by_cases hroom2:v2<s0
     ·have HV1:Hid _:=HR.out.symm.trans (zX8 rfl HT5.out HST.out (by rw[HS0'.out,G2.out];exact hroom2))
      go_wp2;refine bodyPost_ret (v:=.tuple #[.agg #[Value.int .i64 0,Value.slice none 0 0,Value.int .i64 0,Value.int .i64 0,Value.int .i64 0,Value.int .i64 0,Value.int .i64 0,Value.slice none 0 0],.int .i64 4]) (by simp[results,Tryz.results115,go_sem,t0,t1,t2,t3,t4,t5,t6,t7]) rfl ⟨?_,.inl ⟨by rw[HV1.out];decide,by rw[HV1.out]⟩⟩
      repeat(first|with_reducible exact HB.out.b|refine Below.setCell ?_ (by simp<;>omega) _)
     ·have HV1:Hid _:=HR.out.symm.trans (yg0 rfl HT5.out HST.out (by rw[HS0'.out,G2.out];exact hroom2))
      obtain⟨q0,q1,q2,q3,q4⟩:=za8 HRV.out;obtain⟨c0,c1,c2',c3,c4⟩:=za8 HB.out.1.2.1;go_wp2;refine bodyPost_ret (v:=.tuple #[.agg #[.int .i64 n,.slice a zs.length cap,.int .i64 v0,.int .i64 v1,.int .i64 v2,.int .i64 v3,.int .i64 v4,.slice (some ⟨gr,0,none⟩) ids.length ids.length],.int .i64 0]) (by simp[results,Tryz.results115,go_sem,t0,t1,t2,t3,t4,t5,t6,t7]) rfl ⟨?_,.inr ⟨HV1.out,gr,by have:=HGR.out;omega,?_,?_⟩⟩
      ·repeat(first|with_reducible exact HB.out.b|refine Below.setCell ?_ (by simp<;>omega) _)
      ·rw[G0.out,G1.out,G2.out,G3.out,G4.out]
      ·repeat(first|with_reducible exact HROS.out|with_reducible refine zF9 ?_ (by have:=HGR.out;omega))
theorem z21(n x y:Int)(v0 v1 v2 v3 v4:Int)(a ar:Option Addr)(cap kr cr:Nat)(zs:List Int)(w:World)(d:Int)(hd:tmI n zs x y=d)(hm:zm2 n zs=true)(hx:0<=x/\x<n)(hy:0<=y/\y<n)(hA:za0 w a zs):
 Calls Tryz.prog 117 #[.agg #[.int .i64 n,.slice a zs.length cap,.int .i64 v0,.int .i64 v1,.int .i64 v2,.int .i64 v3,.int .i64 v4,.slice ar kr cr],.int .i64 x,.int .i64 y] w fun e w'=>e=.returned (.int .i64 d)/\Below w.heap.size w w':=hd▸yq3 n x y v0 v1 v2 v3 v4 a ar cap kr cr zs w hm hx hy hA
theorem zY2(w:World){ops:Array Oper}{rest:List Oper}{o:Oper}{a:Act}{Q:Exit->Act->World->Prop}
 (hg:o.guard=none) (l c:Operand) (hop:o.op=Op.makeSlice 24 l c) (base:Nat)
 (kl kc:IntKind) (C:Int) (n:Nat) (hl:a.eval l=.int kl 0) (hc:a.eval c=.int kc C) (hC:C=(n:Int)) (b2:n<=1048576) (b4:base<=w.heap.size)
 (hK:∀w',w'.ownsRow base 2 1 (.slice (some ⟨w.heap.size,0,none⟩) 0 n) 0 []->w.grownBy w' none->wpList Tryz.prog ops Q rest (a.put o.dst (.slice (some ⟨w.heap.size,0,none⟩) 0 n)) w'):
 wpList Tryz.prog ops Q (o::rest) a w:=by
 obtain⟨i0,hi,hz0,hz1,hz2⟩:=info_parts Tryz.info2;exact wpList_make_own w hg l c _ hop base _ i0 _ 1 Tryz.underlying24 hi hz0 hz1 kl kc C n hl hc hC (by rw[hz2];omega) (by unfold maxLen;omega) b4 hK
end Go.Proofs.YtjobhigmdaiinaaGreat
