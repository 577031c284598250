import Derived.Test.YtkchnomkiboihaaGreatPack1
import Derived.Deep.RegionLaw
set_option linter.unusedSimpArgs false
set_option maxHeartbeats 2000000
namespace Go.Proofs.YtkchnomkiboihaaGreat
theorem xY:type_of% @List.length_append:=@List.length_append
theorem xZ:type_of% @Go.World.ownsRow_nil:=@Go.World.ownsRow_nil
theorem x7:type_of% @Option.some.injEq:=@Option.some.injEq
theorem x8:type_of% @List.map_append:=@List.map_append
theorem qb:type_of% @Go.Proofs.Tryz.underlying24:=@Go.Proofs.Tryz.underlying24
theorem qe:type_of% @List.append_nil:=@List.append_nil
theorem qg:type_of% @Go.Addr.mk.injEq:=@Go.Addr.mk.injEq
theorem qh:type_of% @decide_eq_true_eq:=@decide_eq_true_eq
theorem qi:type_of% @List.mem_filter:=@List.mem_filter
theorem qj:type_of% @List.length_drop:=@List.length_drop
theorem qm:type_of% @Go.ownsRow_setCell_other:=@Go.ownsRow_setCell_other
theorem qo:type_of% @Go.World.ownsRow_made:=@Go.World.ownsRow_made
theorem qp:type_of% @Nat.lt_or_ge:=@Nat.lt_or_ge
theorem qr:type_of% @List.getElem?_drop:=@List.getElem?_drop
theorem qt:type_of% @and_true:=@and_true
theorem qu:type_of% @Go.RowKit.ownsRow_setCell_below:=@Go.RowKit.ownsRow_setCell_below
theorem qv:type_of% @Bool.eq_false_or_eq_true:=@Bool.eq_false_or_eq_true
theorem qw:type_of% @Prod.mk.injEq:=@Prod.mk.injEq
theorem qx:type_of% @Go.info_parts:=@Go.info_parts
theorem qy:type_of% @Go.run_append_own:=@Go.run_append_own
open Value renaming slice→za,int→ze,oneCell'→zq
open IntKind renaming i64→zd
open Obj renaming cells→zg
open Proofs.Tryz renaming prog→zh
open Go renaming World→zi
open World renaming setCell→zj
open Region renaming wanted→zn
open Builtin renaming append_→zu,append→zx
open Callee renaming builtin→zw
open List renaming getD→zy
open Oper renaming wp→zF
open Op renaming call→zH
open Result renaming andThen→zK
open Addr renaming add→zN
open Go.RowKit
open Q
theorem za6{w w':zi}{row:Option Nat}{k:Nat}{o:Obj}(hg:w.grownBy w' row)(h:w.heap[k]? =some o)(aq:some k≠row):w'.heap[k]? =some o:=(hg.block k (za2 h) aq).trans h
theorem zd4{w:zi}{base size g n ac:Nat}{e:TypeId}{zs:List Int}(h:w.ownsRow base e size (za (some ⟨g,0,none⟩) n ac) n (zs.map (ze zd))):za3 w (some ⟨g,0,none⟩) zs:=by
 intro j hj;refine⟨g,0,rfl,?_⟩;have:=h.cells (g:=g) rfl j (ze zd (zs.getD j 0)) (by simp[zy,hj]);have dO:(⟨g,0,none⟩:Addr).add j=⟨g,0+j,none⟩:=by unfold zN;split<;>simp_all
 rw[dO]at this;exact this
theorem zb9{w w':zi}{base size n:Nat}{e:TypeId}{v:Value}{xs:List Value}(h:w.ownsRow base e size v n xs)(hb:Below w.heap.size w w'):w'.ownsRow base e size v n xs:=by
 obtain⟨h1,h2|⟨g,ac,az,h2,h3,h4,h5⟩⟩:=h
 ·exact⟨h1,.inl h2⟩
 ·exact⟨h1,.inr ⟨g,ac,az,h2,h3,za0 hb (za2 h4) h4,h5⟩⟩
theorem zo1{w:zi}{base k:Nat}{v:Value}{e:TypeId}{size:Nat}{xs:List Value}(h:w.ownsRow base e size v (k+1) xs):∃g c,v=za (some ⟨g,0,none⟩) (k+1) c/\base<=g:=by
 obtain⟨_,⟨_,h2⟩|⟨g,ac,az,h2,h3,_⟩⟩:=h
 ·omega
 ·exact⟨g,ac,h2,h3⟩
theorem zm0{w:zi}{base k:Nat}{v:Value}{e:TypeId}{size:Nat}{xs:List Value}(h:w.ownsRow base e size v k xs):v=za none 0 0∨∃g c,v=za (some ⟨g,0,none⟩) k c:=by
 obtain⟨_,⟨h1,_⟩|⟨g,ac,az,h2,_⟩⟩:=h
 ·exact .inl h1
 ·exact .inr ⟨g,ac,h2⟩
theorem zb5{w:zi}{base b0 k:Nat}{v:Value}{e:TypeId}{size:Nat}{xs:List Value}(h:w.ownsRow base e size v k xs)(hb:b0<=base):w.ownsRow b0 e size v k xs:=by
 obtain⟨h0,h1|⟨g,ac,az,h2,h3,h4⟩⟩:=h
 ·exact⟨h0,.inl h1⟩
 ·exact⟨h0,.inr ⟨g,ac,az,h2,xj hb h3,h4⟩⟩
theorem zg1{w:zi}{base k b i:Nat}{v u:Value}{e:TypeId}{size:Nat}{xs:List Value}(h:w.ownsRow base e size v k xs)(hb:b<base):(w.setCell ⟨b,i,none⟩ u).ownsRow base e size v k xs:=qu h hb u
theorem zr9{w:zi}{base n:Nat}{e:TypeId}{sl:Value}{xs:List Int}(h:w.ownsRow base e 1 sl n (xs.map (ze zd))):∃a c,sl=za a xs.length c/\xs.length=n/\za3 w a xs:=by
 obtain⟨h1,⟨rfl,h2⟩|⟨g,ac,az,rfl,h3,h4,h5⟩⟩:=id h
 ·subst h2
  have:xs=[]:=by simpa using h1
  subst this;exact⟨none,0,rfl,rfl,fun j hj=>by simp at hj⟩
 ·have hl:xs.length=n:=by simpa using h1
  exact⟨_,_,by rw[hl],hl,zd4 h⟩
theorem zr0(W:zi)(v:Value)(T:TypeId)(g:Nat)(hg:W.heap.size=g):(W.alloc (zg #[v] T)).cell? ⟨g,0,none⟩=some v:=by
 subst hg;rw[zU _ _ 0 _ _ _ (zS W (zg #[v] T))];simp
theorem zO8{w:zi}{ad:Addr}{x0:Value}(hc:w.cell? ad=some x0):∀j u,[x0][j]? =some u->w.cell? (ad.add j)=some u:=by
 intro j u hu;have hj:j=0:=by
  rcases j with _|j
  ·rfl
  ·simp at hu
 subst hj;have:ad.add 0=ad:=by unfold zN;split<;>simp_all
 rw[this,hc];simpa using hu
theorem yn6(w:zi){ap:Array Oper}{rest:List Oper}{o:Oper}{a:Act}{Q:Exit->Act->zi->Prop}
 (hg:o.guard=none) (s x:Operand) (dw:o.op=zH {callee:=zw zx,bm:=#[s,x],argTypes:=#[24,24]})
 (base:Nat) (v:Value) (k:Nat) (xs:List Value) (hs:a.eval s=v) (ae:w.ownsRow base 2 1 v k xs) (ad:Addr) (c:Nat) (x0:Value) (hx:a.eval x=za (some ad) 1 c)
 (hc:w.cell? ad=some x0) (j0:x0.oneCell'=true) (b1:k<=1000) (hb:base<=w.heap.size)
 (hK:∀v' w',w'.ownsRow base 2 1 v' (k+1) (xs++[x0])->w.grownBy w' v.ownBlock->wpList zh ap Q rest (a.put o.dst v') w'):
 wpList zh ap Q (o::rest) a w:=by
 obtain⟨i0,hi,bO,ba,bS⟩:=qx Tryz.info2;exact wpList_append_own w hg s x _ dw base _ i0 _ 1 8 qb hi bO ba bS rfl (by decide) v k xs hs ae ad 1 c [x0] hx rfl (zO8 hc) (by simpa using j0) (by unfold maxLen;omega) (by omega) hb (fun v' w' h1 h2 _=>hK v' w' h1 h2)
theorem zF5{ap:Array Oper}{o:Oper}{a:Act}{w:zi}{K:Act->zi->Prop}{Q:Exit->Act->zi->Prop}{E:Prop}
 (hg:o.guard=none) (s x:Operand) (dw:o.op=zH {callee:=zw zx,bm:=#[s,x],argTypes:=#[24,24]})
 (base:Nat) (v:Value) (k:Nat) (xs:List Value) (hs:a.eval s=v) (ae:w.ownsRow base 2 1 v k xs) (ad:Addr) (c:Nat) (x0:Value) (hx:a.eval x=za (some ad) 1 c)
 (hc:w.cell? ad=some x0) (j0:x0.oneCell'=true) (b1:k<=1000) (hb:base<=w.heap.size)
 (hK:∀v' w',w'.ownsRow base 2 1 v' (k+1) (xs++[x0])->w.grownBy w' v.ownBlock->K (a.put o.dst v') w'):
 if zn o (yielded ap a.tmps)=true then zF zh o a w K Q else E:=by
 have hw:zn o (yielded ap a.tmps)=true:=by simp[zn,hg]
 rw[z7 hw];obtain⟨i0,hi,bO,ba,bS⟩:=qx Tryz.info2;obtain⟨v',w',aQ,r1,r2,_⟩:=qy (P:=zh) w base 24 o.type _ i0 _ 1 8 qb hi bO ba bS rfl (by decide) v k xs ae ad 1 c [x0] rfl (zO8 hc) (by simpa using j0) (by unfold maxLen;omega) (by omega) hb;unfold zF;simp[execOp,dw,resolve,invoke,builtin,hs,hx,aQ,zK];exact hK _ _ r1 r2
theorem zA9{P:Program}(w:zi)(base:Nat)(t ty e:TypeId)(i:TypeInfo)(z:Value)(size bytes:Nat)(ht:P.underlying t=some (.slice e))(hi:P.info? e=some i)(hz:i.zero=some z)
 (nA:i.size=size) (z_:i.bytes=bytes) (v:Value) (n:Nat) (xs:List Value) (ae:w.ownsRow base e size v n xs)
 (a:Addr) (m c:Nat) (bP:List Value) (hl:bP.length=m*size) (bR:∀j u,bP[j]? =some u->w.cell? (a.add j)=some u) (h1:∀u∈bP,u.oneCell'=true)
 (ww:n+m<=maxLen) (cL:(n+m)*bytes<=140737488355328) {v':Value} {w':zi} (aQ:(zu #[t,t] ty #[v,za (some a) m c]).run P w=.ok v' w'):v'.ownBlock=v.ownBlock∨v'.ownBlock=some w.heap.size:=by
 subst nA;subst z_;have sD:n+m<=9223372036854775807:=by simp only[maxLen]at ww;omega
 rcases ae.2 with⟨rfl,rfl⟩|⟨g,ac,az,rfl,dU,hg,jF,iM,aJ,htake⟩
 ·by_cases hm:m=0
  ·subst hm
   have hn:bP=[]:=xE (by simpa using hl);subst hn;simp[zu,xI ht,sizeOf,typeInfo,hi,Builtin.lenOf,Builtin.firstCells,loadCells,loadCellsFrom]at aQ;rw[<-aQ.1];exact .inl rfl
  ·have hr:=run_append_nil (P:=P) w t ty e i z ht hi hz a m c bP hl bR (by omega) (by omega) (by have hb:=cL;simp only[yb]at hb;omega)
   rw[hr]at aQ
   injection aQ with e1 e2
   rw[<-e1];exact .inr rfl
 ·by_cases bE:n+m<=ac
  ·have tS:n*i.size+bP.length<=az.size:=by rw[hl,aJ,<-yT];exact yK _ bE
   have hr:=run_append_room (P:=P) w t ty e i ht hi g n ac az hg a m c bP hl bR h1 bE tS;rw[hr]at aQ
   injection aQ with e1 e2
   rw[<-e1];exact .inl rfl
  ·have n5:=ae.cells (g:=g) rfl
   have hr:=run_append_grow (P:=P) w t ty e i z ht hi hz ⟨g,0,none⟩ n ac xs ae.1 n5 a m c bP hl bR (by omega) (by omega) (growslice_fits (by omega) cL);rw[hr]at aQ
   injection aQ with e1 e2
   rw[<-e1];exact .inr rfl
theorem zx3{P:Program}{o:Oper}{a:Act}{w w':zi}{v:Value}(s x:Operand)(t:TypeId)(vs vx:Value)(ho:o.op=.call {callee:=.builtin .append,bm:=#[s,x],argTypes:=#[t,t]})
 (hs:a.eval s=vs) (hx:a.eval x=vx) (hr:(zu #[t,t] o.type #[vs,vx]).run P w=.ok v w'):(execOp a.eval o).run P w=.ok (.value v) w':=by
 unfold execOp;simp only[ho,resolve,invoke,builtin,Sem.run_bind,Sem.run_pure,Result.andThen_ok,List.map_toArray,xH,xK,hs,hx,hr]
theorem zc9(w:zi){ap:Array Oper}{rest:List Oper}{o:Oper}{a:Act}{Q:Exit->Act->zi->Prop}
 (hg:o.guard=none) (s x:Operand) (dw:o.op=zH {callee:=zw zx,bm:=#[s,x],argTypes:=#[24,24]})
 (base:Nat) (v:Value) (k:Nat) (xs:List Int) (hs:a.eval s=v) (ae:w.ownsRow base 2 1 v k (xs.map (ze zd))) (b off m c:Nat) (ys:List Int) (hx:a.eval x=za (some ⟨b,off,none⟩) m c)
 (hy:ys.length=m) (hc:za3 w (some ⟨b,off,none⟩) ys) (b1:k<=1000) (b2:m<=1000) (hb:base<=w.heap.size)
 (hK:∀v' w',w'.ownsRow base 2 1 v' (k+m) ((xs++ys).map (ze zd))->w.grownBy w' v.ownBlock->(v'.ownBlock=v.ownBlock∨v'.ownBlock=some w.heap.size)->(v'=za none 0 0↔v=za none 0 0/\m=0)->wpList zh ap Q rest (a.put o.dst v') w'):
 wpList zh ap Q (o::rest) a w:=by
 obtain⟨i0,hi,bO,ba,bS⟩:=qx Tryz.info2;have bR:∀j u,(ys.map (ze zd))[j]? =some u->w.cell? ((⟨b,off,none⟩:Addr).add j)=some u:=by
  intro j u hu;have hj:j<ys.length:=by
   rcases qp j ys.length with h'|h'
   ·exact h'
   ·simp[yg (by simpa using h':(ys.map (ze zd)).length<=j)]at hu
  obtain⟨b',aT,e,fE⟩:=hc j hj;simp at e;obtain⟨rfl,rfl⟩:=e;have dO:(⟨b,off,none⟩:Addr).add j=⟨b,off+j,none⟩:=by unfold zN;split<;>simp_all
  rw[dO,fE,<-hu];simp[zy,hj]
 have j0:∀u∈ys.map (ze zd),u.oneCell'=true:=by simp[zq]
 obtain⟨v',w',aQ,r1,r2,r3⟩:=qy (P:=zh) w base 24 o.type _ i0 _ 1 8 qb hi bO ba bS rfl (by decide) v k (xs.map (ze zd)) ae ⟨b,off,none⟩ m c (ys.map (ze zd)) (by simp[hy]) bR j0 (by unfold maxLen;omega) (by omega) hb;have r4:=zA9 (P:=zh) w base 24 o.type _ i0 _ 1 8 qb hi bO ba bS v k (xs.map (ze zd)) ae ⟨b,off,none⟩ m c (ys.map (ze zd)) (by simp[hy]) bR j0 (by unfold maxLen;omega) (by omega) aQ;exact zz6 v' hg (zx3 s x _ v _ dw hs hx aQ) (hK v' w' (by rw[x8];exact r1) r2 r4 r3)
theorem zG1(w:zi){ap:Array Oper}{rest:List Oper}{o:Oper}{a:Act}{Q:Exit->Act->zi->Prop}
 (hg:o.guard=none) (s x:Operand) (dw:o.op=zH {callee:=zw zx,bm:=#[s,x],argTypes:=#[24,24]})
 (base:Nat) (v:Value) (k:Nat) (xs:List Int) (hs:a.eval s=v) (ae:w.ownsRow base 2 1 v k (xs.map (ze zd))) (ad:Option Addr) (m c:Nat) (ys:List Int) (hx:a.eval x=za ad m c)
 (mq:∃b off,ad=some ⟨b,off,none⟩) (hy:ys.length=m) (hc:za3 w ad ys) (b1:k<=1000) (b2:m<=1000) (hb:base<=w.heap.size)
 (hK:∀v' w',w'.ownsRow base 2 1 v' (k+m) ((xs++ys).map (ze zd))->w.grownBy w' v.ownBlock->(v'.ownBlock=v.ownBlock∨v'.ownBlock=some w.heap.size)->(v'=za none 0 0↔v=za none 0 0/\m=0)->wpList zh ap Q rest (a.put o.dst v') w'):
 wpList zh ap Q (o::rest) a w:=by
 obtain⟨b,off,rfl⟩:=mq;exact zc9 w hg s x dw base v k xs hs ae b off m c ys hx hy hc b1 b2 hb hK
theorem yo7{W:zi}{a:Option Addr}{ids:List Int}(h:za3 W a ids)(i:Nat):za3 W a (ids.take i):=by
 intro j hj;have sQ:j<ids.length/\j<i:=by rw[yh]at hj;omega
 obtain⟨b,off,e,hc⟩:=h j sQ.1;refine⟨b,off,e,?_⟩;rw[hc,zQ,zQ,yL,z7 sQ.2]
theorem zN6{W:zi}{b off:Nat}{ids:List Int}(h:za3 W (some ⟨b,off,none⟩) ids)(i:Nat):za3 W (some ⟨b,off+i,none⟩) (ids.drop i):=by
 intro j hj;have sQ:i+j<ids.length:=by rw[qj]at hj;omega
 obtain⟨b',aT,e,hc⟩:=h (i+j) sQ;simp at e;obtain⟨rfl,rfl⟩:=e;refine⟨b,off+i,rfl,?_⟩;rw[yz,hc,zQ,zQ,qr]
theorem yz5{W:zi}{b off:Nat}{ids:List Int}(h:za3 W (some ⟨b,off,none⟩) ids)(i c2:Nat)(hc:ids.length<=c2):za3 W (if c2=i then some ⟨b,off,none⟩else some ⟨b,off+i,none⟩) (ids.drop i):=by
 by_cases e:c2=i
 ·have:ids.drop i=[]:=List.drop_eq_nil_of_le (by omega)
  rw[this];intro j hj;simp at hj
 ·rw[ye e];exact zN6 h i
theorem ys9(b off i c2:Nat):∃b' aT,(if c2=i then some (⟨b,off,none⟩:Addr)else some ⟨b,off+i,none⟩)=some ⟨b',aT,none⟩:=by
 by_cases e:c2=i
 ·exact⟨b,off,z7 e⟩
 ·exact⟨b,off+i,ye e⟩
theorem zr1{w:zi}{base k:Nat}{v:Value}{e:TypeId}{size:Nat}{xs:List Value}(h:w.ownsRow base e size v k xs)(aq:v≠za none 0 0):∃g c,v=za (some ⟨g,0,none⟩) k c:=by
 rcases zm0 h with e|e
 ·exact absurd e aq
 ·exact e
theorem y28{w:zi}{base k g c:Nat}{e:TypeId}{size:Nat}{xs:List Value}(h:w.ownsRow base e size (za (some ⟨g,0,none⟩) k c) k xs):k<=c:=by
 obtain⟨_,⟨h1,_⟩|⟨g',ac,az,h2,_,_,h3,_⟩⟩:=h
 ·cases h1
 ·injection h2 with e1 e2 e3
  omega
theorem zn1{v v':Value}{m:Nat}(h:v'=za none 0 0↔v=za none 0 0/\m=0)(hv:∃g n c,v=za (some ⟨g,0,none⟩) n c):v'≠za none 0 0:=by
 intro e;obtain⟨g,n,c,rfl⟩:=hv;have:=(h.1 e).1;simp at this
theorem ze2(W:zi)(x:Int):za3 (W.alloc (zg #[ze zd x] 2)) (some ⟨W.heap.size,0,none⟩) [x]:=by
 intro j hj;have:j=0:=by simpa using hj
 subst this;exact⟨_,_,rfl,zr0 W _ _ _ rfl⟩
theorem zy7{w:zi}{base g n ac:Nat}{e:TypeId}{zs:List Int}(h:w.ownsRow base e 1 (za (some ⟨g,0,none⟩) n ac) zs.length (zs.map (ze zd)))(hn:zs.length=n):za3 w (some ⟨g,0,none⟩) zs:=by
 rw[hn]at h;exact zd4 h
theorem z58{g n c k:Nat}(e:(za (some ⟨g,0,none⟩) n c).ownBlock=some k):g<=k:=by
 have:g=k:=by injection e
 omega
theorem zq4{E:TypeId}{z:Value}{size bytes:Nat}(h:(Tryz.prog.info? E).map (fun i=>(i.zero,i.size,i.bytes))=some (some z,size,bytes)):∃i0,Tryz.prog.info? E=some i0/\i0.zero=some z/\i0.size=size/\i0.bytes=bytes:=by
 cases hq:Tryz.prog.info? E with
 |none=>rw[hq]at h;simp at h
 |some i0=>
  rw[hq]at h;simp only[yG,x7,qw]at h;exact⟨i0,rfl,h.1,h.2.1,h.2.2⟩
theorem add_plain(b off j:Nat):(⟨b,off,none⟩:Addr).add j=⟨b,off+j,none⟩:=by unfold zN;split<;>simp_all
theorem zk9{T E:TypeId}{z:Value}{size bytes:Nat}(ht:Tryz.prog.underlying T=some (.slice E))(d_:(Tryz.prog.info? E).map (fun i=>(i.zero,i.size,i.bytes))=some (some z,size,bytes))(Eu:z.cells.size=size)(bU:0<size)
 (w:zi) {ap:Array Oper} {rest:List Oper} {o:Oper} {a:Act} {Q:Exit->Act->zi->Prop}
 (hg:o.guard=none) (s x:Operand) (dw:o.op=zH {callee:=zw zx,bm:=#[s,x],argTypes:=#[T,T]})
 (base:Nat) (v:Value) (k:Nat) (xs:List Value) (hs:a.eval s=v) (ae:w.ownsRow base E size v k xs) (b off m c:Nat) (ys:List Value) (hx:a.eval x=za (some ⟨b,off,none⟩) m c)
 (hy:ys.length=m*size) (hc:∀j u,ys[j]? =some u->w.cell? ⟨b,off+j,none⟩=some u) (h1:∀u∈ys,u.oneCell'=true) (ww:k+m<=70368744177663) (cL:(k+m)*bytes<=140737488355328) (hb:base<=w.heap.size)
 (hK:∀v' w',w'.ownsRow base E size v' (k+m) (xs++ys)->w.grownBy w' v.ownBlock->(v'.ownBlock=v.ownBlock∨v'.ownBlock=some w.heap.size)->(v'=za none 0 0↔v=za none 0 0/\m=0)->wpList zh ap Q rest (a.put o.dst v') w'):
 wpList zh ap Q (o::rest) a w:=by
 obtain⟨i0,hi,bO,ba,bS⟩:=zq4 d_;have bR:∀j u,ys[j]? =some u->w.cell? ((⟨b,off,none⟩:Addr).add j)=some u:=fun j u hu=>by rw[add_plain];exact hc j u hu
 obtain⟨v',w',aQ,r1,r2,r3⟩:=qy (P:=zh) w base T o.type _ i0 _ size bytes ht hi bO ba bS Eu bU v k xs ae ⟨b,off,none⟩ m c ys hy bR h1 (by unfold maxLen;omega) cL hb;have r4:=zM2 (P:=zh) w base T o.type _ i0 _ size bytes ht hi bO ba bS v k xs ae ⟨b,off,none⟩ m c ys hy bR h1 (by unfold maxLen;omega) cL aQ;exact zz6 v' hg (y80 s x _ v _ dw hs hx aQ) (hK v' w' r1 r2 r4 r3)
theorem zd3{T E:TypeId}{z:Value}{size bytes:Nat}(ht:Tryz.prog.underlying T=some (.slice E))(d_:(Tryz.prog.info? E).map (fun i=>(i.zero,i.size,i.bytes))=some (some z,size,bytes))(Eu:z.cells.size=size)(bU:0<size)
 {ap:Array Oper} {o:Oper} {a:Act} {w:zi} {K:Act->zi->Prop} {Q:Exit->Act->zi->Prop} {OH:Prop}
 (hg:o.guard=none) (s x:Operand) (dw:o.op=zH {callee:=zw zx,bm:=#[s,x],argTypes:=#[T,T]})
 (base:Nat) (v:Value) (k:Nat) (xs:List Value) (hs:a.eval s=v) (ae:w.ownsRow base E size v k xs) (b off m c:Nat) (ys:List Value) (hx:a.eval x=za (some ⟨b,off,none⟩) m c)
 (hy:ys.length=m*size) (hc:∀j u,ys[j]? =some u->w.cell? ⟨b,off+j,none⟩=some u) (h1:∀u∈ys,u.oneCell'=true) (ww:k+m<=70368744177663) (cL:(k+m)*bytes<=140737488355328) (hb:base<=w.heap.size)
 (hK:∀v' w',w'.ownsRow base E size v' (k+m) (xs++ys)->w.grownBy w' v.ownBlock->(v'.ownBlock=v.ownBlock∨v'.ownBlock=some w.heap.size)->(v'=za none 0 0↔v=za none 0 0/\m=0)->K (a.put o.dst v') w'):
 if zn o (yielded ap a.tmps)=true then zF zh o a w K Q else OH:=by
 have hw:zn o (yielded ap a.tmps)=true:=by simp[zn,hg]
 rw[z7 hw];obtain⟨i0,hi,bO,ba,bS⟩:=zq4 d_;have bR:∀j u,ys[j]? =some u->w.cell? ((⟨b,off,none⟩:Addr).add j)=some u:=fun j u hu=>by rw[add_plain];exact hc j u hu
 obtain⟨v',w',aQ,r1,r2,r3⟩:=qy (P:=zh) w base T o.type _ i0 _ size bytes ht hi bO ba bS Eu bU v k xs ae ⟨b,off,none⟩ m c ys hy bR h1 (by unfold maxLen;omega) cL hb;have r4:=zM2 (P:=zh) w base T o.type _ i0 _ size bytes ht hi bO ba bS v k xs ae ⟨b,off,none⟩ m c ys hy bR h1 (by unfold maxLen;omega) cL aQ;unfold zF;simp[execOp,dw,resolve,invoke,builtin,hs,hx,aQ,zK];exact hK _ _ r1 r2 r4 r3
theorem yl5:(Tryz.prog.info? 103).map (fun i=>(i.zero,i.size,i.bytes))=some (some (.agg #[ze zd 0,ze zd 0,ze zd 0,ze zd 0,ze zd 0,ze zd 0]),6,48):=by kernel_rfl
theorem yd5(w:zi){ap:Array Oper}{rest:List Oper}{o:Oper}{a:Act}{Q:Exit->Act->zi->Prop}
 (hg:o.guard=none) (l c:Operand) (dw:o.op=Op.makeSlice 27 l c) (base:Nat)
 (kl kc:IntKind) (C:Int) (n:Nat) (hl:a.eval l=.int kl 0) (hc:a.eval c=.int kc C) (hC:C=(n:Int)) (b2:n<=1048576) (b4:base<=w.heap.size)
 (hK:∀w',w'.ownsRow base 103 6 (za (some ⟨w.heap.size,0,none⟩) 0 n) 0 []->w.grownBy w' none->wpList zh ap Q rest (a.put o.dst (za (some ⟨w.heap.size,0,none⟩) 0 n)) w'):
 wpList zh ap Q (o::rest) a w:=by
 obtain⟨i0,hi,bO,ba,bS⟩:=qx yl5;exact wpList_make_own w hg l c _ dw base _ i0 _ 6 Tryz.underlying27 hi bO ba kl kc C n hl hc hC (by rw[bS];omega) (by unfold maxLen;omega) b4 hK
theorem zT4(w:zi){ap:Array Oper}{rest:List Oper}{o:Oper}{a:Act}{Q:Exit->Act->zi->Prop}
 (hg:o.guard=none) (s x:Operand) (dw:o.op=zH {callee:=zw zx,bm:=#[s,x],argTypes:=#[27,27]})
 (base:Nat) (g k ac:Nat) (xs:List Value) (hs:a.eval s=za (some ⟨g,0,none⟩) k ac) (ae:w.ownsRow base 103 6 (za (some ⟨g,0,none⟩) k ac) k xs) (ad:Addr) (m c:Nat) (bP:List Value) (hx:a.eval x=za (some ad) m c) (hn:bP.length=m*6)
 (hc:∀j u,bP[j]? =some u->w.cell? (ad.add j)=some u) (j0:∀u∈bP,u.oneCell'=true) (b1:k+m<=ac)
 (hK:∀w',w'.ownsRow base 103 6 (za (some ⟨g,0,none⟩) (k+m) ac) (k+m) (xs++bP)->w.grownBy w' (some g)->wpList zh ap Q rest (a.put o.dst (za (some ⟨g,0,none⟩) (k+m) ac)) w'):
 wpList zh ap Q (o::rest) a w:=by
 obtain⟨i0,hi,bO,ba,bS⟩:=qx yl5;exact wpList_append_fits w hg s x _ dw base _ i0 6 Tryz.underlying27 hi ba g k ac xs hs ae ad m c bP hx hn hc j0 b1 hK
theorem y68(os:List Int)(ko:Nat)(ids:List Int){k:Nat}{id:Int}(hk:k<ids.length)(cB:ids.getD k 0=id){o0 o1 o2 o3 o4 o5:Int}(h0:zd1 os ko id 0=o0)(h1:zd1 os ko id 1=o1)(h2:zd1 os ko id 2=o2)(h3:zd1 os ko id 3=o3)(h4:zd1 os ko id 4=o4)(h5:zd1 os ko id 5=o5):
 (((zd5 os ko ids).take (k*6)).map (ze zd))++[ze zd o0,ze zd o1,ze zd o2,ze zd o3,ze zd o4,ze zd o5]=((zd5 os ko ids).take ((k+1)*6)).map (ze zd):=by
 have hl:=zj0 os ko ids;have e:(k+1)*6=k*6+1+1+1+1+1+1:=by omega
 have g:∀f,f<6->(zd5 os ko ids).getD (k*6+f) 0=zd1 os ko id f:=fun f hf=>cB▸zj7 os ko ids hk hf;rw[e,zf5 _ _ (by omega),zf5 _ _ (by omega),zf5 _ _ (by omega),zf5 _ _ (by omega),zf5 _ _ (by omega),zf5 _ _ (by omega)];have g0:=g 0 (by omega);have g1:=g 1 (by omega);have g2:=g 2 (by omega);have g3:=g 3 (by omega);have g4:=g 4 (by omega);have g5:=g 5 (by omega);simp only[Nat.add_zero]at g0;simp only[g0,g1,g2,g3,g4,g5,h0,h1,h2,h3,h4,h5];simp
theorem yn3(W:zi)(o0 o1 o2 o3 o4 o5:Value)(T:TypeId)(g:Nat)(hg:W.heap.size=g):∀j u,[o0,o1,o2,o3,o4,o5][j]? =some u->(W.alloc (zg #[o0,o1,o2,o3,o4,o5] T)).cell? ((⟨g,0,none⟩:Addr).add j)=some u:=by
 intro j u hu;subst hg;have dO:(⟨W.heap.size,0,none⟩:Addr).add j=⟨W.heap.size,j,none⟩:=by unfold zN;split<;>simp_all
 rw[dO,zU _ _ j _ _ _ (zS W (zg #[o0,o1,o2,o3,o4,o5] T))];simpa using hu
def yL4(n:Int)(zs ros:List Int)(home am:Int)(k f:Nat):Int:=
 if f=0 then og6 ros k 0 else if f=1 then yk4 n zs ros home am k else if f=2 then zi1 n zs ros home am k else zz9 n zs ros home am (k+1)
def y59(n:Int)(zs ros:List Int)(home am:Int)(m:Nat):List Int:=(List.range (m*4)).map fun j=>yL4 n zs ros home am (j / 4) (j % 4)
theorem zG3(n:Int)(zs ros:List Int)(home am:Int)(m:Nat):(y59 n zs ros home am m).length=m*4:=by simp[y59]
theorem zP2(n:Int)(zs ros:List Int)(home am:Int){m k f:Nat}(hk:k<m)(hf:f<4):(y59 n zs ros home am m).getD (k*4+f) 0=yL4 n zs ros home am k f:=by
 unfold y59;have hj:k*4+f<m*4:=by omega
 have e1:(k*4+f) / 4=k:=by omega
 have e2:(k*4+f) % 4=f:=by omega
 rw[zy,yr,List.getElem?_range hj];simp only[yG,yR,e1,e2]
theorem yw3(n:Int)(zs ros:List Int)(home am:Int){m k:Nat}(hk:k<m){x0 x1 x2 x3:Int}(h0:og6 ros k 0=x0)(h1:yk4 n zs ros home am k=x1)(h2:zi1 n zs ros home am k=x2)(h3:zz9 n zs ros home am (k+1)=x3):
 (((y59 n zs ros home am m).take (k*4)).map (ze zd))++[ze zd x0,ze zd x1,ze zd x2,ze zd x3]=((y59 n zs ros home am m).take ((k+1)*4)).map (ze zd):=by
 have hl:=zG3 n zs ros home am m;have e:(k+1)*4=k*4+1+1+1+1:=by omega
 have g0:=zP2 n zs ros home am hk (f:=0) (by omega);have g1:=zP2 n zs ros home am hk (f:=1) (by omega);have g2:=zP2 n zs ros home am hk (f:=2) (by omega);have g3:=zP2 n zs ros home am hk (f:=3) (by omega);simp only[Nat.add_zero,yL4]at g0 g1 g2 g3;rw[e,zf5 _ _ (by omega),zf5 _ _ (by omega),zf5 _ _ (by omega),zf5 _ _ (by omega)];simp only[g0,g1,g2,g3];simp[h0,h1,h2,h3]
theorem y79:(Tryz.prog.info? 205).map (fun i=>(i.zero,i.size,i.bytes))=some (some (.agg #[ze zd 0,ze zd 0,ze zd 0,ze zd 0]),4,32):=by kernel_rfl
theorem zO7(w:zi){ap:Array Oper}{rest:List Oper}{o:Oper}{a:Act}{Q:Exit->Act->zi->Prop}
 (hg:o.guard=none) (s x:Operand) (dw:o.op=zH {callee:=zw zx,bm:=#[s,x],argTypes:=#[172,172]})
 (base:Nat) (v:Value) (k:Nat) (xs:List Value) (hs:a.eval s=v) (ae:w.ownsRow base 205 4 v k xs) (ad:Addr) (c:Nat) (bP:List Value) (hx:a.eval x=za (some ad) 1 c) (hn:bP.length=4)
 (hc:∀j u,bP[j]? =some u->w.cell? (ad.add j)=some u) (j0:∀u∈bP,u.oneCell'=true) (b1:k<=1000) (hb:base<=w.heap.size)
 (hK:∀v' w',w'.ownsRow base 205 4 v' (k+1) (xs++bP)->w.grownBy w' v.ownBlock->wpList zh ap Q rest (a.put o.dst v') w'):
 wpList zh ap Q (o::rest) a w:=by
 obtain⟨i0,hi,bO,ba,bS⟩:=qx y79;exact wpList_append_own w hg s x _ dw base _ i0 _ 4 32 Tryz.underlying172 hi bO ba bS rfl (by decide) v k xs hs ae ad 1 c bP hx (by rw[hn]) hc j0 (by unfold maxLen;omega) (by omega) hb (fun v' w' h1 h2 _=>hK v' w' h1 h2)
theorem yp9(W:zi)(o0 o1 o2 o3:Value)(T:TypeId)(g:Nat)(hg:W.heap.size=g):∀j u,[o0,o1,o2,o3][j]? =some u->(W.alloc (zg #[o0,o1,o2,o3] T)).cell? ((⟨g,0,none⟩:Addr).add j)=some u:=by
 intro j u hu;subst hg;have dO:(⟨W.heap.size,0,none⟩:Addr).add j=⟨W.heap.size,j,none⟩:=by unfold zN;split<;>simp_all
 rw[dO,zU _ _ j _ _ _ (zS W (zg #[o0,o1,o2,o3] T))];simpa using hu
theorem y74{w:zi}{base k:Nat}{v:Value}{e:TypeId}{size:Nat}{xs:List Value}(h:w.ownsRow base e size v (k+1) xs):∃g c,v=za (some ⟨g,0,none⟩) (k+1) c/\base<=g:=by
 obtain⟨_,⟨_,h2⟩|⟨g,ac,az,h2,h3,_⟩⟩:=h
 ·omega
 ·exact⟨g,ac,h2,h3⟩
theorem CR.grown{w W W':zi}{cs rs:Array Value}{g:Nat}(h:CR w W cs rs)(hg:W.grownBy W' (some g))(ah:w.heap.size+1<g):CR w W' cs rs:=
 ⟨h.1.grown hg h.1.size (fun k e=>by cases e;omega),(hg.block _ (za2 h.2.1) (fun e=>by cases e;omega)).trans h.2.1,(hg.block _ (za2 h.2.2) (fun e=>by cases e;omega)).trans h.2.2⟩
theorem z01(n x y:Int)(a:Option Addr)(ac:Nat)(zs:List Int)(w:zi)(d:Int)(hd:tmI n zs x y=d)(hm:zq7 n zs=true)(hx:0<=x/\x<n)(hy:0<=y/\y<n)(hA:za3 w a zs):
 Calls zh 109 #[.agg #[ze zd n,za a zs.length ac],ze zd x,ze zd y] w fun e w'=>e=.returned (ze zd d)/\Below w.heap.size w w':=hd▸y92 n x y a ac zs w hm hx hy hA
theorem zC3(n fine ab:Int)(a ao av bi:Option Addr)(ac ko co kv cv c2:Nat)(zs os vs ids:List Int)(w:zi)(hA:za3 w a zs)(hO:za3 w ao os)(hV:za3 w av vs)(hI:za3 w bi ids)(an:os.length=ko*6)(au:vs.length=kv*5)(ay:ko<=9223372036854775807)(aB:kv<=9223372036854775807)(fh:ids.length<=9223372036854775807)(cw:ids.length<=c2):
 Calls zh 128 #[.agg #[ze zd n,za a zs.length ac,za ao ko co,za av kv cv,ze zd fine],.agg #[ze zd ab,za bi ids.length c2]] w fun e w'=>Below w.heap.size w w'/\((codeV (zd0 n zs os vs ko kv fine) n zs os vs ko kv ab ids≠0/\e=.returned (.tuple #[za none 0 0,ze zd 0,ze zd (codeV (zd0 n zs os vs ko kv fine) n zs os vs ko kv ab ids)]))∨(codeV (zd0 n zs os vs ko kv fine) n zs os vs ko kv ab ids=0/\∃g c,w.heap.size<=g/\e=.returned (.tuple #[za (some ⟨g,0,none⟩) ids.length c,ze zd (homeV n zs (zd5 os ko ids) ids.length (zc4 vs kv ab 1) (zc4 vs kv ab 3)),ze zd 0])/\za3 w' (some ⟨g,0,none⟩) (y59 n zs (zd5 os ko ids) (zc4 vs kv ab 1) (zc4 vs kv ab 3) ids.length))):=by
 have HA:=za4 hA;have HO:=za4 hO;have HV:=za4 hV;have HI:=za4 hI;have aF:Hid _:=an;have aD:Hid _:=au;clear hA hO hV hI an au;have bo:Hid (CR w ((w.alloc (zg #[ze zd n,za a zs.length ac,za ao ko co,za av kv cv,ze zd fine] 30)).alloc (zg #[ze zd ab,za bi ids.length c2] 80)) _ _):=CR.new w _ _;obtain⟨r,HR⟩:=nmd (codeV (zd0 n zs os vs ko kv fine) n zs os vs ko kv ab ids);rw[HR.X];go_enter Tryz.func128,Tryz.ntmps128;obtain⟨c0,c1,bY,c3,c4⟩:=za7 bo.2.1;obtain⟨d0,d1⟩:=za1 bo.2.2
 go_wp2_with fail
 clear c0 c1 bY c3 c4 d0 d1;refine(yn7 n fine ab a ao av bi ac ko co kv cv c2 zs os vs ids _ (HA.below bo.1) (HO.below bo.1) (HV.below bo.1) (HI.below bo.1) aF.X aD.X ay aB fh cw).mono ?_;rintro e w1 ⟨rfl,hb⟩;have C1:=za4 (bo.below hb);clear hb bo;obtain⟨fv,eW⟩:=nmd (zm6 (zd0 n zs os vs ko kv fine) vs os kv ko ab ids);rw[eW.X];by_cases oG:fv=0
 ·subst oG
  have bB:=(zv6 (n:=n) (zs:=zs) eW.X).symm.trans HR.X;obtain⟨iT,_,m7⟩:=zf3 eW.X;obtain⟨cD,b_,ce,a8,_⟩:=zb2 iT;have eY:=zr7 ce a8 ab;have di:Hid _:=cD;have mV:Hid _:=b_;have mz:Hid _:=a8;have bF:=(zg3 m7).1;clear cD b_ ce a8 iT m7;obtain⟨c0,c1,bY,c3,c4⟩:=za7 C1.2.1;obtain⟨d0,d1⟩:=za1 C1.2.2
  go_wp2_with fail
  clear c0 c1 bY c3 c4 d0 d1;refine(zJ2 n fine ab a ao av _ ac ko co kv cv vs _ (HV.below C1.1) aD.X aB).mono ?_;rintro e w2 ⟨rfl,hb⟩;obtain⟨v0,G0⟩:=nmd (zc4 vs kv ab 0);obtain⟨v1,G1⟩:=nmd (zc4 vs kv ab 1);obtain⟨v2,G2⟩:=nmd (zc4 vs kv ab 2);obtain⟨v3,G3⟩:=nmd (zc4 vs kv ab 3);obtain⟨v4,G4⟩:=nmd (zc4 vs kv ab 4);rw[G1.X,G2.X,G3.X,G4.X]at eY;rw[G1.X,G3.X,G4.X]at bB;rw[G0.X,G1.X,G2.X,G3.X,G4.X];generalize fnd5T vs kv ab=tv;have cz:Hid _:=bB;have jv:Hid _:=eY.1;have Ii:Hid _:=eY.2.2.1;clear eY bB;have C3:Hid (CR w ((w2.alloc (zg #[ze zd v0,ze zd v1,ze zd v2,ze zd v3,ze zd v4] 107)).alloc (zg #[] 205)) _ _):=CR.alloc (CR.alloc (C1.below hb) _) _;have fJ:Hid (((w2.alloc (zg #[ze zd v0,ze zd v1,ze zd v2,ze zd v3,ze zd v4] 107)).alloc (zg #[] 205)).heap[w2.heap.size]? =_):=xm _ _ _;have vh:Hid (((w2.alloc (zg #[ze zd v0,ze zd v1,ze zd v2,ze zd v3,ze zd v4] 107)).alloc (zg #[] 205)).heap[w2.heap.size+1]? =_):=xh _ _ _;have KV:Hid _:=za2 (C1.below hb).2.2;clear hb C1;obtain⟨q0,q1,q2,q3,q4⟩:=za7 fJ.X
  go_wp2_with fail
  clear q0 q1 q2 q3 q4;generalize(w2.alloc _).alloc _=W2 at*;generalize w2.heap.size=gv at*;have Ku:Hid (W2.ownsRow (gv+1) 205 4 (za (some ⟨gv+1,0,none⟩) 0 0) 0 []):=⟨by simp,.inr ⟨gv+1,0,#[],rfl,zT _,vh.X,zT _,xi _,by simp,by simp⟩⟩;have dG:Hid (z35 n (zd5 os ko ids) ids.length):=z59 mV.X mz.X ids;go_loopw[10,11,12,13] (fun sl nw pl t wr=>∃k gg cc:Nat,k<=ids.length/\t=ze zd k/\sl=za (some ⟨gg,0,none⟩) k cc/\gv+1<=gg/\wr.ownsRow (gv+1) 205 4 (za (some ⟨gg,0,none⟩) k cc) k (((y59 n zs (zd5 os ko ids) v1 v3 ids.length).take (k*4)).map (ze zd))/\pl=ze zd (plc (zd5 os ko ids) v1 k)/\nw=ze zd (zz9 n zs (zd5 os ko ids) v1 v3 k)/\zz8 n zs (zd5 os ko ids) v1 v3 k/\CR w wr #[ze zd n,za a zs.length ac,za ao ko co,za av kv cv,ze zd fine] #[ze zd ab,za bi ids.length c2]/\wr.heap[gv]? =some (zg #[ze zd v0,ze zd v1,ze zd v2,ze zd v3,ze zd v4] 107 (0,0))) (fun _ _ _ t _=>ids.length - (intOf t).toNat)
  case atStart=>exact⟨0,gv+1,0,xi _,rfl,rfl,zT _,by simpa using Ku.X,rfl,rfl,fun j hj=>by omega,C3.X,fJ.X⟩
  case round=>
   clear C3 fJ vh Ku;obtain⟨k,gg,cc,hk,rfl,rfl,vg,hw,rfl,rfl,KD,hb,jL⟩:=hrel;have aS:=zX3 dG.X jv.1 jv.2 k hk;have lL:=zS6 (home:=v1) di.X dG.X Ii.X k hk;have Ah:=za4 KD;have HB:=za4 hb;have bB:=za4 jL;have HW:=za4 hw;have u4:Hid _:=vg;obtain⟨c0,c1,bY,c3,c4⟩:=za7 hb.2.1;obtain⟨d0,d1⟩:=za1 hb.2.2;obtain⟨p,bj⟩:=nmd (plc (zd5 os ko ids) v1 k);obtain⟨f,fe⟩:=nmd (zz9 n zs (zd5 os ko ids) v1 v3 k);rw[bj.X]at aS;rw[fe.X]at lL;rw[bj.X,fe.X];have mv:Hid _:=aS;clear KD hb jL aS hw vg;by_cases ah:k<ids.length
   ·obtain⟨b,off,rfl,aJ⟩:=za3.some (za3.below HI.X HB.1) ah
    have ct:=aJ k ah;clear aJ;obtain⟨id,bG⟩:=nmd (ids.getD k 0);rw[bG.X]at ct;obtain⟨vG,Fr,F_,Eh,Gv⟩:=zR1 mV.X mz.X id;obtain⟨o0,H0⟩:=nmd (zd1 os ko id 0);obtain⟨o1,H1⟩:=nmd (zd1 os ko id 1);obtain⟨o2,H2⟩:=nmd (zd1 os ko id 2);obtain⟨o3,H3⟩:=nmd (zd1 os ko id 3);obtain⟨o4,H4⟩:=nmd (zd1 os ko id 4);obtain⟨o5,H5⟩:=nmd (zd1 os ko id 5);rw[H1.X]at vG;rw[H3.X]at F_;rw[H4.X]at Eh;rw[H5.X]at Gv;have fm:Hid _:=vG;clear vG Fr;obtain⟨d,HD⟩:=nmd (tmI n zs p o1);have j_:=zy3 di.X p o1;rw[HD.X]at j_;have K0:Hid (og6 (zd5 os ko ids) k 0=o0):=(zj7 os ko ids ah (by omega)).trans (by rw[bG.X];exact H0.X);have K1:Hid (og6 (zd5 os ko ids) k 1=o1):=(zj7 os ko ids ah (by omega)).trans (by rw[bG.X];exact H1.X);have K3:Hid (og6 (zd5 os ko ids) k 3=o3):=(zj7 os ko ids ah (by omega)).trans (by rw[bG.X];exact H3.X);have K4:Hid (og6 (zd5 os ko ids) k 4=o4):=(zj7 os ko ids ah (by omega)).trans (by rw[bG.X];exact H4.X);have K5:Hid (og6 (zd5 os ko ids) k 5=o5):=(zj7 os ko ids ah (by omega)).trans (by rw[bG.X];exact H5.X);obtain⟨mx,nv⟩:=nmd (max (f+d) o3);have Ay:Hid (yk4 n zs (zd5 os ko ids) v1 v3 k=f+d):=by
     show _=_;unfold yk4;rw[fe.X,bj.X,K1.X,HD.X]
    have i':Hid (zi1 n zs (zd5 os ko ids) v1 v3 k=mx):=by
     show _=_;unfold zi1;rw[Ay.X,K3.X,nv.X]
    have aY:Hid (zz9 n zs (zd5 os ko ids) v1 v3 (k+1)=mx+o5):=by
     show _=_;rw[zY4,i'.X,K5.X]
    have Nr:0<=mx/\mx<=3000000:=by
     have:=nv.X;omega
    obtain⟨tt,eQ⟩:=nmd (zl6 os ko id)
    go_wp2_with fail
    have ii:=za4 ct;have gT:Hid ((wr.alloc (zg #[ze zd 0,ze zd 0,ze zd 0,ze zd 0,ze zd 0,ze zd 0] 103)).cell? ⟨b,off+k,none⟩=_):=(((y5 wr.heap.size wr).alloc (zT _) _).cell (p:=⟨b,off+k,none⟩) (zV ct)).trans ct;have kL:Hid ((wr.alloc (zg #[ze zd 0,ze zd 0,ze zd 0,ze zd 0,ze zd 0,ze zd 0] 103)).heap[gv]? =_):=(xg _ _ (za2 bB.X)).trans bB.X;have cQ:=zV ct;simp at cQ;have aE:=za2 HB.2.1;have dX:=za2 HB.2.2
    go_region_held3 (fun W=>W.cell? ⟨w.heap.size,0,none⟩=some (ze zd n)/\W.cell? ⟨w.heap.size,1,none⟩=some (za a zs.length ac)/\W.cell? ⟨w.heap.size,2,none⟩=some (za ao ko co)/\W.cell? ⟨w.heap.size,3,none⟩=some (za av kv cv)/\W.cell? ⟨w.heap.size,4,none⟩=some (ze zd fine)/\W.cell? ⟨w.heap.size+1,1,none⟩=some (za (some ⟨b,off,none⟩) ids.length c2)/\W.cell? ⟨b,off+k,none⟩=some (ze zd id)) (first|with_reducible exact kS|with_reducible exact⟨(za5 (za5 (za5 (za5 (za5 (za5 kS.1 (y8 aE)) (y8 aE)) (y8 aE)) (y8 aE)) (y8 aE)) (y8 aE)),(za5 (za5 (za5 (za5 (za5 (za5 kS.2.1 (y8 aE)) (y8 aE)) (y8 aE)) (y8 aE)) (y8 aE)) (y8 aE)),(za5 (za5 (za5 (za5 (za5 (za5 kS.2.2.1 (y8 aE)) (y8 aE)) (y8 aE)) (y8 aE)) (y8 aE)) (y8 aE)),(za5 (za5 (za5 (za5 (za5 (za5 kS.2.2.2.1 (y8 aE)) (y8 aE)) (y8 aE)) (y8 aE)) (y8 aE)) (y8 aE)),(za5 (za5 (za5 (za5 (za5 (za5 kS.2.2.2.2.1 (y8 aE)) (y8 aE)) (y8 aE)) (y8 aE)) (y8 aE)) (y8 aE)),(za5 (za5 (za5 (za5 (za5 (za5 kS.2.2.2.2.2.1 (y8 dX)) (y8 dX)) (y8 dX)) (y8 dX)) (y8 dX)) (y8 dX)),(za5 (za5 (za5 (za5 (za5 (za5 kS.2.2.2.2.2.2 (y8 cQ)) (y8 cQ)) (y8 cQ)) (y8 cQ)) (y8 cQ)) (y8 cQ))⟩|go_keep) ((first
     |(go_at_call 88
       with_reducible refine(zr6 n fine id a ao av _ ac ko co kv cv os wr.drew ?_ aF.X ay).mono ?_
       ·exact HO.below HB.1.drew
       rintro e w2 ⟨rfl,aC⟩;rw[H0.X,H1.X,H2.X,H3.X,H4.X,H5.X,eQ.X];have aR:=CR.below (CR.drew HB.X) aC;obtain⟨k0,k1,k2,k3,k4⟩:=za7 aR.2.1;have k5:=(za1 aR.2.2).2;have k6:=(aC.cell (p:=⟨b,off+k,none⟩) (zV ii.X)).trans ii.X;have kS:=xr k0 (xr k1 (xr k2 (xr k3 (xr k4 (xr k5 k6)))));have fF:=za4 aR;have fy:=za4 (za0 aC (za2 bB.X) bB.X);have B2:Hid (Below wr.heap.size wr w2):=(y5 _ wr).drew.trans aC;clear aC aR k0 k1 k2 k3 k4 k5 k6)
     |(go_at_call 88
       with_reducible refine(zr6 n fine id a ao av _ ac ko co kv cv os (wr.alloc (zg #[ze zd 0,ze zd 0,ze zd 0,ze zd 0,ze zd 0,ze zd 0] 103)).drew ?_ aF.X ay).mono ?_
       ·exact HO.below (CR.alloc HB.X (zg #[ze zd 0,ze zd 0,ze zd 0,ze zd 0,ze zd 0,ze zd 0] 103)).1.drew
       rintro e w2 ⟨rfl,aC⟩;rw[H0.X,H1.X,H2.X,H3.X,H4.X,H5.X,eQ.X];have aR:=CR.below (CR.drew (CR.alloc HB.X (zg #[ze zd 0,ze zd 0,ze zd 0,ze zd 0,ze zd 0,ze zd 0] 103))) aC;obtain⟨k0,k1,k2,k3,k4⟩:=za7 aR.2.1;have k5:=(za1 aR.2.2).2;have k6:=(aC.cell (p:=⟨b,off+k,none⟩) (zV gT.X)).trans gT.X;have kS:=xr k0 (xr k1 (xr k2 (xr k3 (xr k4 (xr k5 k6)))));have fF:=za4 aR;have fy:=za4 (za0 aC (za2 kL.X) kL.X);obtain⟨z0,z1,z2,z3,z4,z5⟩:=zi2 (za0 aC (k:=wr.heap.size) (by simp) (zS wr (zg #[ze zd 0,ze zd 0,ze zd 0,ze zd 0,ze zd 0,ze zd 0] 103)));have zf:=fun i=>yZ _ _ i _ _ (za0 aC (k:=wr.heap.size) (by simp) (zS wr (zg #[ze zd 0,ze zd 0,ze zd 0,ze zd 0,ze zd 0,ze zd 0] 103)))
       have lR:Hid (w2.heap[wr.heap.size]? =_):=za0 aC (k:=wr.heap.size) (by simp) (zS wr (zg #[ze zd 0,ze zd 0,ze zd 0,ze zd 0,ze zd 0,ze zd 0] 103));have B2:Hid _:=((y5 _ wr).alloc (zT _) _).drew.trans (aC.mono (by simp));clear aC aR k0 k1 k2 k3 k4 k5 k6)))
    all_goals(first
     |(have ee:Hid (CR w (zj (zj (zj (zj (zj (zj w2 ⟨wr.heap.size,0,none⟩ (ze zd o0)) ⟨wr.heap.size,1,none⟩ (ze zd o1)) ⟨wr.heap.size,2,none⟩ (ze zd o2)) ⟨wr.heap.size,3,none⟩ (ze zd o3)) ⟨wr.heap.size,4,none⟩ (ze zd o4)) ⟨wr.heap.size,5,none⟩ (ze zd o5)) _ _):=CR.set (CR.set (CR.set (CR.set (CR.set (CR.set fF.X HB.big) HB.big) HB.big) HB.big) HB.big) HB.big
       have kU:Hid ((zj (zj (zj (zj (zj (zj w2 ⟨wr.heap.size,0,none⟩ (ze zd o0)) ⟨wr.heap.size,1,none⟩ (ze zd o1)) ⟨wr.heap.size,2,none⟩ (ze zd o2)) ⟨wr.heap.size,3,none⟩ (ze zd o3)) ⟨wr.heap.size,4,none⟩ (ze zd o4)) ⟨wr.heap.size,5,none⟩ (ze zd o5)).heap[gv]? =_):=za8 (za8 (za8 (za8 (za8 (za8 fy.X (y8 (za2 bB.X))) (y8 (za2 bB.X))) (y8 (za2 bB.X))) (y8 (za2 bB.X))) (y8 (za2 bB.X))) (y8 (za2 bB.X));have bD:Hid ((zj (zj (zj (zj (zj (zj w2 ⟨wr.heap.size,0,none⟩ (ze zd o0)) ⟨wr.heap.size,1,none⟩ (ze zd o1)) ⟨wr.heap.size,2,none⟩ (ze zd o2)) ⟨wr.heap.size,3,none⟩ (ze zd o3)) ⟨wr.heap.size,4,none⟩ (ze zd o4)) ⟨wr.heap.size,5,none⟩ (ze zd o5)).heap[wr.heap.size]? =_):=zT5 lR.X;have BW:Hid (∀base e size v n xs,wr.ownsRow base e size v n xs->World.ownsRow (zj (zj (zj (zj (zj (zj w2 ⟨wr.heap.size,0,none⟩ (ze zd o0)) ⟨wr.heap.size,1,none⟩ (ze zd o1)) ⟨wr.heap.size,2,none⟩ (ze zd o2)) ⟨wr.heap.size,3,none⟩ (ze zd o3)) ⟨wr.heap.size,4,none⟩ (ze zd o4)) ⟨wr.heap.size,5,none⟩ (ze zd o5)) base e size v n xs):=fun _ _ _ _ _ _ h=>zb9 h ((((((B2.setCell (zT _) _).setCell (zT _) _).setCell (zT _) _).setCell (zT _) _).setCell (zT _) _).setCell (zT _) _);clear kS fF fy lR ii gT kL ct z0 z1 z2 z3 z4 z5 zf;generalize(zj (zj (zj (zj (zj (zj w2 ⟨wr.heap.size,0,none⟩ (ze zd o0)) ⟨wr.heap.size,1,none⟩ (ze zd o1)) ⟨wr.heap.size,2,none⟩ (ze zd o2)) ⟨wr.heap.size,3,none⟩ (ze zd o3)) ⟨wr.heap.size,4,none⟩ (ze zd o4)) ⟨wr.heap.size,5,none⟩ (ze zd o5))=W at*;generalize wr.heap.size=g at*)
     |(have ee:Hid (CR w (w2.alloc (zg #[ze zd o0,ze zd o1,ze zd o2,ze zd o3,ze zd o4,ze zd o5] 103)) _ _):=CR.alloc fF.X _
       have kU:Hid ((w2.alloc (zg #[ze zd o0,ze zd o1,ze zd o2,ze zd o3,ze zd o4,ze zd o5] 103)).heap[gv]? =_):=(xg _ _ (za2 fy.X)).trans fy.X;have bD:Hid ((w2.alloc (zg #[ze zd o0,ze zd o1,ze zd o2,ze zd o3,ze zd o4,ze zd o5] 103)).heap[w2.heap.size]? =_):=zS _ _;have BW:Hid (∀base e size v n xs,wr.ownsRow base e size v n xs->(w2.alloc (zg #[ze zd o0,ze zd o1,ze zd o2,ze zd o3,ze zd o4,ze zd o5] 103)).ownsRow base e size v n xs):=fun _ _ _ _ _ _ h=>zb9 h (B2.alloc B2.size _);clear kS fF fy ii gT kL ct;generalize w2.alloc _=W at*;generalize w2.heap.size=g at*))
    all_goals
     clear c0 c1 bY c3 c4 d0 d1 aE dX cQ eQ;generalize tt=tt';have KN:Hid (W.ownsRow (gv+1) 205 4 _ k _):=BW.X _ _ _ _ _ _ HW.X;obtain⟨c0,c1,bY,c3,c4⟩:=za7 ee.2.1;obtain⟨p0,p1,p2,p3,p4,p5⟩:=zi2 bD.X
     go_wp2_with fail
     clear c0 c1 bY c3 c4 p0 p1 p2 p3 p4 p5;refine(z01 n p o1 _ _ zs _ d HD.X di.X mv.X fm.X (HA.below ee.1)).mono ?_;rintro e W3 ⟨rfl,cG⟩;have tV:=za4 (ee.below cG);have fJ:=za4 (za0 cG (za2 kU.X) kU.X);have vh:=za4 (za0 cG (za2 bD.X) bD.X);have Mq:=za4 (zb9 KN.X cG);clear cG ee kU bD KN BW;obtain⟨p0,p1,p2,p3,p4,p5⟩:=zi2 vh.X;by_cases fG:o4<mx
     ·have HN:Hid _:=cz.symm.trans (zG6 ah (by rw[K4.X,i'.X];exact fG))
      have AN:(f+d<o3/\mx=o3)∨(o3<=f+d/\mx=f+d):=by
       have:=nv.X;omega
      rcases AN with⟨vI,rfl⟩|⟨vI,rfl⟩
      all_goals
       clear nv;go_wp2;refine xe (v:=.tuple #[za none 0 0,ze zd 0,ze zd 5]) (by simp[results,Tryz.results128,go_sem]) rfl ⟨tV.1,.inl ⟨by rw[HN.X];decide,by rw[HN.X]⟩⟩
     ·have tX:mx<=o4:=by omega
      have rx:=za4 (zS4 Ah.X (by rw[K4.X,i'.X];exact tX));have AN:(f+d<o3/\mx=o3)∨(o3<=f+d/\mx=f+d):=by
       have:=nv.X;omega
      have Mp:Hid (gv+1<=W3.heap.size):=za2 fJ.X;clear fG;rcases AN with⟨vI,rfl⟩|⟨vI,rfl⟩
      all_goals
       clear nv
       go_wp2_with(first
        |(at_builtin;refine zO7 _ rfl _ _ rfl (gv+1) _ k _ rfl (Mq.alloc _) _ 1 _ rfl rfl (yp9 _ _ _ _ _ _ _ (by simp)) (by simp[zq]) (by omega) (xj Mp.X (by simp)) ?_;intro v' w4 hown4 aI;obtain⟨KZ,JK,rfl,Am⟩:=y74 hown4))
       replace aI:World.grownBy _ w4 (some gg):=aI;rw[yw3 n zs (zd5 os ko ids) v1 v3 ah K0.X Ay.X i'.X aY.X]at hown4;go_roundw
       case rel=>exact⟨k+1,KZ,JK,by omega,by go_num,rfl,Am,hown4,by rw[<-K1.X];rfl,by rw[aY.X],rx.X,(tV.alloc _).grown aI (by have:=u4.X;have:=KV.X;omega),(aI.block _ (xw (za2 fJ.X) (by simp)) (fun e=>by have h7:=u4.X;rw[x7]at e;omega)).trans ((xg _ _ (za2 fJ.X)).trans fJ.X)⟩
       case measure=>simp[intOf];omega
   ·have bt:k=ids.length:=by omega
    obtain⟨q0,q1,q2,q3,q4⟩:=za7 bB.X;have Cr:Hid (homeV n zs (zd5 os ko ids) ids.length v1 v3=f+tmI n zs p v1):=by
     show _=_;unfold homeV;rw[<-bt,fe.X,bj.X]
    have wt:=za4 (bt▸Ah.X);have Cd:Hid (za3 wr (some ⟨gg,0,none⟩) (y59 n zs (zd5 os ko ids) v1 v3 ids.length)):=by
     have:=HW.X;rw[xF (by rw[zG3];omega)]at this;exact zd4 this
    obtain⟨d,HD⟩:=nmd (tmI n zs p v1);have j_:=zy3 di.X p v1;rw[HD.X]at j_ Cr;have gV:(k:Int)=ids.length:=by omega
    have Md:Hid _:=bt;clear bt gV
    go_wp2_with fail
    refine(z01 n p v1 _ _ zs _ d HD.X di.X mv.X jv.X (HA.below HB.1)).mono ?_;rintro e W3 ⟨rfl,cG⟩;have tV:=za4 (HB.below cG);have fJ:=za4 (za0 cG (za2 bB.X) bB.X);have Im:=za4 (Cd.below cG);clear cG c0 c1 bY c3 c4 d0 d1 q0 q1 q2 q3 q4;obtain⟨q0,q1,q2,q3,q4⟩:=za7 fJ.X;by_cases gj:v4<f+d
    ·have HN:Hid _:=cz.symm.trans (zF8 wt.X (by rw[Cr.X];exact gj))
     go_wp2;refine xe (v:=.tuple #[za none 0 0,ze zd 0,ze zd 6]) (by simp[results,Tryz.results128,go_sem]) rfl ⟨tV.1,.inl ⟨by rw[HN.X];decide,by rw[HN.X]⟩⟩
    ·have HN:Hid _:=cz.symm.trans (zZ7 wt.X (by rw[Cr.X];exact gj))
     go_wp2;refine xe (v:=.tuple #[za (some ⟨gg,0,none⟩) k cc,ze zd (f+d),ze zd 0]) (by simp[results,Tryz.results128,go_sem]) rfl ⟨tV.1,.inr ⟨HN.X,gg,cc,by have:=u4.X;have:=KV.X;omega,?_,?_⟩⟩
     ·rw[G1.X,G3.X,Cr.X,Md.X]
     ·rw[G1.X,G3.X]
      exact Im.X
 ·have bB:Hid _:=eW.symm.trans ((z89 (by rw[eW.X];exact oG)).symm.trans HR.X)
  have my:(fv !=0)=true:=by simp[oG]
  have HF:=za4 oG;clear oG;go_wp2;refine xe (v:=.tuple #[za none 0 0,ze zd 0,ze zd fv]) (by simp[results,Tryz.results128,go_sem]) rfl ⟨C1.1,.inl ⟨by rw[<-bB.X];exact HF.X,by rw[bB.X]⟩⟩
theorem yk8{W:zi}{g o k i:Nat}{zs:List Int}{v:Value}(h:za3 W (some ⟨g,o,none⟩) zs)(aq:g≠k):za3 (W.setCell ⟨k,i,none⟩ v) (some ⟨g,o,none⟩) zs:=by
 intro j hj;exact⟨g,o,rfl,za5 (zs6 h hj rfl) aq⟩
theorem zk3{w:zi}{k:Nat}{c0 c1 c2 c3 c4 c5 c6 c7:Value}{T:TypeId}(r:w.heap[k]? =some (zg #[c0,c1,c2,c3,c4,c5,c6,c7] T (0,0))):
 w.cell? ⟨k,0,none⟩=some c0/\w.cell? ⟨k,1,none⟩=some c1/\w.cell? ⟨k,2,none⟩=some c2/\w.cell? ⟨k,3,none⟩=some c3/\w.cell? ⟨k,4,none⟩=some c4/\w.cell? ⟨k,5,none⟩=some c5/\w.cell? ⟨k,6,none⟩=some c6/\w.cell? ⟨k,7,none⟩=some c7:=by
 refine⟨?_,?_,?_,?_,?_,?_,?_,?_⟩
 ·rw[zU _ _ 0 _ _ _ r];simp
 ·rw[zU _ _ 1 _ _ _ r];simp
 ·rw[zU _ _ 2 _ _ _ r];simp
 ·rw[zU _ _ 3 _ _ _ r];simp
 ·rw[zU _ _ 4 _ _ _ r];simp
 ·rw[zU _ _ 5 _ _ _ r];simp
 ·rw[zU _ _ 6 _ _ _ r];simp
 ·rw[zU _ _ 7 _ _ _ r];simp
theorem z55(n lo hi:Int)(w:zi)(v:Bool)(hv:inB n lo hi=v):
 Calls zh 32 #[ze zd n,ze zd lo,ze zd hi] w fun e w'=>e=.returned (.bool v)/\w'=w:=hv▸zc2 n lo hi w
end Go.Proofs.YtkchnomkiboihaaGreat
namespace Go.Proofs.YtkchnomkiboihaaGreat
open Q
end Go.Proofs.YtkchnomkiboihaaGreat
namespace Go.Proofs.YtkchnomkiboihaaGreat
open Value renaming slice→za,int→ze,ownBlock→zm,oneCell'→zq
open IntKind renaming i64→zd
open Obj renaming cells→zg
open Proofs.Tryz renaming prog→zh
open Go renaming World→zi
open World renaming setCell→zj
open Region renaming wanted→zn
open Callee renaming builtin→zw
open Builtin renaming append→zx
open List renaming getD→zy
open Oper renaming wp→zF
open Op renaming call→zH
open Addr renaming add→zN
open Go.RowKit
open Q
def yf8(w:zi)(ch:Bool)(ab D:Int)(xs:List Int)(e:Ending)(w':zi):Prop:=
 Below w.heap.size w w'/\∃ad c,e=.returned (.tuple #[.agg #[ze zd (chI ch ab),za ad xs.length c],ze zd D,.bool ch])/\w'.ownsRow w.heap.size 2 1 (za ad xs.length c) xs.length (xs.map (ze zd))
def CRR(w W:zi)(cs rs ts:Array Value):Prop:=CR w W cs rs/\W.heap[w.heap.size+2]? =some (.cells ts 80 (0,0))
theorem CRR.new(w:zi)(cs rs ts:Array Value):CRR w (((w.alloc (.cells cs 30)).alloc (.cells rs 80)).alloc (.cells ts 80)) cs rs ts:=
 ⟨(CR.new w cs rs).alloc _,by have:=zS ((w.alloc (.cells cs 30)).alloc (.cells rs 80)) (.cells ts 80);simpa using this⟩
theorem CRR.below{w W W':zi}{cs rs ts:Array Value}(h:CRR w W cs rs ts)(hb:Below W.heap.size W W'):CRR w W' cs rs ts:=
 ⟨h.1.below hb,za0 hb (za2 h.2) h.2⟩
theorem CRR.b{w W:zi}{cs rs ts:Array Value}(h:CRR w W cs rs ts):Below w.heap.size w W:=h.1.1
theorem CRR.alloc{w W:zi}{cs rs ts:Array Value}(h:CRR w W cs rs ts)(o:Obj):CRR w (W.alloc o) cs rs ts:=h.below (zP _)
theorem CRR.big{w W:zi}{cs rs ts:Array Value}(h:CRR w W cs rs ts):w.heap.size+2<W.heap.size:=za2 h.2
theorem CRR.set{w W:zi}{cs rs ts:Array Value}(h:CRR w W cs rs ts)(u1 u2:Value):CR w ((W.setCell ⟨w.heap.size+1+1,0,none⟩ u1).setCell ⟨w.heap.size+1+1,1,none⟩ u2) cs rs:=(h.1.set (by omega)).set (by omega)
theorem cr7{w W:zi}{c0 c1 c2 c3 c4 r0 r1:Value}(h:CR w W #[c0,c1,c2,c3,c4] #[r0,r1]):
 W.cell? ⟨w.heap.size,0,none⟩=some c0/\W.cell? ⟨w.heap.size,1,none⟩=some c1/\W.cell? ⟨w.heap.size,2,none⟩=some c2/\W.cell? ⟨w.heap.size,3,none⟩=some c3/\W.cell? ⟨w.heap.size,4,none⟩=some c4/\W.cell? ⟨w.heap.size+1,0,none⟩=some r0/\W.cell? ⟨w.heap.size+1,1,none⟩=some r1:=by
 obtain⟨k0,k1,k2,k3,k4⟩:=za7 h.2.1;obtain⟨k5,k6⟩:=za1 h.2.2;exact⟨k0,k1,k2,k3,k4,k5,k6⟩
theorem yK4:(Tryz.prog.info? 2).map (fun i=>(i.zero,i.size,i.bytes))=some (some (ze zd 0),1,8):=by kernel_rfl
theorem zr8:∃i0,Tryz.prog.info? 2=some i0/\i0.zero=some (ze zd 0)/\i0.size=1/\i0.bytes=8:=by
 have h:=yK4;cases hq:Tryz.prog.info? 2 with
 |none=>rw[hq]at h;simp at h
 |some i0=>
  rw[hq]at h;simp only[yG,x7,qw]at h;exact⟨i0,rfl,h.1,h.2.1,h.2.2⟩
theorem y20{W:zi}{b off:Nat}{ys:List Int}(h:za3 W (some ⟨b,off,none⟩) ys):∀j u,(ys.map (ze zd))[j]? =some u->W.cell? ((⟨b,off,none⟩:Addr).add j)=some u:=by
 intro j u hu;have hj:j<ys.length:=by
  rcases qp j ys.length with h'|h'
  ·exact h'
  ·simp[yg (by simpa using h':(ys.map (ze zd)).length<=j)]at hu
 obtain⟨b',aT,e,hc⟩:=h j hj;simp at e;obtain⟨rfl,rfl⟩:=e;have dO:(⟨b,off,none⟩:Addr).add j=⟨b,off+j,none⟩:=by unfold zN;split<;>simp_all
 rw[dO,hc,<-hu];simp[zy,hj]
theorem zd7{ap:Array Oper}{o:Oper}{a:Act}{w:zi}{K:Act->zi->Prop}{Q:Exit->Act->zi->Prop}{E:Prop}
 (hg:o.guard=none) (s x:Operand) (dw:o.op=zH {callee:=zw zx,bm:=#[s,x],argTypes:=#[24,24]})
 (base:Nat) (v:Value) (xs:List Int) (k:Nat) (hs:a.eval s=v) (ae:w.ownsRow base 2 1 v k (xs.map (ze zd))) (b off m c:Nat) (ys:List Int) (hx:a.eval x=za (some ⟨b,off,none⟩) m c)
 (hy:ys.length=m) (hc:za3 w (some ⟨b,off,none⟩) ys) (b1:k<=1000) (b2:m<=1000) (hb:base<=w.heap.size)
 (hK:∀v' w',w'.ownsRow base 2 1 v' (k+m) ((xs++ys).map (ze zd))->w.grownBy w' v.ownBlock->(v'=za none 0 0↔v=za none 0 0/\m=0)->K (a.put o.dst v') w'):
 if zn o (yielded ap a.tmps)=true then zF zh o a w K Q else E:=by
 have hw:zn o (yielded ap a.tmps)=true:=by simp[zn,hg]
 rw[z7 hw];obtain⟨i0,hi,bO,ba,bS⟩:=zr8;obtain⟨v',w',aQ,r1,r2,r3⟩:=qy (P:=zh) w base 24 o.type _ i0 _ 1 8 qb hi bO ba bS rfl (by decide) v k (xs.map (ze zd)) ae ⟨b,off,none⟩ m c (ys.map (ze zd)) (by simp[hy]) (y20 hc) (by simp[zq]) (by unfold maxLen;omega) (by omega) hb;unfold zF;simp[execOp,dw,resolve,invoke,builtin,hs,hx,aQ,Result.andThen];exact hK _ _ (by rw[x8];exact r1) r2 r3
theorem z08{ap:Array Oper}{o:Oper}{a:Act}{w:zi}{K:Act->zi->Prop}{Q:Exit->Act->zi->Prop}{E:Prop}
 (hg:o.guard=none) (s x:Operand) (dw:o.op=zH {callee:=zw zx,bm:=#[s,x],argTypes:=#[24,24]})
 (base:Nat) (v:Value) (xs:List Int) (k:Nat) (hs:a.eval s=v) (ae:w.ownsRow base 2 1 v k (xs.map (ze zd))) (ad:Option Addr) (m c:Nat) (ys:List Int) (hx:a.eval x=za ad m c)
 (mq:∃b off,ad=some ⟨b,off,none⟩) (hy:ys.length=m) (hc:za3 w ad ys) (b1:k<=1000) (b2:m<=1000) (hb:base<=w.heap.size)
 (hK:∀v' w',w'.ownsRow base 2 1 v' (k+m) ((xs++ys).map (ze zd))->w.grownBy w' v.ownBlock->(v'=za none 0 0↔v=za none 0 0/\m=0)->K (a.put o.dst v') w'):
 if zn o (yielded ap a.tmps)=true then zF zh o a w K Q else E:=by
 obtain⟨b,off,rfl⟩:=mq;exact zd7 hg s x dw base v xs k hs ae b off m c ys hx hy hc b1 b2 hb hK
theorem CRR.grown{w W W':zi}{cs rs ts:Array Value}{row:Option Nat}(h:CRR w W cs rs ts)(hg:W.grownBy W' row)(ah:∀g,row=some g->w.heap.size+2<g):CRR w W' cs rs ts:=
 ⟨⟨h.1.1.grown hg h.1.1.size (fun k e=>by have:=ah k e;omega),(hg.block _ (za2 h.1.2.1) (fun e=>by have:=ah _ e.symm;omega)).trans h.1.2.1,(hg.block _ (za2 h.1.2.2) (fun e=>by have:=ah _ e.symm;omega)).trans h.1.2.2⟩,(hg.block _ (za2 h.2) (fun e=>by have:=ah _ e.symm;omega)).trans h.2⟩
theorem CRR.put{w W:zi}{cs rs ts:Array Value}(h:CRR w W cs rs ts){k i:Nat}{v:Value}(hk:w.heap.size+2<k):CRR w (W.setCell ⟨k,i,none⟩ v) cs rs ts:=
 ⟨h.1.set (by omega),za8 h.2 (by omega)⟩
theorem CRR.drew{w W:zi}{cs rs ts:Array Value}(h:CRR w W cs rs ts):CRR w W.drew cs rs ts:=h.below (y5 _ _).drew
def OX(w W:zi)(B ko:Nat)(cs rs ts:Array Value)(ab:Int)(sl:Value)(ys:List Int):Prop:=
 CRR w W cs rs ts/\W.heap[ko]? =some (zg #[ze zd ab,sl] 80 (0,0))/\B<=ko/\w.heap.size+2<B/\W.ownsRow B 2 1 sl ys.length (ys.map (ze zd))
theorem OX.c{w W:zi}{B ko:Nat}{cs rs ts:Array Value}{ab:Int}{sl:Value}{ys:List Int}(h:OX w W B ko cs rs ts ab sl ys):CRR w W cs rs ts:=h.1
theorem OX.b{w W:zi}{B ko:Nat}{cs rs ts:Array Value}{ab:Int}{sl:Value}{ys:List Int}(h:OX w W B ko cs rs ts ab sl ys):Below w.heap.size w W:=h.1.1.1
theorem OX.o{w W:zi}{B ko:Nat}{cs rs ts:Array Value}{ab:Int}{sl:Value}{ys:List Int}(h:OX w W B ko cs rs ts ab sl ys):W.ownsRow B 2 1 sl ys.length (ys.map (ze zd)):=h.2.2.2.2
theorem OX.below{w W W':zi}{B ko:Nat}{cs rs ts:Array Value}{ab:Int}{sl:Value}{ys:List Int}(h:OX w W B ko cs rs ts ab sl ys)(hb:Below W.heap.size W W'):OX w W' B ko cs rs ts ab sl ys:=
 ⟨h.1.below hb,za0 hb (za2 h.2.1) h.2.1,h.2.2.1,h.2.2.2.1,zb9 h.2.2.2.2 hb⟩
theorem OX.drew{w W:zi}{B ko:Nat}{cs rs ts:Array Value}{ab:Int}{sl:Value}{ys:List Int}(h:OX w W B ko cs rs ts ab sl ys):OX w W.drew B ko cs rs ts ab sl ys:=h.below (y5 _ _).drew
theorem zF3{w:zi}{base k ko:Nat}{v:Value}{size:Nat}{xs:List Value}{cs:Array Value}(h:w.ownsRow base 2 size v k xs)(hk:w.heap[ko]? =some (.cells cs 80 (0,0))):v.ownBlock≠some ko:=by
 intro e;obtain⟨_,⟨rfl,_⟩|⟨g,ac,az,rfl,_,h4,_⟩⟩:=h
 ·cases e
 ·have:g=ko:=by simpa[zm]using e
  subst this;rw[h4]at hk;simp at hk
theorem OX.grow{w W W':zi}{B ko:Nat}{cs rs ts:Array Value}{ab:Int}{sl df:Value}{ys Gn:List Int}(h:OX w W B ko cs rs ts ab sl ys)(hg:W.grownBy W' sl.ownBlock)(ho:W'.ownsRow B 2 1 df Gn.length (Gn.map (ze zd))):
 OX w ((W'.setCell ⟨ko,1,none⟩ df)) B ko cs rs ts ab df Gn:=by
 have hk:=(hg.block _ (za2 h.2.1) (fun e=>zF3 h.2.2.2.2 h.2.1 e.symm)).trans h.2.1;refine⟨(h.1.grown hg (fun g e=> ?_)).put ?_,?_,h.2.2.1,h.2.2.2.1,?_⟩
 ·have:=(h.2.2.2.2.lt g e).1;have:=h.2.2.2.1;omega
 ·have:=h.2.2.1;have:=h.2.2.2.1;omega
 ·have:=xb W' ko 1 _ _ df hk
  simpa using this
 ·exact qm ho (zF3 ho hk) df
theorem yJ9(w1:zi):((w1.alloc (zg #[] 2)).drew).ownsRow w1.heap.size 2 1 (za (some ⟨w1.heap.size,0,none⟩) 0 0) 0 (([]:List Int).map (ze zd)):=
 zb9 (qo w1 #[] 0 (zT _) (by unfold maxLen;omega) (by simp)) (y5 _ _).drew
theorem yH9(w1:zi)(o:Obj):(((w1.alloc (zg #[] 2)).alloc o).drew).ownsRow w1.heap.size 2 1 (za (some ⟨w1.heap.size,0,none⟩) 0 0) 0 (([]:List Int).map (ze zd)):=
 zb9 (qo w1 #[] 0 (zT _) (by unfold maxLen;omega) (by simp)) (zP _).drew
theorem yJ2(w1:zi)(o:Obj):(((w1.alloc o).alloc (zg #[] 2)).drew).ownsRow w1.heap.size 2 1 (za (some ⟨w1.heap.size+1,0,none⟩) 0 0) 0 (([]:List Int).map (ze zd)):=by
 have:=zb9 (qo (base:=w1.heap.size) (e:=2) (size:=1) (w1.alloc o) #[] 0 (by simp) (by unfold maxLen;omega) (by simp)) (y5 _ _).drew;simpa using this
theorem z79(w1:zi)(o:Obj):(w1.alloc o).heap.size=w1.heap.size+1:=by simp
theorem OX.newa{w w1 w':zi}{cs rs ts:Array Value}{ab:Int}{sl:Value}{ys:List Int}{o:Obj}(h:CRR w w1 cs rs ts)(hg:((w1.alloc o).drew).grownBy w' (some w1.heap.size))(ho:w'.ownsRow w1.heap.size 2 1 sl ys.length (ys.map (ze zd))):
 OX w (w'.alloc (zg #[ze zd ab,sl] 80)) w1.heap.size w'.heap.size cs rs ts ab sl ys:=
 ⟨(((h.alloc o).drew).grown hg (fun g e=>by cases e;exact h.big)).alloc _,zS _ _,by have:=hg.size;have e:=z79 w1 o;have:(w1.alloc o).drew.heap.size=w1.heap.size+1:=e;omega,h.big,ho.alloc _⟩
theorem OX.newb{w w1 w':zi}{cs rs ts:Array Value}{ab:Int}{sl z0 z1:Value}{ys:List Int}{o:Obj}(h:CRR w w1 cs rs ts)(hg:(((w1.alloc o).alloc (zg #[z0,z1] 80)).drew).grownBy w' (some w1.heap.size))(ho:w'.ownsRow w1.heap.size 2 1 sl ys.length (ys.map (ze zd))):
 OX w ((w'.setCell ⟨w1.heap.size+1,0,none⟩ (ze zd ab)).setCell ⟨w1.heap.size+1,1,none⟩ sl) w1.heap.size (w1.heap.size+1) cs rs ts ab sl ys:=by
 have eC:(((w1.alloc o).alloc (zg #[z0,z1] 80)).drew).heap[w1.heap.size+1]? =some (zg #[z0,z1] 80 (0,0)):=by
  have:=zS (w1.alloc o) (zg #[z0,z1] 80);rw[z79]at this;exact this
 have hk:w'.heap[w1.heap.size+1]? =some (zg #[z0,z1] 80 (0,0)):=(hg.block _ (za2 eC) (fun e=>by simp at e)).trans eC;have hb:=h.big;have s1:=xb w' (w1.heap.size+1) 0 _ _ (ze zd ab) hk;have s2:=xb _ (w1.heap.size+1) 1 _ _ sl s1;refine⟨((((h.alloc o).alloc _).drew.grown hg (fun g e=>by cases e;exact hb)).put (by omega)).put (by omega),by simpa using s2,by omega,hb,?_⟩;exact qm (qm ho (zF3 ho hk) _) (zF3 ho hk) _
theorem OX.newc{w w1 w':zi}{cs rs ts:Array Value}{ab:Int}{sl z0 z1:Value}{ys:List Int}{o:Obj}(h:CRR w w1 cs rs ts)(hg:(((w1.alloc (zg #[z0,z1] 80)).alloc o).drew).grownBy w' (some (w1.heap.size+1)))(ho:w'.ownsRow w1.heap.size 2 1 sl ys.length (ys.map (ze zd))):
 OX w ((w'.setCell ⟨w1.heap.size,0,none⟩ (ze zd ab)).setCell ⟨w1.heap.size,1,none⟩ sl) w1.heap.size w1.heap.size cs rs ts ab sl ys:=by
 have eC:(((w1.alloc (zg #[z0,z1] 80)).alloc o).drew).heap[w1.heap.size]? =some (zg #[z0,z1] 80 (0,0)):=xm _ _ _;have hk:w'.heap[w1.heap.size]? =some (zg #[z0,z1] 80 (0,0)):=(hg.block _ (za2 eC) (fun e=>by simp at e)).trans eC;have hb:=h.big;have s1:=xb w' w1.heap.size 0 _ _ (ze zd ab) hk;have s2:=xb _ w1.heap.size 1 _ _ sl s1;refine⟨((((h.alloc _).alloc o).drew.grown hg (fun g e=>by cases e;omega)).put (by omega)).put (by omega),by simpa using s2,by omega,hb,?_⟩;exact qm (qm ho (zF3 ho hk) _) (zF3 ho hk) _
theorem yK9{w1 w2:zi}{o:Obj}{cs:Array Value}{T:TypeId}(hg:(((w1.alloc o).alloc (.cells cs T)).drew).grownBy w2 (some w1.heap.size)):w2.heap[w1.heap.size+1]? =some (.cells cs T (0,0)):=by
 have eC:(((w1.alloc o).alloc (.cells cs T)).drew).heap[w1.heap.size+1]? =some (.cells cs T (0,0)):=by
  have:=zS (w1.alloc o) (.cells cs T);rw[z79]at this;exact this
 exact(hg.block _ (za2 eC) (fun e=>by simp at e)).trans eC
theorem yK8{w1 w2:zi}{o:Obj}{cs:Array Value}{T:TypeId}(hg:(((w1.alloc (.cells cs T)).alloc o).drew).grownBy w2 (some (w1.heap.size+1))):w2.heap[w1.heap.size]? =some (.cells cs T (0,0)):=by
 have eC:(((w1.alloc (.cells cs T)).alloc o).drew).heap[w1.heap.size]? =some (.cells cs T (0,0)):=xm _ _ _;exact(hg.block _ (za2 eC) (fun e=>by simp at e)).trans eC
theorem yg2{w:zi}{base n:Nat}{v:Value}{e:TypeId}{xs:List Int}(h:w.ownsRow base e 1 v (0+n) (([]++xs).map (ze zd)))(hl:xs.length=n):w.ownsRow base e 1 v xs.length (xs.map (ze zd)):=by
 rw[yb]at h;rw[hl];exact h
theorem zD7{w:zi}{base n m:Nat}{v:Value}{e:TypeId}{xs ys:List Int}(h:w.ownsRow base e 1 v (n+m) ((xs++ys).map (ze zd)))(hx:xs.length=n)(hy:ys.length=m):w.ownsRow base e 1 v (xs++ys).length ((xs++ys).map (ze zd)):=by
 rw[xY,hx,hy];exact h
theorem yr8{w:zi}{base n:Nat}{v:Value}{e:TypeId}{xs:List Int}(h:w.ownsRow base e 1 v xs.length (xs.map (ze zd)))(hl:xs.length=n):w.ownsRow base e 1 v n (xs.map (ze zd)):=by
 rw[<-hl];exact h
theorem yz3{w:zi}{base k g c:Nat}{e:TypeId}{size:Nat}{xs:List Value}(h:w.ownsRow base e size (za (some ⟨g,0,none⟩) k c) k xs):k<=c/\k<=9223372036854775807:=by
 obtain⟨_,⟨h1,_⟩|⟨g',ac,az,h2,_,_,h5,h6,_⟩⟩:=h
 ·cases h1
 ·simp at h2
  obtain⟨rfl,rfl⟩:=h2;unfold maxLen at h6;exact⟨h5,by omega⟩
theorem yI1{c:Bool}{n:Int}{zs os vs:List Int}{ko kv:Nat}{ab:Int}{ids:List Int}(h:codeV c n zs os vs ko kv ab ids=0):rcV n zs os vs ko kv ab ids=zq1 n zs (zd5 os ko ids) ids.length (zc4 vs kv ab 1):=by
 have hc:=zH7 h;rw[hc]at h;exact z15 h
theorem yr5{ch c:Bool}{n:Int}{zs os vs:List Int}{ko kv:Nat}{ab:Int}{ids aK:List Int}(h:ch=true)(h1:codeV c n zs os vs ko kv ab ids=0)(h2:codeV c n zs os vs ko kv ab aK=0):
 chD ch n zs os vs ko kv ab ids aK=zq1 n zs (zd5 os ko aK) aK.length (zc4 vs kv ab 1) - zq1 n zs (zd5 os ko ids) ids.length (zc4 vs kv ab 1):=by
 subst h;unfold chD;rw[z7 rfl,yI1 h1,yI1 h2]
theorem zY1{w1 X:zi}{b o:Nat}{v:Value}(hc:w1.cell? ⟨b,o,none⟩=some v)(hb:Below w1.heap.size w1 X):X.cell? ⟨b,o,none⟩=some v:=by
 rw[hb.cell (p:=⟨b,o,none⟩) (zV hc)];exact hc
theorem zU4{W:zi}{a:Option Addr}{ids:List Int}(h:za3 W a ids)(i:Nat):za3 W a (ids.take i):=by
 intro j hj;simp at hj;obtain⟨b,off,e,hc⟩:=h j (by omega);refine⟨b,off,e,hc.trans ?_⟩;simp only[zy,yL];rw[z7 (by omega)]
theorem yy0{W:zi}{b off:Nat}{ids:List Int}(h:za3 W (some ⟨b,off,none⟩) ids)(i:Nat):za3 W (some ⟨b,off+i,none⟩) (ids.drop i):=by
 intro j hj;simp at hj;obtain⟨b',aT,e,hc⟩:=h (i+j) (by omega);simp at e;obtain⟨rfl,rfl⟩:=e;refine⟨b,off+i,rfl,?_⟩;rw[yz,hc];simp[zy,qr]
theorem yj7{W:zi}{b off:Nat}{ids:List Int}(h:za3 W (some ⟨b,off,none⟩) ids)(i c2:Nat)(hc:ids.length<=c2):za3 W (if c2=i then some ⟨b,off,none⟩else some ⟨b,off+i,none⟩) (ids.drop i):=by
 by_cases e:c2=i
 ·rw[z7 e,List.drop_eq_nil_of_le (by omega)]
  intro j hj;simp at hj
 ·rw[ye e]
  exact yy0 h i
theorem yk3(b off i c2:Nat):∃b' aT,(if c2=i then some (⟨b,off,none⟩:Addr)else some ⟨b,off+i,none⟩)=some ⟨b',aT,none⟩:=by
 split
 ·exact⟨_,_,rfl⟩
 ·exact⟨_,_,rfl⟩
theorem OX.keep{w W W':zi}{B ko:Nat}{cs ts:Array Value}{r0 r1:Value}{ab:Int}{sl:Value}{ys:List Int}(h:OX w W B ko cs #[r0,r1] ts ab sl ys)(hg:W.grownBy W' sl.ownBlock):
 W'.cell? ⟨w.heap.size+1,1,none⟩=some r1/\W'.cell? ⟨ko,1,none⟩=some sl/\(∀i,W'.frozen? ⟨ko,i,none⟩=false):=by
 have hk:=(hg.block _ (za2 h.2.1) (fun e=>zF3 h.2.2.2.2 h.2.1 e.symm)).trans h.2.1;have hc:=(h.1.grown hg (fun g e=>by have:=(h.2.2.2.2.lt g e).1;have:=h.2.2.2.1;omega)).1.2.2;exact⟨(za1 hc).2,(za1 hk).2,fun i=>yZ _ _ i _ _ hk⟩
theorem OX.size{w W:zi}{B ko:Nat}{cs rs ts:Array Value}{ab:Int}{sl:Value}{ys:List Int}(h:OX w W B ko cs rs ts ab sl ys):B<=W.heap.size:=by
 have:=h.2.2.1;have:=za2 h.2.1;omega
theorem ox9{w W:zi}{B ko:Nat}{c0 c1 c2 c3 c4 r0 r1:Value}{ts:Array Value}{ab:Int}{sl:Value}{ys:List Int}(h:OX w W B ko #[c0,c1,c2,c3,c4] #[r0,r1] ts ab sl ys):
 W.cell? ⟨w.heap.size,0,none⟩=some c0/\W.cell? ⟨w.heap.size,1,none⟩=some c1/\W.cell? ⟨w.heap.size,2,none⟩=some c2/\W.cell? ⟨w.heap.size,3,none⟩=some c3/\W.cell? ⟨w.heap.size,4,none⟩=some c4/\W.cell? ⟨w.heap.size+1,0,none⟩=some r0/\W.cell? ⟨w.heap.size+1,1,none⟩=some r1/\W.cell? ⟨ko,0,none⟩=some (ze zd ab)/\W.cell? ⟨ko,1,none⟩=some sl:=by
 obtain⟨k0,k1,k2,k3,k4⟩:=za7 h.1.1.2.1;obtain⟨k5,k6⟩:=za1 h.1.1.2.2;obtain⟨k7,k8⟩:=za1 h.2.1;exact⟨k0,k1,k2,k3,k4,k5,k6,k7,k8⟩
theorem yM7{w W:zi}{B ko:Nat}{c0 c1 c2 c3 c4 r0 r1:Value}{ts:Array Value}{ab:Int}{sl:Value}{ys:List Int}(h:OX w W B ko #[c0,c1,c2,c3,c4] #[r0,r1] ts ab sl ys)(u1 u2:Value):
 (fun X:zi=>X.cell? ⟨w.heap.size,0,none⟩=some c0/\X.cell? ⟨w.heap.size,1,none⟩=some c1/\X.cell? ⟨w.heap.size,2,none⟩=some c2/\X.cell? ⟨w.heap.size,3,none⟩=some c3/\X.cell? ⟨w.heap.size,4,none⟩=some c4/\X.cell? ⟨w.heap.size+1,0,none⟩=some r0/\X.cell? ⟨w.heap.size+1,1,none⟩=some r1/\X.cell? ⟨ko,0,none⟩=some (ze zd ab)/\X.cell? ⟨ko,1,none⟩=some sl) ((W.setCell ⟨w.heap.size+1+1,0,none⟩ u1).setCell ⟨w.heap.size+1+1,1,none⟩ u2):=by
 have hc:=h.1.set u1 u2;obtain⟨k0,k1,k2,k3,k4,k5,k6⟩:=cr7 hc;obtain⟨k7,k8⟩:=za1 h.2.1;have aq:ko≠w.heap.size+1+1:=by have:=h.2.2.1;have:=h.2.2.2.1;omega
 exact⟨k0,k1,k2,k3,k4,k5,k6,za5 (za5 k7 aq) aq,za5 (za5 k8 aq) aq⟩
theorem zB1{w:zi}{base k n:Nat}{v:Value}{e:TypeId}{size:Nat}{xs:List Value}(h:w.ownsRow base e size v k xs)(aq:v≠za none 0 0)(hk:k=n):∃g c,v=za (some ⟨g,0,none⟩) n c:=by
 subst hk;rcases zm0 h with h1|h1
 ·exact absurd h1 aq
 ·exact h1
theorem zn2{w W w2:zi}{row:Option Nat}{cs ts:Array Value}{r0 r1:Value}(hg:W.grownBy w2 row)(h:CRR w W cs #[r0,r1] ts)(hr:∀g,row=some g->w.heap.size+2<g):w2.cell? ⟨w.heap.size+1,0,none⟩=some r0/\w2.cell? ⟨w.heap.size+1,1,none⟩=some r1:=za1 (h.grown hg hr).1.2.2
def zm9(L:List Int)(x:Int):List Int:=L.filter (fun y=>decide (y≠x))
theorem ys4{L:List Int}{x:Int}{k:Nat}(hk:k<L.length)(h:L.getD k 0≠x):zm9 (L.take (k+1)) x=zm9 (L.take k) x++[L.getD k 0]:=by
 have e:L.take (k+1)=L.take k++[L.getD k 0]:=by
  rw[yI,zQ,zR hk];rfl
 unfold zm9;rw[e,yP];clear e;generalize L.getD k 0=y at*;simp[h]
theorem yv4{L:List Int}{x:Int}{k:Nat}(hk:k<L.length)(h:L.getD k 0=x):zm9 (L.take (k+1)) x=zm9 (L.take k) x:=by
 have e:L.take (k+1)=L.take k++[L.getD k 0]:=by
  rw[yI,zQ,zR hk];rfl
 unfold zm9;rw[e,yP];clear e;generalize L.getD k 0=y at*;simp[h]
theorem zG0(L:List Int)(x:Int):(zm9 L x).length<=L.length:=yp _ _
theorem y16(L:List Int)(x:Int)(k:Nat):(zm9 (L.take k) x).length<=k:=xj (zG0 _ _) (List.length_take_le _ _)
theorem y85{L:List Int}{x y:Int}(h:y∈zm9 L x):y∈L:=(qi.1 h).1
theorem zF1(bi:Option Addr)(c m:Nat)(L:List Int)(x:Int)(w:zi)(hA:za3 w bi L)(hm:L.length=m)(hl:m<=900):
 Calls zh 73 #[za bi m c,ze zd x] w fun e w'=>∃g cc,e=.returned (za (some ⟨g,0,none⟩) (zm9 L x).length cc)/\Below w.heap.size w w'/\w'.ownsRow w.heap.size 2 1 (za (some ⟨g,0,none⟩) (zm9 L x).length cc) (zm9 L x).length ((zm9 L x).map (ze zd)):=by
 have HA:=za4 hA;have HM:=za4 hm;clear hA hm;have B1:Hid (Below w.heap.size w (w.alloc (zg #[] 2))):=zP _;have O1:Hid ((w.alloc (zg #[] 2)).ownsRow w.heap.size 2 1 (za (some ⟨w.heap.size,0,none⟩) 0 0) 0 (([]:List Int).map (ze zd))):=qo w #[] 0 (zT _) (by unfold maxLen;omega) (by simp);go_enter Tryz.func73,Tryz.ntmps73
 go_wp2_with fail
 go_loopw[5,6] (fun ts t wr=>∃(k g cc:Nat),k<=m/\t=ze zd k/\ts=za (some ⟨g,0,none⟩) (zm9 (L.take k) x).length cc/\Below w.heap.size w wr/\wr.ownsRow w.heap.size 2 1 (za (some ⟨g,0,none⟩) (zm9 (L.take k) x).length cc) (zm9 (L.take k) x).length ((zm9 (L.take k) x).map (ze zd))) (fun _ t _=>m - (intOf t).toNat)
 case atStart=>exact⟨0,w.heap.size,0,xi _,rfl,rfl,B1.X,O1.X⟩
 case round=>
  clear B1 O1;obtain⟨k,g,cc,hk,rfl,rfl,hb,ho⟩:=hrel;have B2:Hid _:=hb;have O2:=za4 ho;have jA:=y16 L x k;clear hb ho;by_cases ah:k<m
  ·have gV:(k:Int)<(m:Int):=by omega
   have FY:k<L.length:=by rw[HM.X];exact ah
   obtain⟨b,off,e,c1⟩:=(HA.below B2.X) k FY;subst e;by_cases hx:L.getD k 0=x
   ·have HE:Hid _:=yv4 FY hx
    rw[hx]at c1;have QM:(x !=x)=false:=by simp
    clear hx;obtain⟨n,HN⟩:=nmd ((zm9 (L.take k) x).length);rw[HN.X]at O2 jA⊢;go_wp2
    first
     |exact⟨⟨k+1,g,cc,by omega,by first|rfl|go_num,by rw[HE.X,HN.X],B2.X,by rw[HE.X,HN.X];exact O2.X⟩,by simp[intOf];omega⟩
     |(go_roundw
       case rel=>exact⟨k+1,g,cc,by omega,by first|rfl|go_num,by rw[HE.X,HN.X],B2.X,by rw[HE.X,HN.X];exact O2.X⟩
       case measure=>simp[intOf];omega)
   ·have HE:Hid _:=ys4 FY hx
    obtain⟨y,HY⟩:=nmd (L.getD k 0);rw[HY.X]at c1 hx HE;have gh:(y !=x)=true:=by simp[hx]
    obtain⟨n,HN⟩:=nmd ((zm9 (L.take k) x).length);rw[HN.X]at O2 jA⊢;have B3:Hid (Below w.heap.size w (wr.alloc (zg #[ze zd y] 2))):=B2.alloc B2.size _
    go_wp2_with(first
     |(at_builtin
       refine zc9 _ rfl (.tmp 20) (.tmp 25) rfl w.heap.size _ n (zm9 (L.take k) x) rfl (O2.alloc _) wr.heap.size 0 1 1 [y] rfl rfl (ze2 wr y) (by omega) (by omega) B3.size ?_;intro v4 w4 ae hg a_ aW;have dU:=(O2.lt g rfl).1;have B4:Hid _:=B3.grown hg B3.size (fun k e=>xj dU (z58 e));obtain⟨g4,c4,rfl⟩:=zr1 ae (zn1 aW ⟨_,_,_,rfl⟩);have O4:=za4 ae;clear ae hg a_ aW dU))
    have vk:Hid ((zm9 (L.take k) x++[y]).length=n+1):=by show _=_;rw[xY,HN.X];rfl
    first
     |exact⟨⟨k+1,g4,c4,by omega,by first|rfl|go_num,by rw[HE.X,vk.X],B4.X,by rw[HE.X,vk.X];exact O4.X⟩,by simp[intOf];omega⟩
     |(go_roundw
       case rel=>exact⟨k+1,g4,c4,by omega,by first|rfl|go_num,by rw[HE.X,vk.X],B4.X,by rw[HE.X,vk.X];exact O4.X⟩
       case measure=>simp[intOf];omega)
  ·have gV:¬((k:Int)<(m:Int)):=by omega
   have cW:k=m:=by omega
   have O3:Hid (wr.ownsRow w.heap.size 2 1 (za (some ⟨g,0,none⟩) (zm9 L x).length cc) (zm9 L x).length ((zm9 L x).map (ze zd))):=by
    have:=O2.X;rw[cW,<-HM.X,ym]at this;exact this
   have HE:Hid ((zm9 (L.take k) x).length=(zm9 L x).length):=by show _=_;rw[cW,<-HM.X,ym]
   rw[HE.X];obtain⟨n,HN⟩:=nmd ((zm9 L x).length);rw[HN.X]at O3⊢;clear cW;go_wp2;go_ret;exact⟨g,cc,by rw[HN.X];rfl,B2.X,by rw[HN.X];exact O3.X⟩
def yv2(os:List Int)(k:Nat):List Int:=(List.range k).map fun i=>og6 os i 0
theorem yz0(os:List Int)(k:Nat):yv2 os (k+1)=yv2 os k++[og6 os k 0]:=by simp[yv2,yN]
def EP(w W:zi)(cs:Array Value):Prop:=Below w.heap.size w W/\W.heap[w.heap.size]? =some (.cells cs 30 (0,0))/\W.heap[w.heap.size+1]? =some (zg #[za none 0 0,za none 0 0] 33 (0,0))
theorem EP.new(w:zi)(cs:Array Value):EP w ((w.alloc (.cells cs 30)).alloc (zg #[za none 0 0,za none 0 0] 33)) cs:=
 ⟨(zP _).alloc (by simp) _,xm _ _ _,xh _ _ _⟩
theorem EP.below{w W W':zi}{cs:Array Value}(h:EP w W cs)(hb:Below W.heap.size W W'):EP w W' cs:=
 ⟨h.1.trans (hb.mono h.1.size),za0 hb (za2 h.2.1) h.2.1,za0 hb (za2 h.2.2) h.2.2⟩
theorem EP.alloc{w W:zi}{cs:Array Value}(h:EP w W cs)(o:Obj):EP w (W.alloc o) cs:=h.below (zP _)
theorem EP.b{w W:zi}{cs:Array Value}(h:EP w W cs):Below w.heap.size w W:=h.1
theorem EP.grown{w W W':zi}{cs:Array Value}{row:Option Nat}(h:EP w W cs)(hg:W.grownBy W' row)(hr:∀g,row=some g->w.heap.size+1<g):EP w W' cs:=
 ⟨h.1.grown hg h.1.size (fun k e=>by have:=hr k e;omega),(hg.block _ (za2 h.2.1) (fun e=>by have:=hr _ e.symm;omega)).trans h.2.1,(hg.block _ (za2 h.2.2) (fun e=>by have:=hr _ e.symm;omega)).trans h.2.2⟩
theorem EP.set{w W:zi}{cs:Array Value}(h:EP w W cs){k i:Nat}{v:Value}(hk:w.heap.size+1<k):EP w (W.setCell ⟨k,i,none⟩ v) cs:=
 ⟨h.1.setCell (by simp;omega) _,za8 h.2.1 (by omega),za8 h.2.2 (by omega)⟩
theorem zS1(n fine:Int)(a ao av:Option Addr)(ac ko co kv cv:Nat)(zs os vs:List Int)(w:zi)(hA:za3 w a zs)(hO:za3 w ao os)(hV:za3 w av vs)(an:os.length=ko*6)(au:vs.length=kv*5)(ay:ko<=9223372036854775807)(aB:kv<=9223372036854775807)(cb:Bool)(K:Nat)(X:List Int)(iT:zd0 n zs os vs ko kv fine=cb)(hK:(if cb=true then ko else 0)=K)(hX:(if cb=true then yv2 os ko else [])=X):
 Calls zh 69 #[.agg #[ze zd n,za a zs.length ac,za ao ko co,za av kv cv,ze zd fine]] w fun e w'=>∃sl,e=.returned (.tuple #[.agg #[za none 0 0,sl],.bool cb])/\Below w.heap.size w w'/\w'.ownsRow w.heap.size 2 1 sl K (X.map (ze zd)):=by
 have HA:=za4 hA;have HO:=za4 hO;have HV:=za4 hV;have aF:Hid _:=an;have aD:Hid _:=au;clear hA hO hV an au;have KQ:Hid _:=hK;have l7:Hid _:=hX;have cZ:Hid _:=iT;clear hK hX iT;have u_:Hid (EP w ((w.alloc (zg #[ze zd n,za a zs.length ac,za ao ko co,za av kv cv,ze zd fine] 30)).alloc (zg #[za none 0 0,za none 0 0] 33)) _):=EP.new w _;go_enter Tryz.func69,Tryz.ntmps69;obtain⟨c0,c1,bY,c3,c4⟩:=za7 u_.X.2.1
 go_wp2_with fail
 clear c0 c1 bY c3 c4;refine(zx8 n fine a ao av ac ko co kv cv zs os vs _ (HA.X.below u_.X.1) (HO.X.below u_.X.1) (HV.X.below u_.X.1) aF.X aD.X ay aB).mono ?_;rintro e w1 ⟨rfl,hb⟩;have E1:=za4 (u_.X.below hb);clear hb u_;rw[cZ.X];cases cb
 ·have eC:K=0:=KQ.X.symm.trans (ye (by simp))
  have dv:X=[]:=l7.X.symm.trans (ye (by simp));subst eC dv;obtain⟨p0,p1⟩:=za1 E1.X.2.2;have pf:=fun i=>yZ _ _ i _ _ E1.X.2.2;go_wp2;refine xe (v:=.tuple #[.agg #[za none 0 0,za none 0 0],.bool false]) (by simp[results,Tryz.results69,go_sem,p0,p1]) rfl ⟨za none 0 0,rfl,?_,xZ _ _ _ _⟩
  repeat(first|with_reducible exact E1.X.b|refine xq ?_ (by simp<;>omega) _)
 ·have eJ:K=ko:=KQ.X.symm.trans (z7 rfl)
  have ci:X=yv2 os ko:=l7.X.symm.trans (z7 rfl);subst eJ ci;have bF:K<=12:=(zd8 (zM4 cZ.X)).1;have E2:Hid (EP w (w1.alloc (zg #[za none 0 0,za none 0 0] 33)) _):=E1.X.alloc _;have Ja:Hid ((w1.alloc (zg #[za none 0 0,za none 0 0] 33)).heap[w1.heap.size]? =_):=zS _ _;have pA:Hid _:=za2 E1.X.2.2;obtain⟨c0,c1,bY,c3,c4⟩:=za7 E2.X.2.1;clear E1
  go_wp2_with fail
  clear c0 c1 bY c3 c4;generalize w1.alloc _=W1 at*;generalize w1.heap.size=bp at*;go_loopw[5] (fun t wr=>∃(k:Nat) (sl:Value),k<=K/\t=ze zd k/\EP w wr #[ze zd n,za a zs.length ac,za ao K co,za av kv cv,ze zd fine]/\wr.heap[bp]? =some (zg #[za none 0 0,sl] 33 (0,0))/\wr.ownsRow (bp+1) 2 1 sl k ((yv2 os k).map (ze zd))) (fun t _=>K - (intOf t).toNat)
  case atStart=>exact⟨0,za none 0 0,xi _,rfl,E2.X,Ja.X,xZ _ _ _ _⟩
  case round=>
   clear E2 Ja;obtain⟨k,sl,hk,rfl,he,hp,ho⟩:=hrel;have HE:=za4 he;have HP:=za4 hp;have HW:=za4 ho;obtain⟨c0,c1,bY,c3,c4⟩:=za7 he.2.1;obtain⟨p0,p1⟩:=za1 hp;have pf:=fun i=>yZ _ _ i _ _ hp;clear he hp ho;by_cases ah:k<K
   ·obtain⟨b,off,rfl,aJ⟩:=za3.some (za3.below HO.X HE.X.1) (j:=k*6) (by rw[aF.X];omega)
    obtain⟨r0,r1,r2,r3,r4,r5⟩:=zu3 aJ aF.X k ah;clear aJ;have aY:Hid _:=yz0 os k;have cQ:=zV r0;simp at cQ;obtain⟨o0,H0⟩:=nmd (og6 os k 0);obtain⟨o1,H1⟩:=nmd (og6 os k 1);obtain⟨o2,H2⟩:=nmd (og6 os k 2);obtain⟨o3,H3⟩:=nmd (og6 os k 3);obtain⟨o4,H4⟩:=nmd (og6 os k 4);obtain⟨o5,H5⟩:=nmd (og6 os k 5);rw[H0.X]at aY;rw[H0.X]at r0;rw[H1.X]at r1;rw[H2.X]at r2;rw[H3.X]at r3;rw[H4.X]at r4;rw[H5.X]at r5;have pZ:Hid (bp+1<=wr.heap.size):=za2 HP.X
    go_wp2_with fail
    obtain⟨s0,s1⟩:=za1 ((xg wr (zg #[ze zd o0] 2) (za2 HP.X)).trans HP.X)
    go_region_law ((
     refine zF5 rfl (.tmp 19) (.tmp 26) rfl (bp+1) sl k _ (by simp[Act.eval]) (HW.X.drew.alloc _) ⟨wr.heap.size,0,none⟩ 1 (ze zd o0) (by simp[Act.eval]) (zr0 _ _ _ _ (by simp)) rfl (by omega) (xj pZ.X (by simp)) ?_;intro v' w4 hown4 aI;obtain⟨KZ,JK,rfl,Am⟩:=zo1 hown4;have aq:∀q,sl.ownBlock=some q->bp<q:=fun q e=>(HW.X.lt _ e).1;have gK:w4.heap[bp]? =some (zg #[za none 0 0,sl] 33 (0,0)):=(aI.block _ (xw (za2 HP.X) (by simp;try omega)) (fun e=>by have:=aq _ e.symm;omega)).trans ((xg _ _ (za2 HP.X)).trans HP.X);have NT:=za4 gK;obtain⟨u0,u1⟩:=za1 gK;have uf:=fun i=>yZ _ _ i _ _ gK;have Pp:Hid (EP w w4 _):=EP.grown (EP.below (HE.X.alloc _) (y5 _ _).drew) aI (fun q e=>by have:=aq q e;have:=pA.X;omega);have PX:=za4 hown4;clear gK hown4 aI aq))
    all_goals
     go_wp2;go_roundw
     case rel=>
      refine⟨k+1,_,by omega,by go_num,Pp.X.set (by have:=pA.X;omega),xb _ _ _ _ _ _ NT.X,?_⟩;rw[aY.X,x8];exact zg1 PX.X (by omega)
     case measure=>simp[intOf];omega
   ·have bt:k=K:=by omega
    subst bt;obtain⟨q0,q1⟩:=za1 HE.X.2.2;have qf:=fun i=>yZ _ _ i _ _ HE.X.2.2;have iy:Hid (w.heap.size+1≠bp):=y8 pA.X;rcases zm0 HW.X with rfl|⟨gq,cq,rfl⟩
    ·go_wp2
     refine xe (v:=.tuple #[.agg #[za none 0 0,za none 0 0],.bool true]) (by simp[results,Tryz.results69,go_sem,q0,q1]) rfl ⟨_,rfl,?_,?_⟩
     ·repeat(first|with_reducible exact HE.X.b|refine xq ?_ (by simp<;>omega) _)
     ·exact zb5 (qu (qu HW.X (by simp;have:=pA.X;omega) _) (by simp;have:=pA.X;omega) _) (by have:=pA.X;omega)
    ·go_wp2
     refine xe (v:=.tuple #[.agg #[za none 0 0,za (some ⟨gq,0,none⟩) k cq],.bool true]) (by simp[results,Tryz.results69,go_sem,q0,q1]) rfl ⟨_,rfl,?_,?_⟩
     ·repeat(first|with_reducible exact HE.X.b|refine xq ?_ (by simp<;>omega) _)
     ·exact zb5 (qu (qu HW.X (by simp;have:=pA.X;omega) _) (by simp;have:=pA.X;omega) _) (by have:=pA.X;omega)
theorem yu3{w:zi}{base n g c k:Nat}{e:TypeId}{xs:List Int}(v:Int)(h:w.ownsRow base e 1 (za (some ⟨g,0,none⟩) n c) n (xs.map (ze zd)))(Qw:k<n):(w.setCell ⟨g,k,none⟩ (ze zd v)).ownsRow base e 1 (za (some ⟨g,0,none⟩) n c) n ((xs.set k v).map (ze zd)):=by
 obtain⟨h0,⟨h1,_⟩|⟨g',ac,az,h2,h3,h4,h5,h6,h7,h8⟩⟩:=h
 ·cases h1
 ·simp at h2
  obtain⟨rfl,rfl⟩:=h2;refine⟨by simpa using h0,.inr ⟨g,c,az.setIfInBounds k (ze zd v),rfl,h3,xb w g k az e _ h4,h5,h6,by simpa using h7,?_⟩⟩;rw[Array.toList_setIfInBounds,List.take_set,h8,List.map_set]
theorem zC7{w:zi}{base n g c k:Nat}{e:TypeId}{xs:List Int}(h:w.ownsRow base e 1 (za (some ⟨g,0,none⟩) n c) n (xs.map (ze zd)))(hk:k<xs.length):w.cell? ⟨g,k,none⟩=some (ze zd (xs.getD k 0))/\w.frozen? ⟨g,k,none⟩=false:=by
 refine⟨?_,?_⟩
 ·obtain⟨_,_,e1,h1⟩:=zd4 h k hk
  simp at e1;obtain⟨rfl,rfl⟩:=e1;rw[yb]at h1;exact h1
 ·obtain⟨h0,⟨h1,_⟩|⟨g',ac,az,h2,h3,h4,h5⟩⟩:=h
  ·cases h1
  ·simp at h2
   obtain⟨rfl,rfl⟩:=h2;exact yZ _ _ k _ _ h4
theorem RD.kept2{w W W':zi}{q c p p0:Nat}{a:Option Addr}{bs:List Int}{row:Option Nat}(h0:RD w q a bs c p0)(h:RD W q a bs c p)(hg:W.grownBy W' row)(hr:∀g,row=some g->w.heap.size<=g):RD W' q a bs c p:=by
 have hq:=za2 h0.1;refine⟨za6 hg h.1 (fun e=>by have:=hr q e.symm;omega),h.2.1,fun j hj=> ?_,h.2.2.2⟩;obtain⟨b,off,e,aq,hc,hv⟩:=h.2.2.1 j hj;obtain⟨b',aT,e',_,Lp,_⟩:=h0.2.2.1 j hj;have hb:b<w.heap.size:=by
  have:=zV Lp;rw[e]at e';simp at e';obtain⟨rfl,rfl⟩:=e';exact this
 exact⟨b,off,e,aq,hg.cell hc (fun e2=>by have:=hr b e2.symm;omega),hv⟩
theorem zd2{w W W':zi}{q:Nat}{row:Option Nat}(h:w.grownBy W (some q))(hg:W.grownBy W' row)(hr:∀g,row=some g->w.heap.size<=g):w.grownBy W' (some q):=
 ⟨hg.os.trans h.os,hg.tape.trans h.tape,hg.output.trans h.output,xj h.size hg.size,fun k hk aq=>(hg.block k (xw hk h.size) (fun e=>by have:=hr k e.symm;omega)).trans (h.block k hk aq)⟩
theorem zV8(W:zi)(o:Obj):W.grownBy (W.alloc o) none:=⟨rfl,rfl,rfl,by simp,fun k hk _=>xg _ _ hk⟩
structure CL(w W:zi)(q:Nat)(a:Option Addr)(bs:List Int)(c:Nat)(ov:Value)(O:List Int):Prop where
 g:w.grownBy W (some q)
 r0:∃p,RD w q a bs c p
 r:∃p,RD W q a bs c p
 o:W.ownsRow w.heap.size 2 1 ov O.length (O.map (ze zd))
 so:∃g cg,ov=za (some ⟨g,0,none⟩) O.length cg
theorem zG9(W:zi)(x0 x1 x2 x3:Int)(T:TypeId)(y:Nat)(hy:y<4):(W.alloc (zg #[ze zd x0,ze zd x1,ze zd x2,ze zd x3] T)).cell? ⟨W.heap.size,y,none⟩=some (ze zd ([x0,x1,x2,x3].getD y 0)):=by
 have h:=zS W (zg #[ze zd x0,ze zd x1,ze zd x2,ze zd x3] T);rw[zU _ _ y _ _ _ h];rcases(show y=0∨y=1∨y=2∨y=3 from by omega)with rfl|rfl|rfl|rfl<;>rfl
def yH6(w:zi)(q:Nat)(a:Option Addr)(bs:List Int)(c:Nat)(e:Ending)(w':zi):Prop:=∃(x y:Int) (p':Nat),e=.returned (.tuple #[ze zd x,ze zd y])/\RD w' q a bs c p'/\w.grownBy w' (some q)
set_option maxRecDepth 10000 in
theorem yk1(q p c:Nat)(a:Option Addr)(bs:List Int)(w:zi)(h:RD w q a bs c p):
 Calls zh 68 #[.pointer (some ⟨q,0,none⟩)] w (yH6 w q a bs c):=by
 have H:=za4 h;clear h;go_enter Tryz.func68,Tryz.ntmps68
 go_wp2_with fail
 refine(zc5 q p c 40 a bs w H.X (by omega)).mono ?_;rintro e w1 ⟨x,p1,rfl,dv,ci,hr,hg⟩;have R1:=za4 hr;have G1:Hid _:=hg;clear hr hg
 go_wp2_with fail
 refine(zk6 q p1 c 2 a bs w1 R1.X (by omega) (by omega)).mono ?_;rintro e w2 ⟨v,p2,rfl,hr,hg⟩;have R2:=za4 hr;have G2:Hid _:=zb3 G1.X hg;clear hr hg R1 G1;have HQ:Hid _:=za2 R2.X.1;cases v
 all_goals
  go_wp2_with fail
  go_region_with (first
   |(go_at_call 31
     with_reducible refine(zc5 q p2 c 4 a bs w2.drew (R2.X.below (y5 _ _).drew) (by omega)).mono ?_
     rintro e w3 ⟨y,p3,rfl,bW,cA,hr,hg⟩;obtain⟨y,rfl⟩:=xp bW;have uP:y<4:=by omega
     have R3:=za4 hr;have G3:Hid _:=zb3 (zs7 G2.X) hg;have n3:=zG9 w3 200 60 30 500 2 y uP;obtain⟨z,HZ⟩:=nmd ([(200:Int),60,30,500].getD y 0);rw[HZ.X]at n3;clear hr hg bW cA)
   |(go_at_call 31
     with_reducible refine(zc5 q p2 c 4 a bs (w2.alloc (zg #[ze zd 200,ze zd 60,ze zd 30,ze zd 500] 2)).drew (R2.X.below (zP _).drew) (by omega)).mono ?_
     rintro e w3 ⟨y,p3,rfl,bW,cA,hr,hg⟩;obtain⟨y,rfl⟩:=xp bW;have uP:y<4:=by omega
     have R3:=za4 hr;have G3:Hid _:=zb3 (zs7 (zb3 G2.X (zq5 w2 _ q))) hg;have n3:=hg.cell (zG9 w2.drew 200 60 30 500 2 y uP) (fun e=>by have:=HQ.X;simp at e;omega);obtain⟨z,HZ⟩:=nmd ([(200:Int),60,30,500].getD y 0);rw[HZ.X]at n3;simp at n3;clear hr hg bW cA))
  all_goals
   go_wp2;refine xe (results_tmp2 rfl _ _ _) rfl ?_
   first
    |exact⟨_,_,p3,rfl,R3.X,G3.X⟩
    |exact⟨_,_,p3,rfl,R3.X.below (zP _),zb3 G3.X (zq5 w3 _ q)⟩
theorem y02:(Tryz.prog.info? 103).map (fun i=>(i.zero,i.size,i.bytes))=some (some (.agg #[ze zd 0,ze zd 0,ze zd 0,ze zd 0,ze zd 0,ze zd 0]),6,48):=by kernel_rfl
theorem yr6:(Tryz.prog.info? 107).map (fun i=>(i.zero,i.size,i.bytes))=some (some (.agg #[ze zd 0,ze zd 0,ze zd 0,ze zd 0,ze zd 0]),5,40):=by kernel_rfl
theorem zN3(t e:TypeId)(z:Value)(size bytes:Nat)(vV:(Tryz.prog.info? e).map (fun i=>(i.zero,i.size,i.bytes))=some (some z,size,bytes))(AA:Tryz.prog.underlying t=some (.slice e))(uw:z.cells.size=size)(kA:0<size)(z_:bytes<=100)
 (w:zi) {ap:Array Oper} {rest:List Oper} {o:Oper} {a:Act} {Q:Exit->Act->zi->Prop}
 (hg:o.guard=none) (s x:Operand) (dw:o.op=zH {callee:=zw zx,bm:=#[s,x],argTypes:=#[t,t]})
 (base:Nat) (v:Value) (k:Nat) (xs:List Int) (hs:a.eval s=v) (ae:w.ownsRow base e size v k (xs.map (ze zd))) (b c:Nat) (ys:List Int) (hx:a.eval x=za (some ⟨b,0,none⟩) 1 c)
 (hy:ys.length=size) (hc:za3 w (some ⟨b,0,none⟩) ys) (b1:k<=1000) (hb:base<=w.heap.size)
 (hK:∀v' w',w'.ownsRow base e size v' (k+1) ((xs++ys).map (ze zd))->w.grownBy w' v.ownBlock->(v'.ownBlock=v.ownBlock∨v'.ownBlock=some w.heap.size)->v'≠za none 0 0->wpList zh ap Q rest (a.put o.dst v') w'):
 wpList zh ap Q (o::rest) a w:=by
 obtain⟨i0,hi,bO,ba,bS⟩:=qx vV;have bR:∀j u,(ys.map (ze zd))[j]? =some u->w.cell? ((⟨b,0,none⟩:Addr).add j)=some u:=by
  intro j u hu;have hj:j<ys.length:=by
   rcases qp j ys.length with h'|h'
   ·exact h'
   ·simp[yg (by simpa using h':(ys.map (ze zd)).length<=j)]at hu
  obtain⟨b',aT,e,fE⟩:=hc j hj;simp at e;obtain⟨rfl,rfl⟩:=e;have dO:(⟨b,0,none⟩:Addr).add j=⟨b,0+j,none⟩:=by unfold zN;split<;>simp_all
  rw[dO,fE,<-hu];simp[zy,hj]
 have j0:∀u∈ys.map (ze zd),u.oneCell'=true:=by simp[zq]
 have Ke:(k+1)*bytes<=140737488355328:=by
  have:(k+1)*bytes<=1001*100:=Nat.mul_le_mul (by omega) z_;omega
 obtain⟨v',w',aQ,r1,r2,r3⟩:=qy (P:=zh) w base t o.type _ i0 _ size bytes AA hi bO ba bS uw kA v k (xs.map (ze zd)) ae ⟨b,0,none⟩ 1 c (ys.map (ze zd)) (by simp[hy]) bR j0 (by unfold maxLen;omega) Ke hb;have r4:=zA9 (P:=zh) w base t o.type _ i0 _ size bytes AA hi bO ba bS v k (xs.map (ze zd)) ae ⟨b,0,none⟩ 1 c (ys.map (ze zd)) (by simp[hy]) bR j0 (by unfold maxLen;omega) Ke aQ;refine zz6 v' hg (zx3 s x _ v _ dw hs hx aQ) (hK v' w' (by rw[x8];exact r1) r2 r4 ?_);intro e;exact absurd (r3.1 e).2 (by omega)
theorem yl4{w:zi}{base n g c k size:Nat}{e:TypeId}{xs:List Int}(v:Int)(h:w.ownsRow base e size (za (some ⟨g,0,none⟩) n c) n (xs.map (ze zd))):(w.setCell ⟨g,k,none⟩ (ze zd v)).ownsRow base e size (za (some ⟨g,0,none⟩) n c) n ((xs.set k v).map (ze zd)):=by
 obtain⟨h0,⟨h1,_⟩|⟨g',ac,az,h2,h3,h4,h5,h6,h7,h8⟩⟩:=h
 ·cases h1
 ·simp at h2
  obtain⟨rfl,rfl⟩:=h2;refine⟨by simpa using h0,.inr ⟨g,c,az.setIfInBounds k (ze zd v),rfl,h3,xb w g k az e _ h4,h5,h6,by simpa using h7,?_⟩⟩;rw[Array.toList_setIfInBounds,List.take_set,h8,List.map_set]
theorem zY0{w:zi}{base n g c k size:Nat}{e:TypeId}{xs:List Int}(h:w.ownsRow base e size (za (some ⟨g,0,none⟩) n c) n (xs.map (ze zd)))(hk:k<xs.length):w.cell? ⟨g,k,none⟩=some (ze zd (xs.getD k 0))/\w.frozen? ⟨g,k,none⟩=false:=by
 refine⟨?_,?_⟩
 ·obtain⟨_,_,e1,h1⟩:=zd4 h k hk
  simp at e1;obtain⟨rfl,rfl⟩:=e1;rw[yb]at h1;exact h1
 ·obtain⟨h0,⟨h1,_⟩|⟨g',ac,az,h2,h3,h4,h5⟩⟩:=h
  ·cases h1
  ·simp at h2
   obtain⟨rfl,rfl⟩:=h2;exact yZ _ _ k _ _ h4
structure CD(w W:zi)(q:Nat)(a:Option Addr)(bs:List Int)(c k:Nat)(n:Int)(g zl cg:Nat)(zs:List Int)(oo:Value)(ko:Nat)(O:List Int)(ov:Value)(kv:Nat)(V:List Int)(fi:Int):Prop where
 gr:w.grownBy W (some q)
 r0:∃p,RD w q a bs c p
 r:∃p,RD W q a bs c p
 b0:W.heap[w.heap.size]? =some (zg #[ze zd 0,za none 0 0,za none 0 0,za none 0 0,ze zd 0] 30 (0,0))
 b1:W.heap[k]? =some (zg #[ze zd n,za (some ⟨g,0,none⟩) zl cg,oo,ov,ze zd fi] 30 (0,0))
 h:w.heap.size<k/\w.heap.size<g/\k≠g/\0<zs.length
 i:za3 W (some ⟨g,0,none⟩) zs
 o:W.ownsRow (w.heap.size+1) 103 6 oo ko (O.map (ze zd))
 v:W.ownsRow (w.heap.size+1) 107 5 ov kv (V.map (ze zd))
 d1:∀b,oo.ownBlock=some b->b≠k/\b≠g
 d2:∀b,ov.ownBlock=some b->b≠k/\b≠g
 d3:∀b,oo.ownBlock=some b->ov.ownBlock≠some b
section
variable {w W W' w4:zi} {q:Nat} {a:Option Addr} {bs:List Int} {c k:Nat} {n:Int} {g zl cg:Nat} {zs:List Int} {oo rN:Value} {ko:Nat} {O:List Int} {ov dQ:Value} {kv:Nat} {V:List Int} {fi:Int}
theorem CD.lt(h:CD w W q a bs c k n g zl cg zs oo ko O ov kv V fi):q<w.heap.size:=by
 obtain⟨p,hr⟩:=h.r0;exact za2 hr.1
theorem CD.size(h:CD w W q a bs c k n g zl cg zs oo ko O ov kv V fi):w.heap.size+1<=W.heap.size:=za2 h.b0
theorem zk1{X X':zi}{g:Nat}{xs:List Int}{row:Option Nat}(h:za3 X (some ⟨g,0,none⟩) xs)(hg:X.grownBy X' row)(aq:some g≠row):za3 X' (some ⟨g,0,none⟩) xs:=by
 intro j hj;obtain⟨b,off,e,hc⟩:=h j hj;simp at e;obtain⟨rfl,rfl⟩:=e;exact⟨g,0,rfl,hg.cell hc aq⟩
theorem CD.read{p:Nat}(h:CD w W q a bs c k n g zl cg zs oo ko O ov kv V fi)(hr:RD W' q a bs c p)(hg:W.grownBy W' (some q)):CD w W' q a bs c k n g zl cg zs oo ko O ov kv V fi:=by
 have hl:=h.lt;obtain⟨h1,h2,h3,h4⟩:=h.h;exact⟨zb3 h.gr hg,h.r0,⟨p,hr⟩,za6 hg h.b0 (fun e=>by injection e with e;omega),za6 hg h.b1 (fun e=>by injection e with e;omega),h.h,zk1 h.i hg (fun e=>by injection e with e;omega),h.o.kept hg (.inr fun e=>by have:=(h.o.lt q e).1;omega),h.v.kept hg (.inr fun e=>by have:=(h.v.lt q e).1;omega),h.d1,h.d2,h.d3⟩
theorem zp9{w W W':zi}{q:Nat}(h:w.grownBy W (some q))(hb:Below W.heap.size W W'):w.grownBy W' (some q):=
 ⟨hb.os.trans h.os,hb.tape.trans h.tape,hb.output.trans h.output,xj h.size hb.size,fun k hk aq=>(hb.block k (xw hk h.size)).trans (h.block k hk aq)⟩
theorem CD.below(h:CD w W q a bs c k n g zl cg zs oo ko O ov kv V fi)(hb:Below W.heap.size W W'):CD w W' q a bs c k n g zl cg zs oo ko O ov kv V fi:=by
 obtain⟨p,hr⟩:=h.r;exact⟨zp9 h.gr hb,h.r0,⟨p,hr.below hb⟩,za0 hb (za2 h.b0) h.b0,za0 hb (za2 h.b1) h.b1,h.h,h.i.below hb,zb9 h.o hb,zb9 h.v hb,h.d1,h.d2,h.d3⟩
theorem CD.cells(h:CD w W q a bs c k n g zl cg zs oo ko O ov kv V fi):(W.cell? ⟨k,0,none⟩=some (ze zd n)/\W.cell? ⟨k,1,none⟩=some (za (some ⟨g,0,none⟩) zl cg)/\W.cell? ⟨k,2,none⟩=some oo/\W.cell? ⟨k,3,none⟩=some ov/\W.cell? ⟨k,4,none⟩=some (ze zd fi))/\∀i,W.frozen? ⟨k,i,none⟩=false:=by
 have h0:=zU _ _ 0 _ _ _ h.b1;have h1:=zU _ _ 1 _ _ _ h.b1;have h2:=zU _ _ 2 _ _ _ h.b1;have h3:=zU _ _ 3 _ _ _ h.b1;have h4:=zU _ _ 4 _ _ _ h.b1;simp at h0 h1 h2 h3 h4;exact⟨⟨h0,h1,h2,h3,h4⟩,fun i=>yZ _ _ i _ _ h.b1⟩
theorem zi3{v:Value}{row:Option Nat}(h:∀b,row=some b->v.ownBlock≠some b):v.ownBlock=none∨v.ownBlock≠row:=by
 cases hv:v.ownBlock with
 |none=>exact .inl rfl
 |some x=>exact .inr fun e=>h x e.symm hv
theorem CD.aside{row:Option Nat}(h:CD w W q a bs c k n g zl cg zs oo ko O ov kv V fi)(hg:W.grownBy W' row)(hr:∀b,row=some b->w.heap.size+1<=b/\b≠k/\b≠g/\oo.ownBlock≠some b/\ov.ownBlock≠some b):CD w W' q a bs c k n g zl cg zs oo ko O ov kv V fi:=by
 obtain⟨p,l6⟩:=h.r;obtain⟨p0,cP⟩:=h.r0;have kW:∀b,row=some b->w.heap.size<=b:=fun b e=>by have:=(hr b e).1;omega
 exact⟨zd2 h.gr hg kW,h.r0,⟨p,RD.kept2 cP l6 hg kW⟩,za6 hg h.b0 (fun e=>by have:=(hr _ e.symm).1;omega),za6 hg h.b1 (fun e=>(hr _ e.symm).2.1 rfl),h.h,zk1 h.i hg (fun e=>(hr _ e.symm).2.2.1 rfl),h.o.kept hg (zi3 fun b e=>(hr b e).2.2.2.1),h.v.kept hg (zi3 fun b e=>(hr b e).2.2.2.2),h.d1,h.d2,h.d3⟩
theorem ze1{X:zi}{k i:Nat}{cs:Array Value}{T:TypeId}(v:Value)(h:X.heap[k]? =some (.cells cs T (0,0))):(X.setCell ⟨k,i,none⟩ v).heap[k]? =some (.cells (cs.setIfInBounds i v) T (0,0)):=xb X k i cs T v h
theorem CD.glt(h:CD w W q a bs c k n g zl cg zs oo ko O ov kv V fi):g<W.heap.size:=by
 obtain⟨b,off,e,hc⟩:=h.i 0 h.h.2.2.2;simp at e;obtain⟨rfl,rfl⟩:=e;exact zV hc
theorem CD.putO{ob:Obj}{xs:List Int}(h:CD w W q a bs c k n g zl cg zs oo ko O ov kv V fi)(ho:w4.ownsRow (w.heap.size+1) 103 6 rN (ko+1) ((O++xs).map (ze zd)))(hg:(W.alloc ob).grownBy w4 oo.ownBlock)(hn:rN.ownBlock=oo.ownBlock∨rN.ownBlock=some (W.alloc ob).heap.size):CD w (w4.setCell ⟨k,2,none⟩ rN) q a bs c k n g zl cg zs rN (ko+1) (O++xs) ov kv V fi:=by
 obtain⟨h1,h2,h3,h4⟩:=h.h;have hk:=za2 h.b1;have hA:CD w (W.alloc ob) q a bs c k n g zl cg zs oo ko O ov kv V fi:=h.below (zP _);obtain⟨p,l6⟩:=hA.r;obtain⟨p0,cP⟩:=h.r0;have kW:∀b,oo.ownBlock=some b->w.heap.size<=b:=fun b e=>by have:=(h.o.lt b e).1;omega
 have li:∀b,some k=some b->w.heap.size<=b:=fun b e=>by injection e with e;omega
 have hs:=zb4 w4 k 2 rN;have Nb:=h.glt;have sS:=RD.kept2 cP l6 hg kW;have te:=hA.v.kept hg (zi3 fun b e=>h.d3 b e);have bU:(W.alloc ob).heap.size=W.heap.size+1:=by simp
 refine⟨zd2 (zd2 hA.gr hg kW) hs li,h.r0,⟨p,RD.kept2 cP sS hs li⟩,?_,?_,h.h,?_,?_,?_,?_,h.d2,?_⟩
 ·exact za6 hs (za6 hg hA.b0 (fun e=>by have:=(h.o.lt _ e.symm).1;omega)) (fun e=>by injection e with e;omega)
 ·have:=ze1 (i:=2) rN (za6 hg hA.b1 (fun e=>(h.d1 _ e.symm).1 rfl))
  simpa using this
 ·exact zk1 (zk1 hA.i hg (fun e=>(h.d1 _ e.symm).2 rfl)) hs (fun e=>by injection e with e;omega)
 ·refine ho.kept hs (zi3 fun b e=> ?_)
  injection e with e
  subst e;intro e2;rcases hn with hn|hn
  ·rw[hn]at e2;exact(h.d1 _ e2).1 rfl
  ·rw[hn,bU]at e2;injection e2 with e2;omega
 ·refine te.kept hs (zi3 fun b e=> ?_)
  injection e with e
  subst e;intro e2;exact(h.d2 _ e2).1 rfl
 ·intro b e2
  rcases hn with hn|hn
  ·rw[hn]at e2;exact h.d1 _ e2
  ·rw[hn,bU]at e2
   injection e2 with e2
   refine⟨by omega,?_⟩;omega
 ·intro b e2 e3
  rcases hn with hn|hn
  ·rw[hn]at e2;exact h.d3 _ e2 e3
  ·rw[hn,bU]at e2
   injection e2 with e2
   have:=(h.v.lt _ e3).2;omega
theorem CD.putV{ob:Obj}{xs:List Int}(h:CD w W q a bs c k n g zl cg zs oo ko O ov kv V fi)(ho:w4.ownsRow (w.heap.size+1) 107 5 dQ (kv+1) ((V++xs).map (ze zd)))(hg:(W.alloc ob).grownBy w4 ov.ownBlock)(hn:dQ.ownBlock=ov.ownBlock∨dQ.ownBlock=some (W.alloc ob).heap.size):CD w (w4.setCell ⟨k,3,none⟩ dQ) q a bs c k n g zl cg zs oo ko O dQ (kv+1) (V++xs) fi:=by
 obtain⟨h1,h2,h3,h4⟩:=h.h;have hk:=za2 h.b1;have hA:CD w (W.alloc ob) q a bs c k n g zl cg zs oo ko O ov kv V fi:=h.below (zP _);obtain⟨p,l6⟩:=hA.r;obtain⟨p0,cP⟩:=h.r0;have kW:∀b,ov.ownBlock=some b->w.heap.size<=b:=fun b e=>by have:=(h.v.lt b e).1;omega
 have li:∀b,some k=some b->w.heap.size<=b:=fun b e=>by injection e with e;omega
 have hs:=zb4 w4 k 3 dQ;have Nb:=h.glt;have sS:=RD.kept2 cP l6 hg kW;have te:=hA.o.kept hg (zi3 fun b e e2=>h.d3 b e2 e);have bU:(W.alloc ob).heap.size=W.heap.size+1:=by simp
 refine⟨zd2 (zd2 hA.gr hg kW) hs li,h.r0,⟨p,RD.kept2 cP sS hs li⟩,?_,?_,h.h,?_,?_,?_,h.d1,?_,?_⟩
 ·exact za6 hs (za6 hg hA.b0 (fun e=>by have:=(h.v.lt _ e.symm).1;omega)) (fun e=>by injection e with e;omega)
 ·have:=ze1 (i:=3) dQ (za6 hg hA.b1 (fun e=>(h.d2 _ e.symm).1 rfl))
  simpa using this
 ·exact zk1 (zk1 hA.i hg (fun e=>(h.d2 _ e.symm).2 rfl)) hs (fun e=>by injection e with e;omega)
 ·refine te.kept hs (zi3 fun b e=> ?_)
  injection e with e
  subst e;intro e2;exact(h.d1 _ e2).1 rfl
 ·refine ho.kept hs (zi3 fun b e=> ?_)
  injection e with e
  subst e;intro e2;rcases hn with hn|hn
  ·rw[hn]at e2;exact(h.d2 _ e2).1 rfl
  ·rw[hn,bU]at e2;injection e2 with e2;omega
 ·intro b e2
  rcases hn with hn|hn
  ·rw[hn]at e2;exact h.d2 _ e2
  ·rw[hn,bU]at e2
   injection e2 with e2
   refine⟨by omega,?_⟩;omega
 ·intro b e3 e2
  rcases hn with hn|hn
  ·rw[hn]at e2;exact h.d3 _ e3 e2
  ·rw[hn,bU]at e2
   injection e2 with e2
   have:=(h.o.lt _ e3).2;omega
theorem CD.setF(x:Int)(h:CD w W q a bs c k n g zl cg zs oo ko O ov kv V fi):CD w (W.setCell ⟨k,4,none⟩ (ze zd x)) q a bs c k n g zl cg zs oo ko O ov kv V x:=by
 obtain⟨h1,h2,h3,h4⟩:=h.h;obtain⟨p,l6⟩:=h.r;obtain⟨p0,cP⟩:=h.r0;have hs:=zb4 W k 4 (ze zd x);have li:∀b,some k=some b->w.heap.size<=b:=fun b e=>by injection e with e;omega
 refine⟨zd2 h.gr hs li,h.r0,⟨p,RD.kept2 cP l6 hs li⟩,za6 hs h.b0 (fun e=>by injection e with e;omega),?_,h.h,zk1 h.i hs (fun e=>by injection e with e;omega),h.o.kept hs (zi3 fun b e e2=>by injection e with e;subst e;exact(h.d1 _ e2).1 rfl),h.v.kept hs (zi3 fun b e e2=>by injection e with e;subst e;exact(h.d2 _ e2).1 rfl),h.d1,h.d2,h.d3⟩;have:=ze1 (i:=4) (ze zd x) h.b1;simpa using this
theorem CD.setO{go co:Nat}(j:Nat)(x:Int)(h:CD w W q a bs c k n g zl cg zs (za (some ⟨go,0,none⟩) ko co) ko O ov kv V fi):CD w (W.setCell ⟨go,j,none⟩ (ze zd x)) q a bs c k n g zl cg zs (za (some ⟨go,0,none⟩) ko co) ko (O.set j x) ov kv V fi:=by
 obtain⟨h1,h2,h3,h4⟩:=h.h;obtain⟨p,l6⟩:=h.r;obtain⟨p0,cP⟩:=h.r0;have lZ:=(h.o.lt go rfl).1;have hd:=h.d1 go rfl;have hs:=zb4 W go j (ze zd x);have li:∀b,some go=some b->w.heap.size<=b:=fun b e=>by injection e with e;omega
 refine⟨zd2 h.gr hs li,h.r0,⟨p,RD.kept2 cP l6 hs li⟩,za6 hs h.b0 (fun e=>by injection e with e;omega),za6 hs h.b1 (fun e=>by injection e with e;omega),h.h,zk1 h.i hs (fun e=>by injection e with e;omega),yl4 x h.o,h.v.kept hs (zi3 fun b e e2=>by injection e with e;subst e;exact h.d3 _ rfl e2),h.d1,h.d2,h.d3⟩
theorem CD.setV{gv cv:Nat}(j:Nat)(x:Int)(h:CD w W q a bs c k n g zl cg zs oo ko O (za (some ⟨gv,0,none⟩) kv cv) kv V fi):CD w (W.setCell ⟨gv,j,none⟩ (ze zd x)) q a bs c k n g zl cg zs oo ko O (za (some ⟨gv,0,none⟩) kv cv) kv (V.set j x) fi:=by
 obtain⟨h1,h2,h3,h4⟩:=h.h;obtain⟨p,l6⟩:=h.r;obtain⟨p0,cP⟩:=h.r0;have lZ:=(h.v.lt gv rfl).1;have hd:=h.d2 gv rfl;have hs:=zb4 W gv j (ze zd x);have li:∀b,some gv=some b->w.heap.size<=b:=fun b e=>by injection e with e;omega
 refine⟨zd2 h.gr hs li,h.r0,⟨p,RD.kept2 cP l6 hs li⟩,za6 hs h.b0 (fun e=>by injection e with e;omega),za6 hs h.b1 (fun e=>by injection e with e;omega),h.h,zk1 h.i hs (fun e=>by injection e with e;omega),h.o.kept hs (zi3 fun b e e2=>by injection e with e;subst e;exact h.d3 _ e2 rfl),yl4 x h.v,h.d1,h.d2,h.d3⟩
end
theorem zH0(w:zi){ap:Array Oper}{rest:List Oper}{o:Oper}{a:Act}{Q:Exit->Act->zi->Prop}
 (hg:o.guard=none) (s x:Operand) (dw:o.op=zH {callee:=zw zx,bm:=#[s,x],argTypes:=#[24,24]})
 (base:Nat) (v:Value) (k:Nat) (xs:List Int) (hs:a.eval s=v) (ae:w.ownsRow base 2 1 v k (xs.map (ze zd))) (b c:Nat) (id:Int) (hx:a.eval x=za (some ⟨b,0,none⟩) 1 c)
 (hc:w.cell? ⟨b,0,none⟩=some (ze zd id)) (b1:k<=1000) (hb:base<=w.heap.size)
 (hK:∀v' w',w'.ownsRow base 2 1 v' (k+1) ((xs++[id]).map (ze zd))->w.grownBy w' v.ownBlock->(v'=za none 0 0↔v=za none 0 0/\1=0)->wpList zh ap Q rest (a.put o.dst v') w'):
 wpList zh ap Q (o::rest) a w:=by
 obtain⟨i0,hi,bO,ba,bS⟩:=zr8;refine wpList_append_own w hg s x _ dw base _ i0 _ 1 8 qb hi bO ba bS rfl (by decide) v k _ hs ae ⟨b,0,none⟩ 1 c [ze zd id] hx rfl ?_ (by simp[zq]) (by unfold maxLen;omega) (by omega) hb (fun v' w' h1 h2 h3=>hK v' w' (by rw[x8];exact h1) h2 h3);intro j u hu;have hj:j=0:=by
  rcases j with _|j
  ·rfl
  ·simp at hu
 subst hj;have dO:(⟨b,0,none⟩:Addr).add 0=⟨b,0,none⟩:=by unfold zN;split<;>simp_all
 rw[dO,hc];simpa using hu
theorem z41(n fine ab:Int)(a ao av bi:Option Addr)(ac ko co kv cv c2:Nat)(zs os vs ids:List Int)(w:zi)(hA:za3 w a zs)(hO:za3 w ao os)(hV:za3 w av vs)(hI:za3 w bi ids)(an:os.length=ko*6)(au:vs.length=kv*5)(ay:ko<=9223372036854775807)(aB:kv<=9223372036854775807)(fh:ids.length<=9223372036854775807)(cw:ids.length<=c2)(v:Bool)(hv:decide (codeV (zd0 n zs os vs ko kv fine) n zs os vs ko kv ab ids=0)=v):
 Calls zh 86 #[.agg #[ze zd n,za a zs.length ac,za ao ko co,za av kv cv,ze zd fine],.agg #[ze zd ab,za bi ids.length c2]] w fun e w'=>e=.returned (.bool v)/\Below w.heap.size w w':=by
 have HA:=za4 hA;have HO:=za4 hO;have HV:=za4 hV;have HI:=za4 hI;have aF:Hid _:=an;have aD:Hid _:=au;clear hA hO hV hI an au;have et:Hid _:=hv;clear hv;have bo:Hid (CR w ((w.alloc (zg #[ze zd n,za a zs.length ac,za ao ko co,za av kv cv,ze zd fine] 30)).alloc (zg #[ze zd ab,za bi ids.length c2] 80)) _ _):=CR.new w _ _;go_enter Tryz.func86,Tryz.ntmps86;obtain⟨c0,c1,bY,c3,c4⟩:=za7 bo.2.1;obtain⟨d0,d1⟩:=za1 bo.2.2
 go_wp2_with fail
 clear c0 c1 bY c3 c4 d0 d1;refine(zC3 n fine ab a ao av bi ac ko co kv cv c2 zs os vs ids _ (HA.below bo.1) (HO.below bo.1) (HV.below bo.1) (HI.below bo.1) aF.X aD.X ay aB fh cw).mono ?_;rintro e w2 ⟨hb,⟨hf,rfl⟩|⟨hf,g,c,_,rfl,_⟩⟩
 ·have gw:Hid _:=bo.1.trans (hb.mono bo.1.size)
  have He:Hid _:=et.symm.trans (zX hf);generalize codeV (zd0 n zs os vs ko kv fine) n zs os vs ko kv ab ids=r at*;have IK:(r==0)=false:=by simp[hf]
  clear hb hf bo et;go_wp2;go_ret;exact⟨zb6 He.symm,gw.X⟩
 ·have gw:Hid _:=bo.1.trans (hb.mono bo.1.size)
  have He:Hid _:=et.symm.trans (zW hf);clear hb hf bo et;generalize homeV n zs (zd5 os ko ids) ids.length (zc4 vs kv ab 1) (zc4 vs kv ab 3)=hm;go_wp2;go_ret;exact⟨zb6 He.symm,gw.X⟩
theorem zs5(n fine ab:Int)(a ao av bi:Option Addr)(ac ko co kv cv c2:Nat)(zs os vs ids:List Int)(w:zi)(hA:za3 w a zs)(hO:za3 w ao os)(hV:za3 w av vs)(hI:za3 w bi ids)(an:os.length=ko*6)(au:vs.length=kv*5)(ay:ko<=9223372036854775807)(aB:kv<=9223372036854775807)(fh:ids.length<=9223372036854775807)(aG:codeV (zd0 n zs os vs ko kv fine) n zs os vs ko kv ab ids=0):
 Calls zh 89 #[.agg #[ze zd n,za a zs.length ac,za ao ko co,za av kv cv,ze zd fine],.agg #[ze zd ab,za bi ids.length c2]] w fun e w'=>e=.returned (ze zd (zq1 n zs (zd5 os ko ids) ids.length (zc4 vs kv ab 1)))/\Below w.heap.size w w':=by
 have HA:=za4 hA;have HO:=za4 hO;have HV:=za4 hV;have HI:=za4 hI;have aF:Hid _:=an;have aD:Hid _:=au;clear hA hO hV hI an au;have bo:Hid (CR w ((w.alloc (zg #[ze zd n,za a zs.length ac,za ao ko co,za av kv cv,ze zd fine] 30)).alloc (zg #[ze zd ab,za bi ids.length c2] 80)) _ _):=CR.new w _ _;obtain⟨iT,_,m7⟩:=zf3 (zg9 aG).1;obtain⟨cD,b_,ce,a8,_⟩:=zb2 iT;have eY:=zr7 ce a8 ab;have di:Hid _:=cD;have mV:Hid _:=b_;have mz:=za4 a8;have bF:=(zg3 m7).1;clear cD b_ ce a8 iT m7 aG;obtain⟨r,cz⟩:=nmd (zq1 n zs (zd5 os ko ids) ids.length (zc4 vs kv ab 1));rw[cz.X];go_enter Tryz.func89,Tryz.ntmps89;obtain⟨c0,c1,bY,c3,c4⟩:=za7 bo.2.1;obtain⟨d0,d1⟩:=za1 bo.2.2
 go_wp2_with fail
 clear c0 c1 bY c3 c4 d0 d1;refine(zJ2 n fine ab a ao av _ ac ko co kv cv vs _ (HV.below bo.1) aD.X aB).mono ?_;rintro e w2 ⟨rfl,hb⟩;obtain⟨v0,G0⟩:=nmd (zc4 vs kv ab 0);obtain⟨v1,G1⟩:=nmd (zc4 vs kv ab 1);obtain⟨v2,G2⟩:=nmd (zc4 vs kv ab 2);obtain⟨v3,G3⟩:=nmd (zc4 vs kv ab 3);obtain⟨v4,G4⟩:=nmd (zc4 vs kv ab 4);rw[G1.X,G2.X,G3.X,G4.X]at eY;rw[G1.X]at cz;rw[G0.X,G1.X,G2.X,G3.X,G4.X];generalize fnd5T vs kv ab=tv;have jv:Hid _:=eY.1;clear eY;have C3:Hid (CR w (w2.alloc (zg #[ze zd v0,ze zd v1,ze zd v2,ze zd v3,ze zd v4] 107)) _ _):=CR.alloc (bo.below hb) _;have fJ:Hid ((w2.alloc (zg #[ze zd v0,ze zd v1,ze zd v2,ze zd v3,ze zd v4] 107)).heap[w2.heap.size]? =_):=zS _ _;clear hb bo;obtain⟨q0,q1,q2,q3,q4⟩:=za7 fJ.X
 go_wp2_with fail
 clear q0 q1 q2 q3 q4;generalize w2.alloc _=W2 at*;generalize w2.heap.size=gv at*;have dG:Hid (z35 n (zd5 os ko ids) ids.length):=z59 mV.X mz.X ids;go_loopw[7,8,9] (fun pl sm t wr=>∃k:Nat,k<=ids.length/\t=ze zd k/\pl=ze zd (plc (zd5 os ko ids) v1 k)/\sm=ze zd (zr2 n zs (zd5 os ko ids) v1 k)/\CR w wr #[ze zd n,za a zs.length ac,za ao ko co,za av kv cv,ze zd fine] #[ze zd ab,za bi ids.length c2]/\wr.heap[gv]? =some (zg #[ze zd v0,ze zd v1,ze zd v2,ze zd v3,ze zd v4] 107 (0,0))) (fun _ _ t _=>ids.length - (intOf t).toNat)
 case atStart=>exact⟨0,xi _,rfl,rfl,rfl,C3.X,fJ.X⟩
 case round=>
  clear C3 fJ;obtain⟨k,hk,rfl,rfl,rfl,hb,jL⟩:=hrel;have aS:=zX3 dG.X jv.1 jv.2 k hk;have iT:=z48 (ros:=(zd5 os ko ids)) (home:=v1) di.X k;have HB:=za4 hb;have bB:=za4 jL;obtain⟨c0,c1,bY,c3,c4⟩:=za7 hb.2.1;obtain⟨d0,d1⟩:=za1 hb.2.2;obtain⟨p,bj⟩:=nmd (plc (zd5 os ko ids) v1 k);obtain⟨f,fe⟩:=nmd (zr2 n zs (zd5 os ko ids) v1 k);rw[bj.X]at aS;rw[fe.X]at iT;rw[bj.X,fe.X];have mv:Hid _:=aS;clear hb jL aS;by_cases ah:k<ids.length
  ·obtain⟨b,off,rfl,aJ⟩:=za3.some (za3.below HI.X HB.1) ah
   have ct:=aJ k ah;clear aJ;obtain⟨id,bG⟩:=nmd (ids.getD k 0);rw[bG.X]at ct;have fm:=(zR1 mV.X mz.X id).1;obtain⟨o0,H0⟩:=nmd (zd1 os ko id 0);obtain⟨o1,H1⟩:=nmd (zd1 os ko id 1);obtain⟨o2,H2⟩:=nmd (zd1 os ko id 2);obtain⟨o3,H3⟩:=nmd (zd1 os ko id 3);obtain⟨o4,H4⟩:=nmd (zd1 os ko id 4);obtain⟨o5,H5⟩:=nmd (zd1 os ko id 5);rw[H1.X]at fm;have fm:Hid _:=fm;obtain⟨d,HD⟩:=nmd (tmI n zs p o1);have j_:=zy3 di.X p o1;rw[HD.X]at j_;have K1:Hid (og6 (zd5 os ko ids) k 1=o1):=(zj7 os ko ids ah (by omega)).trans (by rw[bG.X];exact H1.X);have aY:Hid (zr2 n zs (zd5 os ko ids) v1 (k+1)=f+d):=by
    show _=_;simp only[zr2];rw[fe.X,bj.X,K1.X,HD.X]
   obtain⟨tt,eQ⟩:=nmd (zl6 os ko id)
   go_wp2_with fail
   have ii:=za4 ct;have gT:Hid ((wr.alloc (zg #[ze zd 0,ze zd 0,ze zd 0,ze zd 0,ze zd 0,ze zd 0] 103)).cell? ⟨b,off+k,none⟩=_):=(((y5 wr.heap.size wr).alloc (zT _) _).cell (p:=⟨b,off+k,none⟩) (zV ct)).trans ct;have kL:Hid ((wr.alloc (zg #[ze zd 0,ze zd 0,ze zd 0,ze zd 0,ze zd 0,ze zd 0] 103)).heap[gv]? =_):=(xg _ _ (za2 bB.X)).trans bB.X;have cQ:=zV ct;simp at cQ;have aE:=za2 HB.2.1;have dX:=za2 HB.2.2
   go_region_held3 (fun W=>W.cell? ⟨w.heap.size,0,none⟩=some (ze zd n)/\W.cell? ⟨w.heap.size,1,none⟩=some (za a zs.length ac)/\W.cell? ⟨w.heap.size,2,none⟩=some (za ao ko co)/\W.cell? ⟨w.heap.size,3,none⟩=some (za av kv cv)/\W.cell? ⟨w.heap.size,4,none⟩=some (ze zd fine)/\W.cell? ⟨w.heap.size+1,1,none⟩=some (za (some ⟨b,off,none⟩) ids.length c2)/\W.cell? ⟨b,off+k,none⟩=some (ze zd id)) (first|with_reducible exact kS|with_reducible exact⟨(za5 (za5 (za5 (za5 (za5 (za5 kS.1 (y8 aE)) (y8 aE)) (y8 aE)) (y8 aE)) (y8 aE)) (y8 aE)),(za5 (za5 (za5 (za5 (za5 (za5 kS.2.1 (y8 aE)) (y8 aE)) (y8 aE)) (y8 aE)) (y8 aE)) (y8 aE)),(za5 (za5 (za5 (za5 (za5 (za5 kS.2.2.1 (y8 aE)) (y8 aE)) (y8 aE)) (y8 aE)) (y8 aE)) (y8 aE)),(za5 (za5 (za5 (za5 (za5 (za5 kS.2.2.2.1 (y8 aE)) (y8 aE)) (y8 aE)) (y8 aE)) (y8 aE)) (y8 aE)),(za5 (za5 (za5 (za5 (za5 (za5 kS.2.2.2.2.1 (y8 aE)) (y8 aE)) (y8 aE)) (y8 aE)) (y8 aE)) (y8 aE)),(za5 (za5 (za5 (za5 (za5 (za5 kS.2.2.2.2.2.1 (y8 dX)) (y8 dX)) (y8 dX)) (y8 dX)) (y8 dX)) (y8 dX)),(za5 (za5 (za5 (za5 (za5 (za5 kS.2.2.2.2.2.2 (y8 cQ)) (y8 cQ)) (y8 cQ)) (y8 cQ)) (y8 cQ)) (y8 cQ))⟩|go_keep) ((first
    |(go_at_call 88
      with_reducible refine(zr6 n fine id a ao av _ ac ko co kv cv os wr.drew ?_ aF.X ay).mono ?_
      ·exact HO.below HB.1.drew
      rintro e w2 ⟨rfl,aC⟩;rw[H0.X,H1.X,H2.X,H3.X,H4.X,H5.X,eQ.X];have aR:=CR.below (CR.drew HB.X) aC;obtain⟨k0,k1,k2,k3,k4⟩:=za7 aR.2.1;have k5:=(za1 aR.2.2).2;have k6:=(aC.cell (p:=⟨b,off+k,none⟩) (zV ii.X)).trans ii.X;have kS:=xr k0 (xr k1 (xr k2 (xr k3 (xr k4 (xr k5 k6)))));have fF:=za4 aR;have fy:=za4 (za0 aC (za2 bB.X) bB.X);clear aC aR k0 k1 k2 k3 k4 k5 k6)
    |(go_at_call 88
      with_reducible refine(zr6 n fine id a ao av _ ac ko co kv cv os (wr.alloc (zg #[ze zd 0,ze zd 0,ze zd 0,ze zd 0,ze zd 0,ze zd 0] 103)).drew ?_ aF.X ay).mono ?_
      ·exact HO.below (CR.alloc HB.X (zg #[ze zd 0,ze zd 0,ze zd 0,ze zd 0,ze zd 0,ze zd 0] 103)).1.drew
      rintro e w2 ⟨rfl,aC⟩;rw[H0.X,H1.X,H2.X,H3.X,H4.X,H5.X,eQ.X];have aR:=CR.below (CR.drew (CR.alloc HB.X (zg #[ze zd 0,ze zd 0,ze zd 0,ze zd 0,ze zd 0,ze zd 0] 103))) aC;obtain⟨k0,k1,k2,k3,k4⟩:=za7 aR.2.1;have k5:=(za1 aR.2.2).2;have k6:=(aC.cell (p:=⟨b,off+k,none⟩) (zV gT.X)).trans gT.X;have kS:=xr k0 (xr k1 (xr k2 (xr k3 (xr k4 (xr k5 k6)))));have fF:=za4 aR;have fy:=za4 (za0 aC (za2 kL.X) kL.X);obtain⟨z0,z1,z2,z3,z4,z5⟩:=zi2 (za0 aC (k:=wr.heap.size) (by simp) (zS wr (zg #[ze zd 0,ze zd 0,ze zd 0,ze zd 0,ze zd 0,ze zd 0] 103)));have zf:=fun i=>yZ _ _ i _ _ (za0 aC (k:=wr.heap.size) (by simp) (zS wr (zg #[ze zd 0,ze zd 0,ze zd 0,ze zd 0,ze zd 0,ze zd 0] 103)))
      have lR:Hid (w2.heap[wr.heap.size]? =_):=za0 aC (k:=wr.heap.size) (by simp) (zS wr (zg #[ze zd 0,ze zd 0,ze zd 0,ze zd 0,ze zd 0,ze zd 0] 103));clear aC aR k0 k1 k2 k3 k4 k5 k6)))
   all_goals(first
    |(have ee:Hid (CR w (zj (zj (zj (zj (zj (zj w2 ⟨wr.heap.size,0,none⟩ (ze zd o0)) ⟨wr.heap.size,1,none⟩ (ze zd o1)) ⟨wr.heap.size,2,none⟩ (ze zd o2)) ⟨wr.heap.size,3,none⟩ (ze zd o3)) ⟨wr.heap.size,4,none⟩ (ze zd o4)) ⟨wr.heap.size,5,none⟩ (ze zd o5)) _ _):=CR.set (CR.set (CR.set (CR.set (CR.set (CR.set fF.X HB.big) HB.big) HB.big) HB.big) HB.big) HB.big
      have kU:Hid ((zj (zj (zj (zj (zj (zj w2 ⟨wr.heap.size,0,none⟩ (ze zd o0)) ⟨wr.heap.size,1,none⟩ (ze zd o1)) ⟨wr.heap.size,2,none⟩ (ze zd o2)) ⟨wr.heap.size,3,none⟩ (ze zd o3)) ⟨wr.heap.size,4,none⟩ (ze zd o4)) ⟨wr.heap.size,5,none⟩ (ze zd o5)).heap[gv]? =_):=za8 (za8 (za8 (za8 (za8 (za8 fy.X (y8 (za2 bB.X))) (y8 (za2 bB.X))) (y8 (za2 bB.X))) (y8 (za2 bB.X))) (y8 (za2 bB.X))) (y8 (za2 bB.X));have bD:Hid ((zj (zj (zj (zj (zj (zj w2 ⟨wr.heap.size,0,none⟩ (ze zd o0)) ⟨wr.heap.size,1,none⟩ (ze zd o1)) ⟨wr.heap.size,2,none⟩ (ze zd o2)) ⟨wr.heap.size,3,none⟩ (ze zd o3)) ⟨wr.heap.size,4,none⟩ (ze zd o4)) ⟨wr.heap.size,5,none⟩ (ze zd o5)).heap[wr.heap.size]? =_):=zT5 lR.X;clear kS fF fy lR ii gT kL ct z0 z1 z2 z3 z4 z5 zf;generalize(zj (zj (zj (zj (zj (zj w2 ⟨wr.heap.size,0,none⟩ (ze zd o0)) ⟨wr.heap.size,1,none⟩ (ze zd o1)) ⟨wr.heap.size,2,none⟩ (ze zd o2)) ⟨wr.heap.size,3,none⟩ (ze zd o3)) ⟨wr.heap.size,4,none⟩ (ze zd o4)) ⟨wr.heap.size,5,none⟩ (ze zd o5))=W at*;generalize wr.heap.size=g at*)
    |(have ee:Hid (CR w (w2.alloc (zg #[ze zd o0,ze zd o1,ze zd o2,ze zd o3,ze zd o4,ze zd o5] 103)) _ _):=CR.alloc fF.X _
      have kU:Hid ((w2.alloc (zg #[ze zd o0,ze zd o1,ze zd o2,ze zd o3,ze zd o4,ze zd o5] 103)).heap[gv]? =_):=(xg _ _ (za2 fy.X)).trans fy.X;have bD:Hid ((w2.alloc (zg #[ze zd o0,ze zd o1,ze zd o2,ze zd o3,ze zd o4,ze zd o5] 103)).heap[w2.heap.size]? =_):=zS _ _;clear kS fF fy ii gT kL ct;generalize w2.alloc _=W at*;generalize w2.heap.size=g at*))
   all_goals
    clear c0 c1 bY c3 c4 d0 d1 aE dX cQ eQ;generalize tt=tt';obtain⟨c0,c1,bY,c3,c4⟩:=za7 ee.2.1;obtain⟨p0,p1,p2,p3,p4,p5⟩:=zi2 bD.X
    go_wp2_with fail
    clear c0 c1 bY c3 c4 p0 p1 p2 p3 p4 p5;refine(z01 n p o1 _ _ zs _ d HD.X di.X mv.X fm.X (HA.below ee.1)).mono ?_;rintro e W3 ⟨rfl,cG⟩;have tV:=za4 (ee.below cG);have fJ:=za4 (za0 cG (za2 kU.X) kU.X);have vh:=za4 (za0 cG (za2 bD.X) bD.X);clear cG ee kU bD;obtain⟨p0,p1,p2,p3,p4,p5⟩:=zi2 vh.X;go_wp2;go_roundw
    case rel=>exact⟨k+1,by omega,by go_num,by rw[<-K1.X];rfl,by rw[aY.X],tV.X,fJ.X⟩
    case measure=>simp[intOf];omega
  ·have bt:k=ids.length:=by omega
   obtain⟨q0,q1,q2,q3,q4⟩:=za7 bB.X;have HE:Hid (r=f+tmI n zs p v1):=by
    have:=cz.X;unfold zq1 at this;rw[<-bt,fe.X,bj.X]at this;exact this.symm
   clear bt;obtain⟨d,HD⟩:=nmd (tmI n zs p v1);have j_:=zy3 di.X p v1;rw[HD.X]at j_ HE
   go_wp2_with fail
   refine(z01 n p v1 _ _ zs _ d HD.X di.X mv.X jv.X (HA.below HB.1)).mono ?_;rintro e W3 ⟨rfl,cG⟩;have lY:Hid _:=HB.1.trans (cG.mono HB.1.size);clear cG;go_wp2;go_ret;exact⟨zk7 HE.symm,lY.X⟩
theorem yu2{n fi:Int}{zs O V:List Int}{ko kv:Nat}(h:zd0 n zs O V ko kv fi=true):∀x∈yv2 O ko,-9223372036854775808<=x/\x<9223372036854775808:=fun x hx=>by
 unfold zd0 at h;simp only[zY]at h;obtain⟨_,ht⟩:=zd8 h.1.1.2;unfold yv2 at hx;obtain⟨i,hi,rfl⟩:=yF.1 hx;have:=(ht i (List.mem_range.1 hi)).1;unfold zH8 inB at this;simp only[zY,qh]at this;omega
theorem yc5(n fine:Int)(a ao av bi:Option Addr)(ac ko co kv cv c2:Nat)(zs os ids:List Int)(w:zi)(hO:za3 w ao os)(hI:za3 w bi ids)(an:os.length=ko*6)(ay:ko<=9223372036854775807)(fh:ids.length<=9223372036854775807)(cw:ids.length<=c2):
 Calls zh 149 #[.agg #[ze zd n,za a zs.length ac,za ao ko co,za av kv cv,ze zd fine],za bi ids.length c2] w fun e w'=>Below w.heap.size w w'/\((zp2 os ko ids=false/\e=.returned (.tuple #[za none 0 0,.bool false]))∨(zp2 os ko ids=true/\e=.returned (.tuple #[za (some ⟨w.heap.size+1,0,none⟩) ids.length ids.length,.bool true])/\za3 w' (some ⟨w.heap.size+1,0,none⟩) (zd5 os ko ids))):=by
 have HO:=za4 hO;have HI:=za4 hI;have aF:Hid _:=an;clear hO hI an;have aU:Hid (Below w.heap.size w (w.alloc (zg #[ze zd n,za a zs.length ac,za ao ko co,za av kv cv,ze zd fine] 30))):=zP _;have ku:Hid ((w.alloc (zg #[ze zd n,za a zs.length ac,za ao ko co,za av kv cv,ze zd fine] 30)).heap[w.heap.size]? =_):=zS _ _;by_cases bF:ids.length<=12
 ·go_enter Tryz.func149,Tryz.ntmps149
  go_wp2_with(first
   |(at_make;refine yd5 _ rfl _ _ rfl (w.heap.size+1) zd zd _ ids.length rfl rfl rfl (by omega) (by simp) ?_;intro w1 hown0 hgrow0))
  have eF:Hid _:=aU.grown hgrow0 aU.size (fun k e=>by cases e);have rV:Hid (w1.heap[w.heap.size]? =_):=za6 hgrow0 ku.X (by simp);have Jm:Hid (w1.ownsRow (w.heap.size+1) 103 6 (za (some ⟨w.heap.size+1,0,none⟩) 0 ids.length) 0 []):=by
   show w1.ownsRow _ _ _ _ _ _;simpa using hown0
  clear hown0 hgrow0 aU ku;go_loopw[6,19] (fun sl t wr=>∃k:Nat,k<=ids.length/\t=ze zd k/\sl=za (some ⟨w.heap.size+1,0,none⟩) k ids.length/\zu7 os ko ids k/\Below w.heap.size w wr/\wr.heap[w.heap.size]? =some (zg #[ze zd n,za a zs.length ac,za ao ko co,za av kv cv,ze zd fine] 30 (0,0))/\wr.ownsRow (w.heap.size+1) 103 6 (za (some ⟨w.heap.size+1,0,none⟩) k ids.length) k (((zd5 os ko ids).take (k*6)).map (ze zd))) (fun _ t _=>ids.length - (intOf t).toNat)
  case atStart=>exact⟨0,xi _,rfl,rfl,zA4 _ _ _,eF.X,rV.X,by simpa using Jm.X⟩
  case round=>
   clear eF rV Jm;obtain⟨k,hk,rfl,rfl,BI,hb,hp,hw⟩:=hrel;have HT:=za4 BI;have HB:Hid _:=hb;have HP:=za4 hp;have HW:=za4 hw;obtain⟨c0,c1,bY,c3,c4⟩:=za7 hp;clear BI hb hp hw;by_cases ah:k<ids.length
   ·obtain⟨b,off,rfl,aJ⟩:=za3.some (za3.below HI.X HB.X) ah
    have ct:=aJ k ah;clear aJ;obtain⟨id,bG⟩:=nmd (ids.getD k 0);rw[bG.X]at ct;have oh:k<=c2:=by omega
    obtain⟨o0,H0⟩:=nmd (zd1 os ko id 0);obtain⟨o1,H1⟩:=nmd (zd1 os ko id 1);obtain⟨o2,H2⟩:=nmd (zd1 os ko id 2);obtain⟨o3,H3⟩:=nmd (zd1 os ko id 3);obtain⟨o4,H4⟩:=nmd (zd1 os ko id 4);obtain⟨o5,H5⟩:=nmd (zd1 os ko id 5);obtain⟨tt,eQ⟩:=nmd (zl6 os ko id)
    go_wp2_with fail
    refine(z50 n fine id a ao av _ ac ko co kv cv os _ (HO.below HB.X) aF.X ay).mono ?_;rintro e w2 ⟨rfl,aC⟩;rw[H0.X,H1.X,H2.X,H3.X,H4.X,H5.X,eQ.X];have gw:Hid (Below w.heap.size w (w2.alloc (zg #[ze zd o0,ze zd o1,ze zd o2,ze zd o3,ze zd o4,ze zd o5] 103))):=(HB.trans (aC.mono HB.size)).alloc (xj HB.size aC.size) _;have eX:Hid ((w2.alloc (zg #[ze zd o0,ze zd o1,ze zd o2,ze zd o3,ze zd o4,ze zd o5] 103)).heap[w.heap.size]? =_):=(xg _ _ (za2 (za0 aC (za2 HP.X) HP.X))).trans (za0 aC (za2 HP.X) HP.X);have Nk:Hid ((w2.alloc (zg #[ze zd o0,ze zd o1,ze zd o2,ze zd o3,ze zd o4,ze zd o5] 103)).ownsRow _ _ _ _ _ _):=(zb9 HW.X aC).alloc _;have iZ:Hid ((w2.alloc (zg #[ze zd o0,ze zd o1,ze zd o2,ze zd o3,ze zd o4,ze zd o5] 103)).heap[w2.heap.size]? =_):=zS _ _;obtain⟨p0,p1,p2,p3,p4,p5⟩:=zi2 iZ.X;clear aC c0 c1 bY c3 c4 ct;cases tt
    ·have HN:Hid _:=zz2 ah (zz7 bG.X eQ.X rfl)
     go_wp2;go_ret2;exact⟨gw.X,.inl ⟨HN.X,rfl⟩⟩
    ·obtain⟨hh,HH⟩:=nmd (z02 ids k id)
     cases hh
     ·have eb:Hid (zu7 os ko ids (k+1)):=zA0 HT.X (zz7 bG.X eQ.X HH.X)
      go_wp2_with(first
       |(go_at_call 178;refine(zB0 _ k _ id ids _ (HI.below gw.X) hk (by omega)).mono ?_;rintro e w3 ⟨rfl,rfl⟩;rw[HH.X])
       |(at_builtin;refine zT4 _ rfl _ _ rfl (w.heap.size+1) (w.heap.size+1) k ids.length _ rfl (Nk.alloc _) _ 1 1 [ze zd o0,ze zd o1,ze zd o2,ze zd o3,ze zd o4,ze zd o5] rfl rfl (yn3 _ _ _ _ _ _ _ _ _ (by simp)) (by simp[zq]) (by omega) ?_;intro w4 hown4 aI))
      have aq:some w.heap.size≠some (w.heap.size+1):=by simp
      refine⟨⟨k+1,by omega,by go_num,rfl,eb.X,(gw.alloc gw.size _).grown aI (xj gw.size (by simp)) (fun j e=>by cases e;omega),za6 aI ((xg _ _ (za2 eX.X)).trans eX.X) (by simp),?_⟩,by simp[intOf];omega⟩;rw[y68 os ko ids ah bG.X H0.X H1.X H2.X H3.X H4.X H5.X]at hown4;exact hown4
     ·have HN:Hid _:=zz2 ah (zz7 bG.X eQ.X HH.X)
      go_wp2_with(first
       |(go_at_call 178;refine(zB0 _ k _ id ids _ (HI.below gw.X) hk (by omega)).mono ?_;rintro e w3 ⟨rfl,rfl⟩;rw[HH.X]))
      go_ret2;exact⟨gw.X,.inl ⟨HN.X,rfl⟩⟩
   ·have bt:k=ids.length:=by omega
    have HN:Hid _:=z76 bF (bt▸HT.X);subst bt;go_wp2;go_ret2;refine⟨HB.X,.inr ⟨HN.X,rfl,?_⟩⟩;have:=HW.X;rw[xF (by rw[zj0];omega)]at this;exact zd4 this
 ·have HN:Hid (zp2 os ko ids=false):=zH5 bF
  go_enter Tryz.func149,Tryz.ntmps149;go_wp2;go_ret2;exact⟨aU.X,.inl ⟨HN.X,rfl⟩⟩
def CRT(w W:zi)(cs rs ts:Array Value):Prop:=CR w W cs rs/\W.heap[w.heap.size+2]? =some (.cells ts 119 (0,0))
theorem CRT.new(w:zi)(cs rs ts:Array Value):CRT w (((w.alloc (.cells cs 30)).alloc (.cells rs 80)).alloc (.cells ts 119)) cs rs ts:=by
 refine⟨(CR.new w cs rs).alloc _,?_⟩;have:=zS ((w.alloc (.cells cs 30)).alloc (.cells rs 80)) (.cells ts 119);simpa using this
theorem CRT.below{w W W':zi}{cs rs ts:Array Value}(h:CRT w W cs rs ts)(hb:Below W.heap.size W W'):CRT w W' cs rs ts:=
 ⟨h.1.below hb,za0 hb (za2 h.2) h.2⟩
theorem CRT.b{w W:zi}{cs rs ts:Array Value}(h:CRT w W cs rs ts):Below w.heap.size w W:=h.1.1
theorem CRT.alloc{w W:zi}{cs rs ts:Array Value}(h:CRT w W cs rs ts)(o:Obj):CRT w (W.alloc o) cs rs ts:=h.below (zP _)
theorem zK4(n fine ab:Int)(a ao av bi:Option Addr)(ac ko co kv cv c2:Nat)(zs os vs ids:List Int)(w:zi)(hA:za3 w a zs)(hO:za3 w ao os)(hV:za3 w av vs)(hI:za3 w bi ids)(an:os.length=ko*6)(au:vs.length=kv*5)(ay:ko<=9223372036854775807)(aB:kv<=9223372036854775807)(fh:ids.length<=9223372036854775807)(cw:ids.length<=c2)(bT:zd0 n zs os vs ko kv fine=true):
 Calls zh 116 #[.agg #[ze zd n,za a zs.length ac,za ao ko co,za av kv cv,ze zd fine],.agg #[ze zd ab,za bi ids.length c2]] w fun e w'=>Below w.heap.size w w'/\((zm6 true vs os kv ko ab ids≠0/\e=.returned (.tuple #[.agg #[ze zd 0,za none 0 0,ze zd 0,ze zd 0,ze zd 0,ze zd 0,ze zd 0,za none 0 0],ze zd (zm6 true vs os kv ko ab ids)]))∨(zm6 true vs os kv ko ab ids=0/\∃g,w.heap.size<=g/\e=.returned (.tuple #[.agg #[ze zd n,za a zs.length ac,ze zd (zc4 vs kv ab 0),ze zd (zc4 vs kv ab 1),ze zd (zc4 vs kv ab 2),ze zd (zc4 vs kv ab 3),ze zd (zc4 vs kv ab 4),za (some ⟨g,0,none⟩) ids.length ids.length],ze zd 0])/\za3 w' (some ⟨g,0,none⟩) (zd5 os ko ids))):=by
 have HA:=za4 hA;have HO:=za4 hO;have HV:=za4 hV;have HI:=za4 hI;have aF:Hid _:=an;have aD:Hid _:=au;clear hA hO hV hI an au;have HC:Hid _:=bT;clear bT;have bo:Hid (CRT w (((w.alloc (zg #[ze zd n,za a zs.length ac,za ao ko co,za av kv cv,ze zd fine] 30)).alloc (zg #[ze zd ab,za bi ids.length c2] 80)).alloc (zg #[ze zd 0,za none 0 0,ze zd 0,ze zd 0,ze zd 0,ze zd 0,ze zd 0,za none 0 0] 119)) _ _ _):=CRT.new w _ _ _;obtain⟨r,HR⟩:=nmd (zm6 true vs os kv ko ab ids);rw[HR.X];go_enter Tryz.func116,Tryz.ntmps116;obtain⟨c0,c1,bY,c3,c4⟩:=za7 bo.X.1.2.1;obtain⟨d0,d1⟩:=za1 bo.X.1.2.2
 go_wp2_with fail
 clear c0 c1 bY c3 c4 d0 d1;refine(zJ3 n fine ab a ao av _ ac ko co kv cv vs _ (HV.X.below bo.X.1.1) aD.X aB).mono ?_;rintro e w2 ⟨rfl,hb⟩;obtain⟨v0,G0⟩:=nmd (zc4 vs kv ab 0);obtain⟨v1,G1⟩:=nmd (zc4 vs kv ab 1);obtain⟨v2,G2⟩:=nmd (zc4 vs kv ab 2);obtain⟨v3,G3⟩:=nmd (zc4 vs kv ab 3);obtain⟨v4,G4⟩:=nmd (zc4 vs kv ab 4);rw[G0.X,G1.X,G2.X,G3.X,G4.X];have C2:Hid (CRT w (w2.alloc (zg #[ze zd v0,ze zd v1,ze zd v2,ze zd v3,ze zd v4] 107)) _ _ _):=(bo.X.below hb).alloc _;have fy:Hid ((w2.alloc (zg #[ze zd v0,ze zd v1,ze zd v2,ze zd v3,ze zd v4] 107)).heap[w2.heap.size]? =_):=zS _ _;clear hb bo;obtain⟨t0,t1,t2,t3,t4,t5,t6,t7⟩:=zk3 C2.X.2;have tf:=fun i=>yZ _ _ i _ _ C2.X.2;cases ht:fnd5T vs kv ab
 ·have cz:Hid _:=HR.X.symm.trans (yv9 rfl ht)
  go_wp2;refine xe (v:=.tuple #[.agg #[ze zd 0,za none 0 0,ze zd 0,ze zd 0,ze zd 0,ze zd 0,ze zd 0,za none 0 0],ze zd 2]) (by simp[results,Tryz.results116,go_sem,t0,t1,t2,t3,t4,t5,t6,t7]) rfl ⟨?_,.inl ⟨by rw[cz.X];decide,by rw[cz.X]⟩⟩
  repeat(first|with_reducible exact C2.X.b|refine xq ?_ (by simp<;>omega) _)
 ·have nM:Hid _:=ht
  clear ht;obtain⟨c0,c1,bY,c3,c4⟩:=za7 C2.X.1.2.1;obtain⟨d0,d1⟩:=za1 C2.X.1.2.2
  go_wp2_with fail
  clear c0 c1 bY c3 c4 d0 d1 t0 t1 t2 t3 t4 t5 t6 t7 tf;generalize w2.alloc _=W2 at*;generalize w2.heap.size=gv at*;refine(yc5 n fine a ao av bi ac ko co kv cv c2 zs os ids W2 (HO.X.below C2.X.1.1) (HI.X.below C2.X.1.1) aF.X ay fh cw).mono ?_;rintro e w3 ⟨hb,⟨bu,rfl⟩|⟨bu,rfl,ev⟩⟩
  ·have C3:Hid (CRT w w3 _ _ _):=C2.X.below hb
   have cz:Hid _:=HR.X.symm.trans (zQ3 rfl nM.X bu);obtain⟨t0,t1,t2,t3,t4,t5,t6,t7⟩:=zk3 C3.X.2;have tf:=fun i=>yZ _ _ i _ _ C3.X.2;clear hb bu;go_wp2;refine xe (v:=.tuple #[.agg #[ze zd 0,za none 0 0,ze zd 0,ze zd 0,ze zd 0,ze zd 0,ze zd 0,za none 0 0],ze zd 3]) (by simp[results,Tryz.results116,go_sem,t0,t1,t2,t3,t4,t5,t6,t7]) rfl ⟨?_,.inl ⟨by rw[cz.X];decide,by rw[cz.X]⟩⟩
   repeat(first|with_reducible exact C3.X.b|refine xq ?_ (by simp<;>omega) _)
  ·have dD:Hid _:=bu
   have C3:=za4 (C2.X.below hb);have fJ:=za4 (za0 hb (za2 fy.X) fy.X);have e_:=za4 ev;have cE:Hid (w.heap.size+2<W2.heap.size+1):=Nat.lt_succ_of_lt (za2 C2.X.2);clear hb bu ev C2 fy;generalize W2.heap.size+1=gr at*;obtain⟨q0,q1,q2,q3,q4⟩:=za7 fJ.X;obtain⟨cD,b_,ce,a8,_⟩:=zb2 HC.X;have bE:=(zr7 ce a8 ab).2.1;rw[G2.X]at bE;have mV:Hid _:=b_;have mz:Hid _:=a8;clear cD b_ ce a8;have bF:=(zg3 dD.X).1
   go_wp2_with fail
   clear q0 q1 q2 q3 q4;go_loopw[9,36] (fun rm t wr=>∃k:Nat,k<=ids.length/\t=ze zd k/\rm=ze zd (v2 - zn0 os ko ids k)/\CRT w wr #[ze zd n,za a zs.length ac,za ao ko co,za av kv cv,ze zd fine] #[ze zd ab,za bi ids.length c2] #[ze zd 0,za none 0 0,ze zd 0,ze zd 0,ze zd 0,ze zd 0,ze zd 0,za none 0 0]/\wr.heap[gv]? =some (zg #[ze zd v0,ze zd v1,ze zd v2,ze zd v3,ze zd v4] 107 (0,0))/\za3 wr (some ⟨gr,0,none⟩) (zd5 os ko ids)) (fun _ t _=>ids.length - (intOf t).toNat)
   case atStart=>exact⟨0,xi _,rfl,by simp[zn0],C3.X,fJ.X,e_.X⟩
   case round=>
    clear C3 fJ e_;obtain⟨k,hk,rfl,rfl,hb,jL,ev⟩:=hrel;have dp:=zJ1 mV.X ids k;have HB:=za4 hb;have bB:=za4 jL;have e_:=za4 ev;obtain⟨s0,gE⟩:=nmd (zn0 os ko ids k);rw[gE.X]at dp⊢;clear hb jL ev;by_cases ah:k<ids.length
    ·obtain⟨b',aT,e,aJ⟩:=za3.some e_.X (j:=k*6) (by rw[zj0];omega)
     simp at e;obtain⟨rfl,rfl⟩:=e;obtain⟨r0,r1,r2,r3,r4,r5⟩:=zu3 aJ (zj0 os ko ids) k ah;clear aJ;simp only[yb]at r0 r1 r2 r3 r4 r5;obtain⟨id,bG⟩:=nmd (ids.getD k 0);rw[zj7 os ko ids ah (by omega),bG.X]at r0 r1 r2 r3 r4 r5;have gu:=z87 mV.X id;obtain⟨o0,H0⟩:=nmd (zd1 os ko id 0);obtain⟨o1,H1⟩:=nmd (zd1 os ko id 1);obtain⟨o2,H2⟩:=nmd (zd1 os ko id 2);obtain⟨o3,H3⟩:=nmd (zd1 os ko id 3);obtain⟨o4,H4⟩:=nmd (zd1 os ko id 4);obtain⟨o5,H5⟩:=nmd (zd1 os ko id 5);rw[H2.X]at gu;rw[H0.X]at r0;rw[H1.X]at r1;rw[H2.X]at r2;rw[H3.X]at r3;rw[H4.X]at r4;rw[H5.X]at r5;have kP:Hid (zn0 os ko ids (k+1)=s0+o2):=by
      show _=_;unfold zn0;rw[gE.X,bG.X,H2.X]
     go_wp2;exact⟨⟨k+1,by omega,by go_num,by rw[kP.X];go_num,HB.X.alloc _,(xg _ _ (za2 bB.X)).trans bB.X,e_.X.below (zP _)⟩,by simp[intOf];omega⟩
    ·have bt:k=ids.length:=by omega
     have mO:Hid _:=bt▸gE.X;obtain⟨t0,t1,t2,t3,t4,t5,t6,t7⟩:=zk3 HB.X.2;have tf:=fun i=>yZ _ _ i _ _ HB.X.2;clear bt;by_cases hroom2:v2<s0
     ·have cz:Hid _:=HR.X.symm.trans (yw2 rfl nM.X dD.X (by rw[mO.X,G2.X];exact hroom2))
      go_wp2;refine xe (v:=.tuple #[.agg #[ze zd 0,za none 0 0,ze zd 0,ze zd 0,ze zd 0,ze zd 0,ze zd 0,za none 0 0],ze zd 4]) (by simp[results,Tryz.results116,go_sem,t0,t1,t2,t3,t4,t5,t6,t7]) rfl ⟨?_,.inl ⟨by rw[cz.X];decide,by rw[cz.X]⟩⟩
      repeat(first|with_reducible exact HB.X.b|refine xq ?_ (by simp<;>omega) _)
     ·have cz:Hid _:=HR.X.symm.trans (yy9 rfl nM.X dD.X (by rw[mO.X,G2.X];exact hroom2))
      obtain⟨q0,q1,q2,q3,q4⟩:=za7 bB.X;obtain⟨c0,c1,bY,c3,c4⟩:=za7 HB.X.1.2.1;go_wp2;refine xe (v:=.tuple #[.agg #[ze zd n,za a zs.length ac,ze zd v0,ze zd v1,ze zd v2,ze zd v3,ze zd v4,za (some ⟨gr,0,none⟩) ids.length ids.length],ze zd 0]) (by simp[results,Tryz.results116,go_sem,t0,t1,t2,t3,t4,t5,t6,t7]) rfl ⟨?_,.inr ⟨cz.X,gr,by have:=cE.X;omega,?_,?_⟩⟩
      ·repeat(first|with_reducible exact HB.X.b|refine xq ?_ (by simp<;>omega) _)
      ·rw[G0.X,G1.X,G2.X,G3.X,G4.X]
      ·repeat(first|with_reducible exact e_.X|with_reducible refine yk8 ?_ (by have:=cE.X;omega))
theorem zD6(n x y:Int)(v0 v1 v2 v3 v4:Int)(a ar:Option Addr)(ac kr cr:Nat)(zs:List Int)(w:zi)(d:Int)(hd:tmI n zs x y=d)(hm:zq7 n zs=true)(hx:0<=x/\x<n)(hy:0<=y/\y<n)(hA:za3 w a zs):
 Calls zh 118 #[.agg #[ze zd n,za a zs.length ac,ze zd v0,ze zd v1,ze zd v2,ze zd v3,ze zd v4,za ar kr cr],ze zd x,ze zd y] w fun e w'=>e=.returned (ze zd d)/\Below w.heap.size w w':=hd▸yD0 n x y v0 v1 v2 v3 v4 a ar ac kr cr zs w hm hx hy hA
theorem y03(L:List Int)(k:Nat)(x:Int):L.take k++[x]++L.drop k=insL L k x:=by
 unfold insL;rw[yi];rfl
theorem zW9(b off c:Nat)(L:List Int)(x:Int)(w:zi)(hA:za3 w (some ⟨b,off,none⟩) L)(hl:L.length<=100)(hc:L.length<=c):
 Calls zh 92 #[za (some ⟨b,off,none⟩) L.length c,ze zd x] w fun e w'=>∃g cc,e=.returned (za (some ⟨g,0,none⟩) (L.length+1) cc)/\Below w.heap.size w w'/\w'.ownsRow w.heap.size 2 1 (za (some ⟨g,0,none⟩) (L.length+1) cc) (L.length+1) ((zz1 L x).map (ze zd)):=by
 have HA:=za4 hA;clear hA;obtain⟨m,HM⟩:=nmd L.length;rw[HM.X]at hl hc⊢;have B1:Hid (Below w.heap.size w (w.alloc (zg #[] 2))):=zP _;go_enter Tryz.func92,Tryz.ntmps92
 go_wp2_with fail
 go_loop [5] (fun t=>∃k:Nat,k<=m/\t=ze zd k/\∀j,j<k->L.getD j 0<x) (fun t=>m - (intOf t).toNat)
 case atStart=>exact⟨0,xi _,rfl,fun j hj=>by omega⟩
 case round=>
  obtain⟨k,hk,rfl,hj⟩:=hrel;have HJ:Hid _:=hj;clear hj;by_cases hcont:k<m/\L.getD k 0<x
  ·obtain⟨ah,hx⟩:=hcont
   have ek:(k:Int)<(m:Int):=by omega
   obtain⟨_,_,e,c1⟩:=HA.X k (by rw[HM.X];exact ah);simp only[x7,qg,qt]at e;obtain⟨rfl,rfl⟩:=e;have Ep:Hid (∀j,j<k+1->L.getD j 0<x):=fun j hj=>by
    by_cases e:j=k
    ·rw[e];exact hx
    ·exact HJ.X j (by omega)
   obtain⟨y,HY⟩:=nmd (L.getD k 0);rw[HY.X]at c1 hx;go_wp2
   go_round
   case rel=>exact⟨k+1,by omega,by go_num,Ep.X⟩
   case measure=>simp[intOf];omega
  ·have HE:Hid (L.take k++[x]++L.drop k=zz1 L x):=by
    show _=_;rw[y03];exact zP9 L x k (by rw[HM.X];exact hk) HJ.X (fun h h2=>hcont ⟨by rw[<-HM.X];exact h,h2⟩)
   have cx:∀y,L.getD k 0=y->k<m->w.cell? ⟨b,off+k,none⟩=some (ze zd y):=fun y hy ah=>by
    obtain⟨_,_,e,c1⟩:=HA.X k (by rw[HM.X];exact ah);simp only[x7,qg,qt]at e;obtain⟨rfl,rfl⟩:=e;rw[<-hy];exact c1
   obtain⟨y,HY⟩:=nmd (L.getD k 0);have cy:=cx y HY.X;rw[HY.X]at hcont;have HC:=za4 hcont;clear cx hcont;by_cases ah:k<m
   all_goals
    first
     |(have ek:(k:Int)<(m:Int):=by omega
       have c1:=cy ah;have EH:¬y<x:=fun h=>HC.X ⟨ah,h⟩)
     |have ek:¬((k:Int)<(m:Int)):=by omega
    clear cy;have oh:k<=c:=by omega
    go_wp2_with(first
     |(at_builtin
       refine zc9 _ rfl (.tmp 21) (.tmp 24) rfl w.heap.size _ 0 [] rfl (qo w #[] 0 (zT _) (by unfold maxLen;omega) (by simp)) b off k c (L.take k) rfl (by rw[yh,HM.X];omega) (yo7 (HA.below B1.X) k) (by omega) (by omega) (by simp) ?_;intro v2 w2 ae hg a_ aW;have B2:Hid _:=B1.grown hg B1.size (fun k e=>z58 e);rw[yb,yw]at ae;obtain⟨g2,c2,rfl⟩:=zr1 ae (zn1 aW ⟨_,_,_,rfl⟩);have O2:=za4 ae;have B3:Hid (Below w.heap.size w (w2.alloc (zg #[ze zd x] 2))):=B2.alloc B2.size _;clear ae hg a_ aW)
     |(at_builtin
       refine zc9 _ rfl (.tmp 26) (.tmp 28) rfl w.heap.size _ k (L.take k) rfl (O2.alloc _) w2.heap.size 0 1 1 [x] rfl rfl (ze2 w2 x) (by omega) (by omega) B3.size ?_;intro v4 w4 ae hg a_ aW;have dU:=(O2.lt g2 rfl).1;have B4:Hid _:=B3.grown hg B3.size (fun k e=>xj dU (z58 e));obtain⟨g4,c4,rfl⟩:=zr1 ae (zn1 aW ⟨_,_,_,rfl⟩);have O4:=za4 ae;clear ae hg a_ aW dU)
     |(at_builtin
       refine zG1 _ rfl (.tmp 30) (.tmp 33) rfl w.heap.size _ (k+1) (L.take k++[x]) rfl O4.X _ (m - k) _ (L.drop k) rfl (by first|exact⟨_,_,rfl⟩|exact ys9 b off k c) (by rw[qj,HM.X]) (by first|exact zN6 (HA.below B4.X) k|exact yz5 (HA.below B4.X) k c (by rw[HM.X];exact hc)) (by omega) (by omega) B4.size ?_;intro v5 w5 ae hg a_ aW;have dU:=(O4.lt g4 rfl).1;have B5:Hid _:=B4.grown hg B4.size (fun k e=>xj dU (z58 e));rw[show k+1+(m - k)=m+1 by omega,HE.X]at ae;obtain⟨g5,c5,rfl⟩:=zr1 ae (zn1 aW ⟨_,_,_,rfl⟩);have O5:=za4 ae;clear ae hg a_ aW dU))
    all_goals
     go_ret;exact⟨g5,c5,rfl,B5.X,O5.X⟩
structure PW(w W:zi)(B:Nat)(lv ov:Value)(L O:List Int):Prop where
 b:Below w.heap.size w W
 hB:w.heap.size<=B/\B<=W.heap.size
 l:W.ownsRow B 2 1 lv L.length (L.map (ze zd))
 o:W.ownsRow B 2 1 ov O.length (O.map (ze zd))
 ne:lv.ownBlock≠ov.ownBlock
 sl:∃g c,lv=za (some ⟨g,0,none⟩) L.length c
 so:∃g c,ov=za (some ⟨g,0,none⟩) O.length c
theorem PW.put{w W w4:zi}{B:Nat}{lv ov dQ:Value}{L O:List Int}{x:Int}{o:Obj}(h:PW w W B lv ov L O)(ae:w4.ownsRow B 2 1 dQ (O.length+1) ((O++[x]).map (ze zd)))(hg:(W.alloc o).grownBy w4 ov.ownBlock)(a_:dQ.ownBlock=ov.ownBlock∨dQ.ownBlock=some (W.alloc o).heap.size)(hn:dQ=za none 0 0↔ov=za none 0 0/\1=0):PW w w4 B lv dQ L (O++[x]):=by
 have hA:Below w.heap.size w (W.alloc o):=h.b.alloc h.b.size _;have ah:∀g,lv.ownBlock=some g->g<W.heap.size:=fun g e=>(h.l.lt g e).2;refine⟨hA.grown hg hA.size (fun k e=>by have:=(h.o.lt k e).1;have:=h.hB.1;omega),⟨h.hB.1,xj h.hB.2 (xj (by simp) hg.size)⟩,(h.l.alloc o).kept hg (.inr h.ne),?_,?_,h.sl,?_⟩
 ·rw[xY];exact ae
 ·rcases a_ with e|e
  ·rw[e];exact h.ne
  ·rw[e]
   intro e2;have:=ah _ e2;simp at this;omega
 ·rw[xY]
  obtain⟨g,c,e⟩:=h.so;exact zr1 ae (zn1 hn ⟨g,_,c,e⟩)
theorem zT8(W:zi):(W.alloc (zg #[] 2)).ownsRow W.heap.size 2 1 (za (some ⟨W.heap.size,0,none⟩) 0 0) ([]:List Int).length (([]:List Int).map (ze zd)):=qo W #[] 0 (zT _) (by unfold maxLen;omega) (by simp)
theorem z95(b off c:Nat)(L:List Int)(v:Int)(w:zi)(hA:za3 w (some ⟨b,off,none⟩) L)(hl:L.length<=1000):
 Calls zh 73 #[za (some ⟨b,off,none⟩) L.length c,ze zd v] w fun e w'=>∃g cg,e=.returned (za (some ⟨g,0,none⟩) (cutP L v).length cg)/\Below w.heap.size w w'/\w'.ownsRow w.heap.size 2 1 (za (some ⟨g,0,none⟩) (cutP L v).length cg) (cutP L v).length ((cutP L v).map (ze zd)):=by
 have HA:=za4 hA;clear hA;obtain⟨n,HN⟩:=nmd L.length;obtain⟨R,HR⟩:=nmd (cutP L v);rw[HN.X]at hl⊢;rw[HR.X];have OB:Hid (Below w.heap.size w (w.alloc (zg #[] 2))):=zP _;go_enter Tryz.func73,Tryz.ntmps73
 go_wp2_with fail
 go_loopw[5,6] (fun av t wr=>∃k:Nat,k<=n/\t=ze zd k/\wr.ownsRow w.heap.size 2 1 av (cutP (L.take k) v).length ((cutP (L.take k) v).map (ze zd))/\Below w.heap.size w wr/\av≠za none 0 0) (fun _ t _=>n - (intOf t).toNat)
 case atStart=>exact⟨0,xi _,rfl,zT8 w,OB.X,by simp⟩
 case round=>
  clear OB;obtain⟨k,hk,rfl,ho,hb,hn⟩:=hrel;have jA:(cutP (L.take k) v).length<=1000:=xj (yt8 _ _) (by rw[yh];omega);obtain⟨C,HC⟩:=nmd (cutP (L.take k) v);rw[HC.X]at ho jA;obtain⟨g,cg,rfl⟩:=zr1 ho hn;obtain⟨m,HM⟩:=nmd C.length;rw[HM.X]at ho jA⊢;have O1:=za4 ho;have B1:Hid _:=hb;clear ho hb hn;by_cases ah:k<n
  ·have hs:=zK1 L v k (by rw[HN.X];exact ah)
   have cx:wr.cell? ⟨b,off+k,none⟩=some (ze zd (L.getD k 0)):=by
    obtain⟨_,_,e,h⟩:=(HA.below B1.X) k (by rw[HN.X];exact ah);simp at e;obtain⟨rfl,rfl⟩:=e;exact h
   obtain⟨x,HX⟩:=nmd (L.getD k 0);rw[HX.X]at cx hs;rw[HC.X]at hs;by_cases hxv:x=v
   ·rw[z7 hxv]at hs
    have HS:Hid _:=hs;clear hs;go_wp2;go_roundw
    case rel=>exact⟨k+1,by omega,by first|rfl|go_num,by rw[HS.X,HM.X];exact O1.X,B1.X,by simp⟩
    case measure=>simp[intOf];omega
   ·rw[ye hxv]at hs
    have HS:Hid _:=hs;clear hs;have BA:Hid (Below w.heap.size w (wr.alloc (zg #[ze zd x] 2))):=B1.alloc B1.size _
    go_wp2_with(
     at_builtin;refine zc9 _ rfl _ _ rfl w.heap.size _ m C rfl (O1.alloc _) wr.heap.size 0 1 1 [x] rfl rfl (ze2 wr x) (by omega) (by omega) (xj B1.size (by simp)) ?_;intro v' w4 ae hg _ aW;have O4:=za4 ae;have B4:Hid _:=BA.grown hg BA.size (fun k e=>(O1.lt k e).1);have N4:Hid (v'≠za none 0 0):=zn1 aW ⟨_,_,_,rfl⟩;clear ae hg aW)
    go_roundw
    case rel=>exact⟨k+1,by omega,by first|rfl|go_num,by rw[HS.X,xY,HM.X];exact O4.X,B4.X,N4.X⟩
    case measure=>simp[intOf];omega
  ·have cM:k=n:=by omega
   have HE:Hid (C=R):=by
    have:=HC.X;rw[cM,<-HN.X,ym,HR.X]at this;exact this.symm
   have JN:Hid (R.length=m):=by show _=_;rw[<-HE.X];exact HM.X
   rw[HE.X]at O1;go_wp2;go_ret;refine⟨g,cg,by rw[JN.X];rfl,B1.X,by rw[JN.X];exact O1.X⟩
theorem PW.cut{w W w4:zi}{lv ov:Value}{L O C:List Int}{g c:Nat}(h:PW w W w.heap.size lv ov L O)(hb:Below W.heap.size W w4)(ho:w4.ownsRow W.heap.size 2 1 (za (some ⟨g,0,none⟩) C.length c) C.length (C.map (ze zd))):PW w w4 w.heap.size (za (some ⟨g,0,none⟩) C.length c) ov C O:=by
 refine⟨h.b.trans (hb.mono h.b.size),⟨zT _,xj h.hB.2 hb.size⟩,zb5 ho h.hB.2,zb9 h.o hb,?_,⟨g,c,rfl⟩,h.so⟩;intro e;have h1:=(ho.lt g rfl).1;have h2:=(h.o.lt g (by rw[<-e];rfl)).2;omega
theorem PW.lput{w W w4:zi}{B:Nat}{lv ov Ax:Value}{L O:List Int}{x:Int}{o:Obj}(h:PW w W B lv ov L O)(ae:w4.ownsRow B 2 1 Ax (L.length+1) ((L++[x]).map (ze zd)))(hg:(W.alloc o).grownBy w4 lv.ownBlock)(a_:Ax.ownBlock=lv.ownBlock∨Ax.ownBlock=some (W.alloc o).heap.size)(hn:Ax=za none 0 0↔lv=za none 0 0/\1=0):PW w w4 B Ax ov (L++[x]) O:=by
 have hA:Below w.heap.size w (W.alloc o):=h.b.alloc h.b.size _;have ah:∀g,ov.ownBlock=some g->g<W.heap.size:=fun g e=>(h.o.lt g e).2;refine⟨hA.grown hg hA.size (fun k e=>by have:=(h.l.lt k e).1;have:=h.hB.1;omega),⟨h.hB.1,xj h.hB.2 (xj (by simp) hg.size)⟩,?_,(h.o.alloc o).kept hg (.inr h.ne.symm),?_,?_,h.so⟩
 ·rw[xY];exact ae
 ·rcases a_ with e|e
  ·rw[e];exact h.ne
  ·rw[e]
   intro e2;have:=ah _ e2.symm;simp at this;omega
 ·rw[xY]
  obtain⟨g,c,e⟩:=h.sl;exact zr1 ae (zn1 hn ⟨g,_,c,e⟩)
theorem zW4{K i:Nat}{L:List Int}{s:Int}(h:i<K):pkL (K - i) L s=(L.getD (pkAt (zm5 s) L.length) 0::(pkL (K - (i+1)) (zl2 L (pkAt (zm5 s) L.length)) (zm5 s)).1,(pkL (K - (i+1)) (zl2 L (pkAt (zm5 s) L.length)) (zm5 s)).2):=by
 rw[show K - i=(K - (i+1))+1 by omega];rfl
theorem zU1(s:Int){D:Nat}(h:0<D):∃S:Nat,zm5 s=S/\S<=2147483647/\(S:Int) / 65536 % (D:Int)=(pkAt (zm5 s) D:Nat)/\pkAt (zm5 s) D<D:=by
 have h1:=zc8 (zP1 s);refine⟨(zm5 s).toNat,by omega,by omega,?_,yc4 h⟩;rw[<-yF2 h]
 congr 2
 omega
theorem PW.new2{w W:zi}{lv ov:Value}{L:List Int}(ho:W.ownsRow w.heap.size 2 1 lv L.length (L.map (ze zd)))(hb:Below w.heap.size w W)(hn:lv≠za none 0 0)(hx:W.ownsRow w.heap.size 2 1 ov 0 (([]:List Int).map (ze zd)))(hm:ov≠za none 0 0)(aq:lv.ownBlock≠ov.ownBlock):PW w W w.heap.size lv ov L []:=
 ⟨hb,⟨zT _,hb.size⟩,ho,hx,aq,zr1 ho hn,zr1 hx hm⟩
theorem zJ7(s n k:Int)(w:zi):
 Calls zh 91 #[ze zd s,ze zd n,ze zd k] w fun e w'=>∃sl,e=.returned (.tuple #[sl,ze zd (z86 s n k)])/\Below w.heap.size w w'/\w'.ownsRow w.heap.size 2 1 sl (zs4 s n k).length ((zs4 s n k).map (ze zd)):=by
 have OB:Hid (Below w.heap.size w (w.alloc (zg #[] 2))):=zP _;have ON:=za4 (zT8 w);obtain⟨R,HR⟩:=nmd (zs4 s n k);obtain⟨V,HV⟩:=nmd (z86 s n k);rw[HR.X,HV.X];cases hp:zv3 s n k
 ·have HE:Hid (R=[]/\V= -1):=by
   have:=yv3 hp;rw[HR.X,HV.X]at this;exact this
  unfold zv3 at hp;rcases qv (inB n 0 64)with h1|h1<;>rcases qv (inB k 0 n)with h2|h2<;>rcases qv (inB s 0 2147483647)with h3|h3
  ·rw[h1,h2,h3]at hp;simp at hp
  all_goals
   clear hp;go_enter Tryz.func91,Tryz.ntmps91
   go_wp2_with(go_at_call 39;refine(zc0 _ _ _ _).mono ?_;rintro e w' ⟨rfl,dx⟩;subst w';first|rw[h1]|rw[h2]|rw[h3])
   refine xe (v:=.tuple #[za (some ⟨w.heap.size,0,none⟩) 0 0,ze zd (-1)]) (by simp[results,Tryz.results91,go_sem]) rfl ⟨_,by rw[HE.X.2],OB.X,by rw[HE.X.1];exact ON.X⟩
 ·obtain⟨N,K,rfl,rfl,hN,hK,kA,d5⟩:=zI5 hp
  obtain⟨e1,e2⟩:=zv4 hp;have jw:Hid ((pkL K (z32 N) s).1=R/\(pkL K (z32 N) s).2=V):=⟨e1.symm.trans HR.X,e2.symm.trans HV.X⟩;have h1:inB (N:Int) 0 64=true:=ze9 (by omega);have h2:inB (K:Int) 0 N=true:=ze9 (by omega);have h3:inB s 0 2147483647=true:=ze9 (by omega);clear e1 e2 hp HR HV;have O2:Hid (((w.alloc (zg #[] 2)).alloc (zg #[] 2)).ownsRow w.heap.size 2 1 (za (some ⟨w.heap.size+1,0,none⟩) 0 0) 0 (([]:List Int).map (ze zd))):=by
   have:=zb5 (zT8 (w.alloc (zg #[] 2))) OB.X.size;rw[show(w.alloc (zg #[] 2)).heap.size=w.heap.size+1 by simp]at this;exact this
  have X2:Hid (((w.alloc (zg #[] 2)).alloc (zg #[] 2)).ownsRow w.heap.size 2 1 (za (some ⟨w.heap.size,0,none⟩) 0 0) 0 (([]:List Int).map (ze zd))):=ON.X.alloc _;have B2:Hid (Below w.heap.size w ((w.alloc (zg #[] 2)).alloc (zg #[] 2))):=OB.X.alloc OB.X.size _;go_enter Tryz.func91,Tryz.ntmps91
  go_wp2_with(go_at_call 39;refine(zc0 _ _ _ _).mono ?_;rintro e w' ⟨rfl,dx⟩;subst w';first|rw[h1]|rw[h2]|rw[h3])
  clear OB ON h1 h2 h3;go_loopw[9,10] (fun av t wr=>∃i:Nat,i<=N/\t=ze zd i/\PW w wr w.heap.size av (za (some ⟨w.heap.size,0,none⟩) 0 0) (z32 i) []) (fun _ t _=>N - (intOf t).toNat)
  case atStart=>exact⟨0,xi _,rfl,PW.new2 O2.X B2.X (by simp) X2.X (by simp) (by simp[zm])⟩
  case round=>
   clear O2 X2 B2;obtain⟨i,hi,rfl,fI⟩:=hrel;obtain⟨gl,cl,rfl⟩:=fI.sl;rw[zh7]at fI⊢;have P1:=za4 fI;clear fI;by_cases ah:i<N
   ·go_wp2_with(
     at_builtin;refine zc9 _ rfl _ _ rfl w.heap.size _ i (z32 i) rfl (by have:=P1.X.l;rw[zh7]at this;exact this.alloc _) wr.heap.size 0 1 1 [(i:Int)] rfl rfl (ze2 wr i) (by omega) (by omega) (xj P1.X.hB.2 (by simp)) ?_;intro v' w4 ae hg a_ aW;have P4:Hid (PW w w4 w.heap.size v' (za (some ⟨w.heap.size,0,none⟩) 0 0) (z32 (i+1)) []):=by
      show PW _ _ _ _ _ _ _;rw[zX1];exact P1.X.lput (by rw[zh7];exact ae) hg a_ aW
     clear ae hg a_ aW)
    go_roundw
    case rel=>exact⟨i+1,by omega,by first|rfl|go_num,P4.X⟩
    case measure=>simp[intOf];omega
   ·have pK:i=N:=by omega
    rw[pK]at P1⊢;clear hi ah pK
    go_wp2_with fail
    go_loopw[0,8,9,11] (fun sv ov lv t wr=>∃(i:Nat) (s:Int) (L O:List Int),i<=K/\L.length=N - i/\L.Nodup/\t=ze zd i/\sv=ze zd s/\O.length=i/\PW w wr w.heap.size lv ov L O/\O++(pkL (K - i) L s).1=R/\(pkL (K - i) L s).2=V/\0<=s/\s<=2147483647) (fun _ _ _ t _=>K - (intOf t).toNat)
    case atStart=>exact⟨0,s,z32 N,[],xi _,by rw[zh7];rfl,z83 N,rfl,rfl,rfl,P1.X,jw.X.1,jw.X.2,kA,d5⟩
    case round=>
     clear P1;obtain⟨i,s,L,O,hi,hl,cI,rfl,rfl,ho,fI,mJ,iV,kA,d5⟩:=hrel;obtain⟨gl,cl,rfl⟩:=fI.sl;obtain⟨go,co,rfl⟩:=fI.so;have P1:=za4 fI;have HL:=za4 hl;have HO:=za4 ho;have jO:Hid L.Nodup:=cI;have tn:Hid (O++(pkL (K - i) L s).1=R/\(pkL (K - i) L s).2=V):=⟨mJ,iV⟩;clear fI hl ho cI mJ iV;rw[HO.X]at P1⊢;by_cases ah:i<K
     ·have hD:0<L.length:=by rw[HL.X];omega
      have Gs:L.length<=64:=by rw[HL.X];omega
      obtain⟨S,hS,Me,h_,eP⟩:=zU1 s hD;have bu:=zW4 (L:=L) (s:=s) ah;obtain⟨D,HD⟩:=nmd L.length;rw[HD.X]at hD Gs h_ eP bu P1⊢;obtain⟨p,HP⟩:=nmd (pkAt (zm5 s) D);rw[HP.X]at h_ eP bu;have HS:=za4 hS;rw[HS.X]at bu;have kh:Hid ((O++[L.getD p 0])++(pkL (K - (i+1)) (zl2 L p) S).1=R/\(pkL (K - (i+1)) (zl2 L p) S).2=V):=by
       have h:=tn.X;rw[bu]at h;refine⟨?_,h.2⟩;rw[<-h.1,yi];rfl
      have cx:wr.cell? ⟨gl,p,none⟩=some (ze zd (L.getD p 0)):=by
       obtain⟨_,_,e,h⟩:=zy7 P1.X.l HD.X p (by rw[HD.X];exact eP);simp at e;obtain⟨rfl,rfl⟩:=e;rw[yb]at h;exact h
      have Bz:Hid (cutP L (L.getD p 0)=zl2 L p):=zR5 jO.X (by rw[HD.X];exact eP);have cu:Hid ((zl2 L p).length=D - 1):=by show _=_;rw[zl0 (by rw[HD.X];exact eP),HD.X]
      have iy:Hid (zl2 L p).Nodup:=zL6 jO.X p;obtain⟨x,HX⟩:=nmd (L.getD p 0);rw[HX.X]at cx kh Bz;have MT:(p:Int)<(D:Int):=by omega
      clear bu hS kA d5 tn;have pP:i<=64:=by omega
      go_wp2_with(first
       |(go_at_call 130;refine(zX4 _ _).mono ?_;rintro e w' ⟨rfl,dx⟩;subst w';rw[HS.X])
       |(at_builtin
         refine zc9 _ rfl (.tmp 51) (.tmp 56) rfl w.heap.size _ i O rfl (by have:=P1.X.o;rw[HO.X]at this;exact this.alloc _) wr.heap.size 0 1 1 [x] rfl rfl (ze2 wr x) (by omega) (by omega) (xj P1.X.hB.2 (by simp)) ?_;intro dQ w4 ae hg a_ aW;have P4:Hid (PW w w4 w.heap.size (za (some ⟨gl,0,none⟩) D cl) dQ L (O++[x])):=P1.X.put (by rw[HO.X];exact ae) hg a_ aW;have I4:Hid (za3 w4 (some ⟨gl,0,none⟩) L):=zy7 P4.X.l HD.X;have c4:w4.cell? ⟨gl,p,none⟩=some (ze zd x):=by
          obtain⟨_,_,e,h⟩:=I4.X p (by rw[HD.X];exact eP);simp at e;obtain⟨rfl,rfl⟩:=e;rw[yb]at h;rw[h,HX.X]
         clear ae hg a_ aW)
       |(go_at_call 73
         have hcut:=z95 gl 0 cl L x w4 I4.X (by rw[HD.X];omega);rw[HD.X,Bz.X]at hcut;refine hcut.mono ?_;rintro e w5 ⟨g5,c5,rfl,fs,ec⟩;have P5:=za4 (P4.X.cut fs ec);clear hcut fs ec))
      go_roundw
      case rel=>exact⟨i+1,S,zl2 L p,O++[x],by omega,by rw[cu.X,<-HD.X,HL.X];omega,iy.X,by first|rfl|go_num,rfl,by rw[xY,HO.X];rfl,P5.X,kh.X.1,kh.X.2,by omega,by omega⟩
      case measure=>simp[intOf];omega
     ·have Eo:K - i=0:=by omega
      have HE:Hid (O=R/\s=V):=by
       have h:=tn.X;rw[Eo]at h;refine⟨?_,h.2⟩;rw[<-h.1];exact(qe _).symm
      have Gy:Hid (wr.ownsRow w.heap.size 2 1 (za (some ⟨go,0,none⟩) i co) R.length (R.map (ze zd))):=by
       have:=P1.X.o;rw[HE.X.1]at this;exact this
      have HB:Hid (Below w.heap.size w wr):=P1.X.b;obtain⟨D,HD⟩:=nmd L.length;rw[HD.X,HE.X.2];go_wp2;refine xe (v:=.tuple #[za (some ⟨go,0,none⟩) i co,ze zd V]) (by simp[results,Tryz.results91,go_sem]) rfl ⟨_,rfl,HB.X,Gy.X⟩
theorem yx7(w:zi){ap:Array Oper}{rest:List Oper}{o:Oper}{a:Act}{Q:Exit->Act->zi->Prop}
 (hg:o.guard=none) (l c:Operand) (dw:o.op=Op.makeSlice 24 l c) (base:Nat)
 (kl kc:IntKind) (C:Int) (n:Nat) (hl:a.eval l=.int kl 0) (hc:a.eval c=.int kc C) (hC:C=(n:Int)) (b2:n<=1048576) (b4:base<=w.heap.size)
 (hK:∀w',w'.ownsRow base 2 1 (za (some ⟨w.heap.size,0,none⟩) 0 n) 0 []->w.grownBy w' none->wpList zh ap Q rest (a.put o.dst (za (some ⟨w.heap.size,0,none⟩) 0 n)) w'):
 wpList zh ap Q (o::rest) a w:=by
 obtain⟨i0,hi,bO,ba,bS⟩:=qx Tryz.info2;exact wpList_make_own w hg l c _ dw base _ i0 _ 1 qb hi bO ba kl kc C n hl hc hC (by rw[bS];omega) (by unfold maxLen;omega) b4 hK
