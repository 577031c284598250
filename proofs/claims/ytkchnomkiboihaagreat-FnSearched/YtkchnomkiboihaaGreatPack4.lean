import Derived.Test.YtkchnomkiboihaaGreatPack1
import Derived.Deep.RegionLaw
set_option linter.unusedSimpArgs false
set_option maxHeartbeats 2000000
namespace Go.Proofs.YtkchnomkiboihaaGreat
open RowKit renaming Below→Za,Hid→Zb
open Go renaming Addr→Zd
theorem xY:type_of% @List.length_append:=@List.length_append
theorem xZ:type_of% @Go.World.ownsRow_nil:=@Go.World.ownsRow_nil
theorem x7:type_of% @Option.some.injEq:=@Option.some.injEq
theorem x8:type_of% @List.map_append:=@List.map_append
theorem qb:type_of% @Go.Proofs.Tryz.underlying24:=@Go.Proofs.Tryz.underlying24
theorem qe:type_of% @List.append_nil:=@List.append_nil
theorem qg:type_of% @Go.Addr.mk.injEq:=@Go.Addr.mk.injEq
theorem qh:type_of% @decide_eq_true_eq:=@decide_eq_true_eq
theorem qi:type_of% @List.mem_filter:=@List.mem_filter
theorem qj:type_of% @List.length_drop:=@List.length_drop
theorem qm:type_of% @Go.ownsRow_setCell_other:=@Go.ownsRow_setCell_other
theorem qo:type_of% @Go.World.ownsRow_made:=@Go.World.ownsRow_made
theorem qp:type_of% @Nat.lt_or_ge:=@Nat.lt_or_ge
theorem qr:type_of% @List.getElem?_drop:=@List.getElem?_drop
theorem qt:type_of% @and_true:=@and_true
theorem qu:type_of% @Go.RowKit.ownsRow_setCell_below:=@Go.RowKit.ownsRow_setCell_below
theorem qv:type_of% @Bool.eq_false_or_eq_true:=@Bool.eq_false_or_eq_true
theorem qw:type_of% @Prod.mk.injEq:=@Prod.mk.injEq
theorem qx:type_of% @Go.info_parts:=@Go.info_parts
theorem qy:type_of% @Go.run_append_own:=@Go.run_append_own
open Value renaming slice→za,int→ze,oneCell'→zq
open IntKind renaming i64→zd
open Obj renaming cells→zg
open Proofs.Tryz renaming prog→zh
open Go renaming World→zi
open World renaming setCell→zj
open Region renaming wanted→zn
open Builtin renaming append_→zu,append→zx
open Callee renaming builtin→zw
open List renaming getD→zy
open Oper renaming wp→zG
open Op renaming call→zI
open Result renaming andThen→zK
open Addr renaming add→zN
open Go.RowKit
open Q
theorem za6{w w':zi}{row:Option Nat}{k:Nat}{o:Obj}(hg:w.grownBy w' row)(h:w.heap[k]? =some o)(aq:some k≠row):w'.heap[k]? =some o:=(hg.block k (za2 h) aq).trans h
theorem zd4{w:zi}{base size g n ac:Nat}{e:TypeId}{zs:List Int}(h:w.ownsRow base e size (za (some ⟨g,0,none⟩) n ac) n (zs.map (ze zd))):za3 w (some ⟨g,0,none⟩) zs:=by
 intro j hj;refine⟨g,0,rfl,?_⟩;have:=h.cells (g:=g) rfl j (ze zd (zs.getD j 0)) (by simp[zy,hj]);have dI:(⟨g,0,none⟩:Zd).add j=⟨g,0+j,none⟩:=by unfold zN;split<;>simp_all
 rw[dI]at this;exact this
theorem zb9{w w':zi}{base size n:Nat}{e:TypeId}{v:Value}{xs:List Value}(h:w.ownsRow base e size v n xs)(hb:Za w.heap.size w w'):w'.ownsRow base e size v n xs:=by
 obtain⟨h1,h2|⟨g,ac,az,h2,h3,h4,h5⟩⟩:=h
 ·exact⟨h1,.inl h2⟩
 ·exact⟨h1,.inr ⟨g,ac,az,h2,h3,za0 hb (za2 h4) h4,h5⟩⟩
theorem zo1{w:zi}{base k:Nat}{v:Value}{e:TypeId}{size:Nat}{xs:List Value}(h:w.ownsRow base e size v (k+1) xs):∃g c,v=za (some ⟨g,0,none⟩) (k+1) c/\base<=g:=by
 obtain⟨_,⟨_,h2⟩|⟨g,ac,az,h2,h3,_⟩⟩:=h
 ·omega
 ·exact⟨g,ac,h2,h3⟩
theorem zm3{w:zi}{base k:Nat}{v:Value}{e:TypeId}{size:Nat}{xs:List Value}(h:w.ownsRow base e size v k xs):v=za none 0 0∨∃g c,v=za (some ⟨g,0,none⟩) k c:=by
 obtain⟨_,⟨h1,_⟩|⟨g,ac,az,h2,_⟩⟩:=h
 ·exact .inl h1
 ·exact .inr ⟨g,ac,h2⟩
theorem zb5{w:zi}{base b0 k:Nat}{v:Value}{e:TypeId}{size:Nat}{xs:List Value}(h:w.ownsRow base e size v k xs)(hb:b0<=base):w.ownsRow b0 e size v k xs:=by
 obtain⟨h0,h1|⟨g,ac,az,h2,h3,h4⟩⟩:=h
 ·exact⟨h0,.inl h1⟩
 ·exact⟨h0,.inr ⟨g,ac,az,h2,xj hb h3,h4⟩⟩
theorem zg1{w:zi}{base k b i:Nat}{v u:Value}{e:TypeId}{size:Nat}{xs:List Value}(h:w.ownsRow base e size v k xs)(hb:b<base):(w.setCell ⟨b,i,none⟩ u).ownsRow base e size v k xs:=qu h hb u
theorem zr8{w:zi}{base n:Nat}{e:TypeId}{sl:Value}{xs:List Int}(h:w.ownsRow base e 1 sl n (xs.map (ze zd))):∃a c,sl=za a xs.length c/\xs.length=n/\za3 w a xs:=by
 obtain⟨h1,⟨rfl,h2⟩|⟨g,ac,az,rfl,h3,h4,h5⟩⟩:=id h
 ·subst h2
  have:xs=[]:=by simpa using h1
  subst this;exact⟨none,0,rfl,rfl,fun j hj=>by simp at hj⟩
 ·have hl:xs.length=n:=by simpa using h1
  exact⟨_,_,by rw[hl],hl,zd4 h⟩
theorem zq5(W:zi)(v:Value)(T:TypeId)(g:Nat)(hg:W.heap.size=g):(W.alloc (zg #[v] T)).cell? ⟨g,0,none⟩=some v:=by
 subst hg;rw[zU _ _ 0 _ _ _ (zS W (zg #[v] T))];simp
theorem zT6{w:zi}{ad:Zd}{x0:Value}(hc:w.cell? ad=some x0):∀j u,[x0][j]? =some u->w.cell? (ad.add j)=some u:=by
 intro j u hu;have hj:j=0:=by
  rcases j with _|j
  ·rfl
  ·simp at hu
 subst hj;have:ad.add 0=ad:=by unfold zN;split<;>simp_all
 rw[this,hc];simpa using hu
theorem yq3(w:zi){ap:Array Oper}{rest:List Oper}{o:Oper}{a:Act}{Q:Exit->Act->zi->Prop}
 (hg:o.guard=none) (s x:Operand) (du:o.op=zI {callee:=zw zx,args:=#[s,x],argTypes:=#[24,24]})
 (base:Nat) (v:Value) (k:Nat) (xs:List Value) (hs:a.eval s=v) (ae:w.ownsRow base 2 1 v k xs) (ad:Zd) (c:Nat) (x0:Value) (hx:a.eval x=za (some ad) 1 c)
 (hc:w.cell? ad=some x0) (jX:x0.oneCell'=true) (b1:k<=1000) (hb:base<=w.heap.size)
 (hK:∀v' w',w'.ownsRow base 2 1 v' (k+1) (xs++[x0])->w.grownBy w' v.ownBlock->wpList zh ap Q rest (a.put o.dst v') w'):
 wpList zh ap Q (o::rest) a w:=by
 obtain⟨i0,hi,bR,ba,bS⟩:=qx Tryz.info2;exact wpList_append_own w hg s x _ du base _ i0 _ 1 8 qb hi bR ba bS rfl (by decide) v k xs hs ae ad 1 c [x0] hx rfl (zT6 hc) (by simpa using jX) (by unfold maxLen;omega) (by omega) hb (fun v' w' h1 h2 _=>hK v' w' h1 h2)
theorem zG8{ap:Array Oper}{o:Oper}{a:Act}{w:zi}{K:Act->zi->Prop}{Q:Exit->Act->zi->Prop}{E:Prop}
 (hg:o.guard=none) (s x:Operand) (du:o.op=zI {callee:=zw zx,args:=#[s,x],argTypes:=#[24,24]})
 (base:Nat) (v:Value) (k:Nat) (xs:List Value) (hs:a.eval s=v) (ae:w.ownsRow base 2 1 v k xs) (ad:Zd) (c:Nat) (x0:Value) (hx:a.eval x=za (some ad) 1 c)
 (hc:w.cell? ad=some x0) (jX:x0.oneCell'=true) (b1:k<=1000) (hb:base<=w.heap.size)
 (hK:∀v' w',w'.ownsRow base 2 1 v' (k+1) (xs++[x0])->w.grownBy w' v.ownBlock->K (a.put o.dst v') w'):
 if zn o (yielded ap a.tmps)=true then zG zh o a w K Q else E:=by
 have hw:zn o (yielded ap a.tmps)=true:=by simp[zn,hg]
 rw[z7 hw];obtain⟨i0,hi,bR,ba,bS⟩:=qx Tryz.info2;obtain⟨v',w',aQ,r1,r2,_⟩:=qy (P:=zh) w base 24 o.type _ i0 _ 1 8 qb hi bR ba bS rfl (by decide) v k xs ae ad 1 c [x0] rfl (zT6 hc) (by simpa using jX) (by unfold maxLen;omega) (by omega) hb;unfold zG;simp[execOp,du,resolve,invoke,builtin,hs,hx,aQ,zK];exact hK _ _ r1 r2
theorem zA9{P:Program}(w:zi)(base:Nat)(t ty e:TypeId)(i:TypeInfo)(z:Value)(size bytes:Nat)(ht:P.underlying t=some (.slice e))(hi:P.info? e=some i)(hz:i.zero=some z)
 (mF:i.size=size) (Bk:i.bytes=bytes) (v:Value) (n:Nat) (xs:List Value) (ae:w.ownsRow base e size v n xs)
 (a:Zd) (m c:Nat) (bP:List Value) (hl:bP.length=m*size) (bN:∀j u,bP[j]? =some u->w.cell? (a.add j)=some u) (h1:∀u∈bP,u.oneCell'=true)
 (v7:n+m<=maxLen) (cH:(n+m)*bytes<=140737488355328) {v':Value} {w':zi} (aQ:(zu #[t,t] ty #[v,za (some a) m c]).run P w=.ok v' w'):v'.ownBlock=v.ownBlock∨v'.ownBlock=some w.heap.size:=by
 subst mF;subst Bk;have sL:n+m<=9223372036854775807:=by simp only[maxLen]at v7;omega
 rcases ae.2 with⟨rfl,rfl⟩|⟨g,ac,az,rfl,dW,hg,jE,iF,aJ,htake⟩
 ·by_cases hm:m=0
  ·subst hm
   have hn:bP=[]:=xE (by simpa using hl);subst hn;simp[zu,xI ht,sizeOf,typeInfo,hi,Builtin.lenOf,Builtin.firstCells,loadCells,loadCellsFrom]at aQ;rw[<-aQ.1];exact .inl rfl
  ·have hr:=run_append_nil (P:=P) w t ty e i z ht hi hz a m c bP hl bN (by omega) (by omega) (by have hb:=cH;simp only[yb]at hb;omega)
   rw[hr]at aQ
   injection aQ with e1 e2
   rw[<-e1];exact .inr rfl
 ·by_cases bE:n+m<=ac
  ·have t_:n*i.size+bP.length<=az.size:=by rw[hl,aJ,<-yT];exact yK _ bE
   have hr:=run_append_room (P:=P) w t ty e i ht hi g n ac az hg a m c bP hl bN h1 bE t_;rw[hr]at aQ
   injection aQ with e1 e2
   rw[<-e1];exact .inl rfl
  ·have m3:=ae.cells (g:=g) rfl
   have hr:=run_append_grow (P:=P) w t ty e i z ht hi hz ⟨g,0,none⟩ n ac xs ae.1 m3 a m c bP hl bN (by omega) (by omega) (growslice_fits (by omega) cH);rw[hr]at aQ
   injection aQ with e1 e2
   rw[<-e1];exact .inr rfl
theorem zx6{P:Program}{o:Oper}{a:Act}{w w':zi}{v:Value}(s x:Operand)(t:TypeId)(vs vx:Value)(ho:o.op=.call {callee:=.builtin .append,args:=#[s,x],argTypes:=#[t,t]})
 (hs:a.eval s=vs) (hx:a.eval x=vx) (hr:(zu #[t,t] o.type #[vs,vx]).run P w=.ok v w'):(execOp a.eval o).run P w=.ok (.value v) w':=by
 unfold execOp;simp only[ho,resolve,invoke,builtin,Sem.run_bind,Sem.run_pure,Result.andThen_ok,List.map_toArray,xH,xK,hs,hx,hr]
theorem zc9(w:zi){ap:Array Oper}{rest:List Oper}{o:Oper}{a:Act}{Q:Exit->Act->zi->Prop}
 (hg:o.guard=none) (s x:Operand) (du:o.op=zI {callee:=zw zx,args:=#[s,x],argTypes:=#[24,24]})
 (base:Nat) (v:Value) (k:Nat) (xs:List Int) (hs:a.eval s=v) (ae:w.ownsRow base 2 1 v k (xs.map (ze zd))) (b off m c:Nat) (ys:List Int) (hx:a.eval x=za (some ⟨b,off,none⟩) m c)
 (hy:ys.length=m) (hc:za3 w (some ⟨b,off,none⟩) ys) (b1:k<=1000) (b2:m<=1000) (hb:base<=w.heap.size)
 (hK:∀v' w',w'.ownsRow base 2 1 v' (k+m) ((xs++ys).map (ze zd))->w.grownBy w' v.ownBlock->(v'.ownBlock=v.ownBlock∨v'.ownBlock=some w.heap.size)->(v'=za none 0 0↔v=za none 0 0/\m=0)->wpList zh ap Q rest (a.put o.dst v') w'):
 wpList zh ap Q (o::rest) a w:=by
 obtain⟨i0,hi,bR,ba,bS⟩:=qx Tryz.info2;have bN:∀j u,(ys.map (ze zd))[j]? =some u->w.cell? ((⟨b,off,none⟩:Zd).add j)=some u:=by
  intro j u hu;have hj:j<ys.length:=by
   rcases qp j ys.length with h'|h'
   ·exact h'
   ·simp[yg (by simpa using h':(ys.map (ze zd)).length<=j)]at hu
  obtain⟨b',aR,e,fC⟩:=hc j hj;simp at e;obtain⟨rfl,rfl⟩:=e;have dI:(⟨b,off,none⟩:Zd).add j=⟨b,off+j,none⟩:=by unfold zN;split<;>simp_all
  rw[dI,fC,<-hu];simp[zy,hj]
 have jX:∀u∈ys.map (ze zd),u.oneCell'=true:=by simp[zq]
 obtain⟨v',w',aQ,r1,r2,r3⟩:=qy (P:=zh) w base 24 o.type _ i0 _ 1 8 qb hi bR ba bS rfl (by decide) v k (xs.map (ze zd)) ae ⟨b,off,none⟩ m c (ys.map (ze zd)) (by simp[hy]) bN jX (by unfold maxLen;omega) (by omega) hb;have r4:=zA9 (P:=zh) w base 24 o.type _ i0 _ 1 8 qb hi bR ba bS v k (xs.map (ze zd)) ae ⟨b,off,none⟩ m c (ys.map (ze zd)) (by simp[hy]) bN jX (by unfold maxLen;omega) (by omega) aQ;exact zz4 v' hg (zx6 s x _ v _ du hs hx aQ) (hK v' w' (by rw[x8];exact r1) r2 r4 r3)
theorem zH0(w:zi){ap:Array Oper}{rest:List Oper}{o:Oper}{a:Act}{Q:Exit->Act->zi->Prop}
 (hg:o.guard=none) (s x:Operand) (du:o.op=zI {callee:=zw zx,args:=#[s,x],argTypes:=#[24,24]})
 (base:Nat) (v:Value) (k:Nat) (xs:List Int) (hs:a.eval s=v) (ae:w.ownsRow base 2 1 v k (xs.map (ze zd))) (ad:Option Zd) (m c:Nat) (ys:List Int) (hx:a.eval x=za ad m c)
 (l7:∃b off,ad=some ⟨b,off,none⟩) (hy:ys.length=m) (hc:za3 w ad ys) (b1:k<=1000) (b2:m<=1000) (hb:base<=w.heap.size)
 (hK:∀v' w',w'.ownsRow base 2 1 v' (k+m) ((xs++ys).map (ze zd))->w.grownBy w' v.ownBlock->(v'.ownBlock=v.ownBlock∨v'.ownBlock=some w.heap.size)->(v'=za none 0 0↔v=za none 0 0/\m=0)->wpList zh ap Q rest (a.put o.dst v') w'):
 wpList zh ap Q (o::rest) a w:=by
 obtain⟨b,off,rfl⟩:=l7;exact zc9 w hg s x du base v k xs hs ae b off m c ys hx hy hc b1 b2 hb hK
theorem yq4{W:zi}{a:Option Zd}{ids:List Int}(h:za3 W a ids)(i:Nat):za3 W a (ids.take i):=by
 intro j hj;have r_:j<ids.length/\j<i:=by rw[yh]at hj;omega
 obtain⟨b,off,e,hc⟩:=h j r_.1;refine⟨b,off,e,?_⟩;rw[hc,zQ,zQ,yL,z7 r_.2]
theorem zN2{W:zi}{b off:Nat}{ids:List Int}(h:za3 W (some ⟨b,off,none⟩) ids)(i:Nat):za3 W (some ⟨b,off+i,none⟩) (ids.drop i):=by
 intro j hj;have r_:i+j<ids.length:=by rw[qj]at hj;omega
 obtain⟨b',aR,e,hc⟩:=h (i+j) r_;simp at e;obtain⟨rfl,rfl⟩:=e;refine⟨b,off+i,rfl,?_⟩;rw[yz,hc,zQ,zQ,qr]
theorem yz0{W:zi}{b off:Nat}{ids:List Int}(h:za3 W (some ⟨b,off,none⟩) ids)(i c2:Nat)(hc:ids.length<=c2):za3 W (if c2=i then some ⟨b,off,none⟩else some ⟨b,off+i,none⟩) (ids.drop i):=by
 by_cases e:c2=i
 ·have:ids.drop i=[]:=List.drop_eq_nil_of_le (by omega)
  rw[this];intro j hj;simp at hj
 ·rw[ye e];exact zN2 h i
theorem yw2(b off i c2:Nat):∃b' aR,(if c2=i then some (⟨b,off,none⟩:Zd)else some ⟨b,off+i,none⟩)=some ⟨b',aR,none⟩:=by
 by_cases e:c2=i
 ·exact⟨b,off,z7 e⟩
 ·exact⟨b,off+i,ye e⟩
theorem zr0{w:zi}{base k:Nat}{v:Value}{e:TypeId}{size:Nat}{xs:List Value}(h:w.ownsRow base e size v k xs)(aq:v≠za none 0 0):∃g c,v=za (some ⟨g,0,none⟩) k c:=by
 rcases zm3 h with e|e
 ·exact absurd e aq
 ·exact e
theorem y07{w:zi}{base k g c:Nat}{e:TypeId}{size:Nat}{xs:List Value}(h:w.ownsRow base e size (za (some ⟨g,0,none⟩) k c) k xs):k<=c:=by
 obtain⟨_,⟨h1,_⟩|⟨g',ac,az,h2,_,_,h3,_⟩⟩:=h
 ·cases h1
 ·injection h2 with e1 e2 e3
  omega
theorem zn1{v v':Value}{m:Nat}(h:v'=za none 0 0↔v=za none 0 0/\m=0)(hv:∃g n c,v=za (some ⟨g,0,none⟩) n c):v'≠za none 0 0:=by
 intro e;obtain⟨g,n,c,rfl⟩:=hv;have:=(h.1 e).1;simp at this
theorem ze2(W:zi)(x:Int):za3 (W.alloc (zg #[ze zd x] 2)) (some ⟨W.heap.size,0,none⟩) [x]:=by
 intro j hj;have:j=0:=by simpa using hj
 subst this;exact⟨_,_,rfl,zq5 W _ _ _ rfl⟩
theorem zz2{w:zi}{base g n ac:Nat}{e:TypeId}{zs:List Int}(h:w.ownsRow base e 1 (za (some ⟨g,0,none⟩) n ac) zs.length (zs.map (ze zd)))(hn:zs.length=n):za3 w (some ⟨g,0,none⟩) zs:=by
 rw[hn]at h;exact zd4 h
theorem z57{g n c k:Nat}(e:(za (some ⟨g,0,none⟩) n c).ownBlock=some k):g<=k:=by
 have:g=k:=by injection e
 omega
theorem zq4{E:TypeId}{z:Value}{size bytes:Nat}(h:(Tryz.prog.info? E).map (fun i=>(i.zero,i.size,i.bytes))=some (some z,size,bytes)):∃i0,Tryz.prog.info? E=some i0/\i0.zero=some z/\i0.size=size/\i0.bytes=bytes:=by
 cases hq:Tryz.prog.info? E with
 |none=>rw[hq]at h;simp at h
 |some i0=>
  rw[hq]at h;simp only[yG,x7,qw]at h;exact⟨i0,rfl,h.1,h.2.1,h.2.2⟩
theorem add_plain(b off j:Nat):(⟨b,off,none⟩:Zd).add j=⟨b,off+j,none⟩:=by unfold zN;split<;>simp_all
theorem zk9{T E:TypeId}{z:Value}{size bytes:Nat}(ht:Tryz.prog.underlying T=some (.slice E))(d9:(Tryz.prog.info? E).map (fun i=>(i.zero,i.size,i.bytes))=some (some z,size,bytes))(Hz:z.cells.size=size)(bW:0<size)
 (w:zi) {ap:Array Oper} {rest:List Oper} {o:Oper} {a:Act} {Q:Exit->Act->zi->Prop}
 (hg:o.guard=none) (s x:Operand) (du:o.op=zI {callee:=zw zx,args:=#[s,x],argTypes:=#[T,T]})
 (base:Nat) (v:Value) (k:Nat) (xs:List Value) (hs:a.eval s=v) (ae:w.ownsRow base E size v k xs) (b off m c:Nat) (ys:List Value) (hx:a.eval x=za (some ⟨b,off,none⟩) m c)
 (hy:ys.length=m*size) (hc:∀j u,ys[j]? =some u->w.cell? ⟨b,off+j,none⟩=some u) (h1:∀u∈ys,u.oneCell'=true) (v7:k+m<=70368744177663) (cH:(k+m)*bytes<=140737488355328) (hb:base<=w.heap.size)
 (hK:∀v' w',w'.ownsRow base E size v' (k+m) (xs++ys)->w.grownBy w' v.ownBlock->(v'.ownBlock=v.ownBlock∨v'.ownBlock=some w.heap.size)->(v'=za none 0 0↔v=za none 0 0/\m=0)->wpList zh ap Q rest (a.put o.dst v') w'):
 wpList zh ap Q (o::rest) a w:=by
 obtain⟨i0,hi,bR,ba,bS⟩:=zq4 d9;have bN:∀j u,ys[j]? =some u->w.cell? ((⟨b,off,none⟩:Zd).add j)=some u:=fun j u hu=>by rw[add_plain];exact hc j u hu
 obtain⟨v',w',aQ,r1,r2,r3⟩:=qy (P:=zh) w base T o.type _ i0 _ size bytes ht hi bR ba bS Hz bW v k xs ae ⟨b,off,none⟩ m c ys hy bN h1 (by unfold maxLen;omega) cH hb;have r4:=zM2 (P:=zh) w base T o.type _ i0 _ size bytes ht hi bR ba bS v k xs ae ⟨b,off,none⟩ m c ys hy bN h1 (by unfold maxLen;omega) cH aQ;exact zz4 v' hg (y77 s x _ v _ du hs hx aQ) (hK v' w' r1 r2 r4 r3)
theorem zd3{T E:TypeId}{z:Value}{size bytes:Nat}(ht:Tryz.prog.underlying T=some (.slice E))(d9:(Tryz.prog.info? E).map (fun i=>(i.zero,i.size,i.bytes))=some (some z,size,bytes))(Hz:z.cells.size=size)(bW:0<size)
 {ap:Array Oper} {o:Oper} {a:Act} {w:zi} {K:Act->zi->Prop} {Q:Exit->Act->zi->Prop} {Qf:Prop}
 (hg:o.guard=none) (s x:Operand) (du:o.op=zI {callee:=zw zx,args:=#[s,x],argTypes:=#[T,T]})
 (base:Nat) (v:Value) (k:Nat) (xs:List Value) (hs:a.eval s=v) (ae:w.ownsRow base E size v k xs) (b off m c:Nat) (ys:List Value) (hx:a.eval x=za (some ⟨b,off,none⟩) m c)
 (hy:ys.length=m*size) (hc:∀j u,ys[j]? =some u->w.cell? ⟨b,off+j,none⟩=some u) (h1:∀u∈ys,u.oneCell'=true) (v7:k+m<=70368744177663) (cH:(k+m)*bytes<=140737488355328) (hb:base<=w.heap.size)
 (hK:∀v' w',w'.ownsRow base E size v' (k+m) (xs++ys)->w.grownBy w' v.ownBlock->(v'.ownBlock=v.ownBlock∨v'.ownBlock=some w.heap.size)->(v'=za none 0 0↔v=za none 0 0/\m=0)->K (a.put o.dst v') w'):
 if zn o (yielded ap a.tmps)=true then zG zh o a w K Q else Qf:=by
 have hw:zn o (yielded ap a.tmps)=true:=by simp[zn,hg]
 rw[z7 hw];obtain⟨i0,hi,bR,ba,bS⟩:=zq4 d9;have bN:∀j u,ys[j]? =some u->w.cell? ((⟨b,off,none⟩:Zd).add j)=some u:=fun j u hu=>by rw[add_plain];exact hc j u hu
 obtain⟨v',w',aQ,r1,r2,r3⟩:=qy (P:=zh) w base T o.type _ i0 _ size bytes ht hi bR ba bS Hz bW v k xs ae ⟨b,off,none⟩ m c ys hy bN h1 (by unfold maxLen;omega) cH hb;have r4:=zM2 (P:=zh) w base T o.type _ i0 _ size bytes ht hi bR ba bS v k xs ae ⟨b,off,none⟩ m c ys hy bN h1 (by unfold maxLen;omega) cH aQ;unfold zG;simp[execOp,du,resolve,invoke,builtin,hs,hx,aQ,zK];exact hK _ _ r1 r2 r4 r3
theorem yl0:(Tryz.prog.info? 103).map (fun i=>(i.zero,i.size,i.bytes))=some (some (.agg #[ze zd 0,ze zd 0,ze zd 0,ze zd 0,ze zd 0,ze zd 0]),6,48):=by kernel_rfl
theorem yc2(w:zi){ap:Array Oper}{rest:List Oper}{o:Oper}{a:Act}{Q:Exit->Act->zi->Prop}
 (hg:o.guard=none) (l c:Operand) (du:o.op=Op.makeSlice 27 l c) (base:Nat)
 (kl kc:IntKind) (C:Int) (n:Nat) (hl:a.eval l=.int kl 0) (hc:a.eval c=.int kc C) (hC:C=(n:Int)) (b2:n<=1048576) (b4:base<=w.heap.size)
 (hK:∀w',w'.ownsRow base 103 6 (za (some ⟨w.heap.size,0,none⟩) 0 n) 0 []->w.grownBy w' none->wpList zh ap Q rest (a.put o.dst (za (some ⟨w.heap.size,0,none⟩) 0 n)) w'):
 wpList zh ap Q (o::rest) a w:=by
 obtain⟨i0,hi,bR,ba,bS⟩:=qx yl0;exact wpList_make_own w hg l c _ du base _ i0 _ 6 Tryz.underlying27 hi bR ba kl kc C n hl hc hC (by rw[bS];omega) (by unfold maxLen;omega) b4 hK
theorem zO9(w:zi){ap:Array Oper}{rest:List Oper}{o:Oper}{a:Act}{Q:Exit->Act->zi->Prop}
 (hg:o.guard=none) (s x:Operand) (du:o.op=zI {callee:=zw zx,args:=#[s,x],argTypes:=#[27,27]})
 (base:Nat) (g k ac:Nat) (xs:List Value) (hs:a.eval s=za (some ⟨g,0,none⟩) k ac) (ae:w.ownsRow base 103 6 (za (some ⟨g,0,none⟩) k ac) k xs) (ad:Zd) (m c:Nat) (bP:List Value) (hx:a.eval x=za (some ad) m c) (hn:bP.length=m*6)
 (hc:∀j u,bP[j]? =some u->w.cell? (ad.add j)=some u) (jX:∀u∈bP,u.oneCell'=true) (b1:k+m<=ac)
 (hK:∀w',w'.ownsRow base 103 6 (za (some ⟨g,0,none⟩) (k+m) ac) (k+m) (xs++bP)->w.grownBy w' (some g)->wpList zh ap Q rest (a.put o.dst (za (some ⟨g,0,none⟩) (k+m) ac)) w'):
 wpList zh ap Q (o::rest) a w:=by
 obtain⟨i0,hi,bR,ba,bS⟩:=qx yl0;exact wpList_append_fits w hg s x _ du base _ i0 6 Tryz.underlying27 hi ba g k ac xs hs ae ad m c bP hx hn hc jX b1 hK
theorem y34(os:List Int)(ko:Nat)(ids:List Int){k:Nat}{id:Int}(hk:k<ids.length)(cz:ids.getD k 0=id){o0 o1 o2 o3 o4 o5:Int}(h0:zd1 os ko id 0=o0)(h1:zd1 os ko id 1=o1)(h2:zd1 os ko id 2=o2)(h3:zd1 os ko id 3=o3)(h4:zd1 os ko id 4=o4)(h5:zd1 os ko id 5=o5):
 (((zd6 os ko ids).take (k*6)).map (ze zd))++[ze zd o0,ze zd o1,ze zd o2,ze zd o3,ze zd o4,ze zd o5]=((zd6 os ko ids).take ((k+1)*6)).map (ze zd):=by
 have hl:=zj2 os ko ids;have e:(k+1)*6=k*6+1+1+1+1+1+1:=by omega
 have g:∀f,f<6->(zd6 os ko ids).getD (k*6+f) 0=zd1 os ko id f:=fun f hf=>cz▸zj8 os ko ids hk hf;rw[e,zf4 _ _ (by omega),zf4 _ _ (by omega),zf4 _ _ (by omega),zf4 _ _ (by omega),zf4 _ _ (by omega),zf4 _ _ (by omega)];have g0:=g 0 (by omega);have g1:=g 1 (by omega);have g2:=g 2 (by omega);have g3:=g 3 (by omega);have g4:=g 4 (by omega);have g5:=g 5 (by omega);simp only[Nat.add_zero]at g0;simp only[g0,g1,g2,g3,g4,g5,h0,h1,h2,h3,h4,h5];simp
theorem yr0(W:zi)(o0 o1 o2 o3 o4 o5:Value)(T:TypeId)(g:Nat)(hg:W.heap.size=g):∀j u,[o0,o1,o2,o3,o4,o5][j]? =some u->(W.alloc (zg #[o0,o1,o2,o3,o4,o5] T)).cell? ((⟨g,0,none⟩:Zd).add j)=some u:=by
 intro j u hu;subst hg;have dI:(⟨W.heap.size,0,none⟩:Zd).add j=⟨W.heap.size,j,none⟩:=by unfold zN;split<;>simp_all
 rw[dI,zU _ _ j _ _ _ (zS W (zg #[o0,o1,o2,o3,o4,o5] T))];simpa using hu
def yM0(n:Int)(zs ros:List Int)(home am:Int)(k f:Nat):Int:=
 if f=0 then og6 ros k 0 else if f=1 then yi6 n zs ros home am k else if f=2 then zi1 n zs ros home am k else zz0 n zs ros home am (k+1)
def y57(n:Int)(zs ros:List Int)(home am:Int)(m:Nat):List Int:=(List.range (m*4)).map fun j=>yM0 n zs ros home am (j / 4) (j % 4)
theorem zF7(n:Int)(zs ros:List Int)(home am:Int)(m:Nat):(y57 n zs ros home am m).length=m*4:=by simp[y57]
theorem zR2(n:Int)(zs ros:List Int)(home am:Int){m k f:Nat}(hk:k<m)(hf:f<4):(y57 n zs ros home am m).getD (k*4+f) 0=yM0 n zs ros home am k f:=by
 unfold y57;have hj:k*4+f<m*4:=by omega
 have e1:(k*4+f) / 4=k:=by omega
 have e2:(k*4+f) % 4=f:=by omega
 rw[zy,yr,List.getElem?_range hj];simp only[yG,yR,e1,e2]
theorem yx9(n:Int)(zs ros:List Int)(home am:Int){m k:Nat}(hk:k<m){x0 x1 x2 x3:Int}(h0:og6 ros k 0=x0)(h1:yi6 n zs ros home am k=x1)(h2:zi1 n zs ros home am k=x2)(h3:zz0 n zs ros home am (k+1)=x3):
 (((y57 n zs ros home am m).take (k*4)).map (ze zd))++[ze zd x0,ze zd x1,ze zd x2,ze zd x3]=((y57 n zs ros home am m).take ((k+1)*4)).map (ze zd):=by
 have hl:=zF7 n zs ros home am m;have e:(k+1)*4=k*4+1+1+1+1:=by omega
 have g0:=zR2 n zs ros home am hk (f:=0) (by omega);have g1:=zR2 n zs ros home am hk (f:=1) (by omega);have g2:=zR2 n zs ros home am hk (f:=2) (by omega);have g3:=zR2 n zs ros home am hk (f:=3) (by omega);simp only[Nat.add_zero,yM0]at g0 g1 g2 g3;rw[e,zf4 _ _ (by omega),zf4 _ _ (by omega),zf4 _ _ (by omega),zf4 _ _ (by omega)];simp only[g0,g1,g2,g3];simp[h0,h1,h2,h3]
theorem y76:(Tryz.prog.info? 205).map (fun i=>(i.zero,i.size,i.bytes))=some (some (.agg #[ze zd 0,ze zd 0,ze zd 0,ze zd 0]),4,32):=by kernel_rfl
theorem zP9(w:zi){ap:Array Oper}{rest:List Oper}{o:Oper}{a:Act}{Q:Exit->Act->zi->Prop}
 (hg:o.guard=none) (s x:Operand) (du:o.op=zI {callee:=zw zx,args:=#[s,x],argTypes:=#[172,172]})
 (base:Nat) (v:Value) (k:Nat) (xs:List Value) (hs:a.eval s=v) (ae:w.ownsRow base 205 4 v k xs) (ad:Zd) (c:Nat) (bP:List Value) (hx:a.eval x=za (some ad) 1 c) (hn:bP.length=4)
 (hc:∀j u,bP[j]? =some u->w.cell? (ad.add j)=some u) (jX:∀u∈bP,u.oneCell'=true) (b1:k<=1000) (hb:base<=w.heap.size)
 (hK:∀v' w',w'.ownsRow base 205 4 v' (k+1) (xs++bP)->w.grownBy w' v.ownBlock->wpList zh ap Q rest (a.put o.dst v') w'):
 wpList zh ap Q (o::rest) a w:=by
 obtain⟨i0,hi,bR,ba,bS⟩:=qx y76;exact wpList_append_own w hg s x _ du base _ i0 _ 4 32 Tryz.underlying172 hi bR ba bS rfl (by decide) v k xs hs ae ad 1 c bP hx (by rw[hn]) hc jX (by unfold maxLen;omega) (by omega) hb (fun v' w' h1 h2 _=>hK v' w' h1 h2)
theorem yn3(W:zi)(o0 o1 o2 o3:Value)(T:TypeId)(g:Nat)(hg:W.heap.size=g):∀j u,[o0,o1,o2,o3][j]? =some u->(W.alloc (zg #[o0,o1,o2,o3] T)).cell? ((⟨g,0,none⟩:Zd).add j)=some u:=by
 intro j u hu;subst hg;have dI:(⟨W.heap.size,0,none⟩:Zd).add j=⟨W.heap.size,j,none⟩:=by unfold zN;split<;>simp_all
 rw[dI,zU _ _ j _ _ _ (zS W (zg #[o0,o1,o2,o3] T))];simpa using hu
theorem y51{w:zi}{base k:Nat}{v:Value}{e:TypeId}{size:Nat}{xs:List Value}(h:w.ownsRow base e size v (k+1) xs):∃g c,v=za (some ⟨g,0,none⟩) (k+1) c/\base<=g:=by
 obtain⟨_,⟨_,h2⟩|⟨g,ac,az,h2,h3,_⟩⟩:=h
 ·omega
 ·exact⟨g,ac,h2,h3⟩
theorem CR.grown{w W W':zi}{cs rs:Array Value}{g:Nat}(h:CR w W cs rs)(hg:W.grownBy W' (some g))(ah:w.heap.size+1<g):CR w W' cs rs:=
 ⟨h.1.grown hg h.1.size (fun k e=>by cases e;omega),(hg.block _ (za2 h.2.1) (fun e=>by cases e;omega)).trans h.2.1,(hg.block _ (za2 h.2.2) (fun e=>by cases e;omega)).trans h.2.2⟩
theorem zz8(n x y:Int)(a:Option Zd)(ac:Nat)(zs:List Int)(w:zi)(d:Int)(hd:tmI n zs x y=d)(hm:zq9 n zs=true)(hx:0<=x/\x<n)(hy:0<=y/\y<n)(hA:za3 w a zs):
 Calls zh 109 #[.agg #[ze zd n,za a zs.length ac],ze zd x,ze zd y] w fun e w'=>e=.returned (ze zd d)/\Za w.heap.size w w':=hd▸y43 n x y a ac zs w hm hx hy hA
theorem zB4(n fine ab:Int)(a ao av bi:Option Zd)(ac ko co kv cv c2:Nat)(zs os vs ids:List Int)(w:zi)(hA:za3 w a zs)(hO:za3 w ao os)(hV:za3 w av vs)(hI:za3 w bi ids)(an:os.length=ko*6)(au:vs.length=kv*5)(aA:ko<=9223372036854775807)(aB:kv<=9223372036854775807)(eX:ids.length<=9223372036854775807)(cw:ids.length<=c2):
 Calls zh 128 #[.agg #[ze zd n,za a zs.length ac,za ao ko co,za av kv cv,ze zd fine],.agg #[ze zd ab,za bi ids.length c2]] w fun e w'=>Za w.heap.size w w'/\((codeV (zd0 n zs os vs ko kv fine) n zs os vs ko kv ab ids≠0/\e=.returned (.tuple #[za none 0 0,ze zd 0,ze zd (codeV (zd0 n zs os vs ko kv fine) n zs os vs ko kv ab ids)]))∨(codeV (zd0 n zs os vs ko kv fine) n zs os vs ko kv ab ids=0/\∃g c,w.heap.size<=g/\e=.returned (.tuple #[za (some ⟨g,0,none⟩) ids.length c,ze zd (homeV n zs (zd6 os ko ids) ids.length (zc4 vs kv ab 1) (zc4 vs kv ab 3)),ze zd 0])/\za3 w' (some ⟨g,0,none⟩) (y57 n zs (zd6 os ko ids) (zc4 vs kv ab 1) (zc4 vs kv ab 3) ids.length))):=by
 have HA:=za4 hA;have HO:=za4 hO;have HV:=za4 hV;have HI:=za4 hI;have aF:Zb _:=an;have aE:Zb _:=au;clear hA hO hV hI an au;have bt:Zb (CR w ((w.alloc (zg #[ze zd n,za a zs.length ac,za ao ko co,za av kv cv,ze zd fine] 30)).alloc (zg #[ze zd ab,za bi ids.length c2] 80)) _ _):=CR.new w _ _;obtain⟨r,HR⟩:=nmd (codeV (zd0 n zs os vs ko kv fine) n zs os vs ko kv ab ids);rw[HR.X];go_enter Tryz.func128,Tryz.ntmps128;obtain⟨c0,c1,bZ,c3,c4⟩:=za7 bt.2.1;obtain⟨d0,d1⟩:=za1 bt.2.2
 go_wp2_with fail
 clear c0 c1 bZ c3 c4 d0 d1;refine(yo5 n fine ab a ao av bi ac ko co kv cv c2 zs os vs ids _ (HA.below bt.1) (HO.below bt.1) (HV.below bt.1) (HI.below bt.1) aF.X aE.X aA aB eX cw).mono ?_;rintro e w1 ⟨rfl,hb⟩;have C1:=za4 (bt.below hb);clear hb bt;obtain⟨fv,eP⟩:=nmd (zm7 (zd0 n zs os vs ko kv fine) vs os kv ko ab ids);rw[eP.X];by_cases om:fv=0
 ·subst om
  have bC:=(zu6 (n:=n) (zs:=zs) eP.X).symm.trans HR.X;obtain⟨iZ,_,mX⟩:=zf3 eP.X;obtain⟨cC,b_,ce,aZ,_⟩:=zb2 iZ;have eW:=zr5 ce aZ ab;have db:Zb _:=cC;have nV:Zb _:=b_;have my:Zb _:=aZ;have bJ:=(zg3 mX).1;clear cC b_ ce aZ iZ mX;obtain⟨c0,c1,bZ,c3,c4⟩:=za7 C1.2.1;obtain⟨d0,d1⟩:=za1 C1.2.2
  go_wp2_with fail
  clear c0 c1 bZ c3 c4 d0 d1;refine(zI9 n fine ab a ao av _ ac ko co kv cv vs _ (HV.below C1.1) aE.X aB).mono ?_;rintro e w2 ⟨rfl,hb⟩;obtain⟨v0,G0⟩:=nmd (zc4 vs kv ab 0);obtain⟨v1,G1⟩:=nmd (zc4 vs kv ab 1);obtain⟨v2,G2⟩:=nmd (zc4 vs kv ab 2);obtain⟨v3,G3⟩:=nmd (zc4 vs kv ab 3);obtain⟨v4,G4⟩:=nmd (zc4 vs kv ab 4);rw[G1.X,G2.X,G3.X,G4.X]at eW;rw[G1.X,G3.X,G4.X]at bC;rw[G0.X,G1.X,G2.X,G3.X,G4.X];generalize fnd5T vs kv ab=tv;have cm:Zb _:=bC;have jw:Zb _:=eW.1;have GE:Zb _:=eW.2.2.1;clear eW bC;have C3:Zb (CR w ((w2.alloc (zg #[ze zd v0,ze zd v1,ze zd v2,ze zd v3,ze zd v4] 107)).alloc (zg #[] 205)) _ _):=CR.alloc (CR.alloc (C1.below hb) _) _;have fE:Zb (((w2.alloc (zg #[ze zd v0,ze zd v1,ze zd v2,ze zd v3,ze zd v4] 107)).alloc (zg #[] 205)).heap[w2.heap.size]? =_):=xm _ _ _;have uX:Zb (((w2.alloc (zg #[ze zd v0,ze zd v1,ze zd v2,ze zd v3,ze zd v4] 107)).alloc (zg #[] 205)).heap[w2.heap.size+1]? =_):=xh _ _ _;have JT:Zb _:=za2 (C1.below hb).2.2;clear hb C1;obtain⟨q0,q1,q2,q3,q4⟩:=za7 fE.X
  go_wp2_with fail
  clear q0 q1 q2 q3 q4;generalize(w2.alloc _).alloc _=W2 at*;generalize w2.heap.size=gv at*;have Kd:Zb (W2.ownsRow (gv+1) 205 4 (za (some ⟨gv+1,0,none⟩) 0 0) 0 []):=⟨by simp,.inr ⟨gv+1,0,#[],rfl,zT _,uX.X,zT _,xi _,by simp,by simp⟩⟩;have dG:Zb (z61 n (zd6 os ko ids) ids.length):=z55 nV.X my.X ids;go_loopw[10,11,12,13] (fun sl nw pl t wr=>∃k gg cc:Nat,k<=ids.length/\t=ze zd k/\sl=za (some ⟨gg,0,none⟩) k cc/\gv+1<=gg/\wr.ownsRow (gv+1) 205 4 (za (some ⟨gg,0,none⟩) k cc) k (((y57 n zs (zd6 os ko ids) v1 v3 ids.length).take (k*4)).map (ze zd))/\pl=ze zd (plc (zd6 os ko ids) v1 k)/\nw=ze zd (zz0 n zs (zd6 os ko ids) v1 v3 k)/\zy9 n zs (zd6 os ko ids) v1 v3 k/\CR w wr #[ze zd n,za a zs.length ac,za ao ko co,za av kv cv,ze zd fine] #[ze zd ab,za bi ids.length c2]/\wr.heap[gv]? =some (zg #[ze zd v0,ze zd v1,ze zd v2,ze zd v3,ze zd v4] 107 (0,0))) (fun _ _ _ t _=>ids.length - (intOf t).toNat)
  case atStart=>exact⟨0,gv+1,0,xi _,rfl,rfl,zT _,by simpa using Kd.X,rfl,rfl,fun j hj=>by omega,C3.X,fE.X⟩
  case round=>
   clear C3 fE uX Kd;obtain⟨k,gg,cc,hk,rfl,rfl,uQ,hw,rfl,rfl,JL,hb,jz⟩:=hrel;have aT:=zY7 dG.X jw.1 jw.2 k hk;have lL:=zS6 (home:=v1) db.X dG.X GE.X k hk;have AQ:=za4 JL;have HB:=za4 hb;have bC:=za4 jz;have HW:=za4 hw;have vo:Zb _:=uQ;obtain⟨c0,c1,bZ,c3,c4⟩:=za7 hb.2.1;obtain⟨d0,d1⟩:=za1 hb.2.2;obtain⟨p,bm⟩:=nmd (plc (zd6 os ko ids) v1 k);obtain⟨f,eZ⟩:=nmd (zz0 n zs (zd6 os ko ids) v1 v3 k);rw[bm.X]at aT;rw[eZ.X]at lL;rw[bm.X,eZ.X];have mz:Zb _:=aT;clear JL hb jz aT hw uQ;by_cases ah:k<ids.length
   ·obtain⟨b,off,rfl,aJ⟩:=za3.some (za3.below HI.X HB.1) ah
    have ct:=aJ k ah;clear aJ;obtain⟨id,bH⟩:=nmd (ids.getD k 0);rw[bH.X]at ct;obtain⟨uV,Ea,Fq,Gw,Gz⟩:=zQ1 nV.X my.X id;obtain⟨o0,H0⟩:=nmd (zd1 os ko id 0);obtain⟨o1,H1⟩:=nmd (zd1 os ko id 1);obtain⟨o2,H2⟩:=nmd (zd1 os ko id 2);obtain⟨o3,H3⟩:=nmd (zd1 os ko id 3);obtain⟨o4,H4⟩:=nmd (zd1 os ko id 4);obtain⟨o5,H5⟩:=nmd (zd1 os ko id 5);rw[H1.X]at uV;rw[H3.X]at Fq;rw[H4.X]at Gw;rw[H5.X]at Gz;have fq:Zb _:=uV;clear uV Ea;obtain⟨d,HD⟩:=nmd (tmI n zs p o1);have ki:=zx8 db.X p o1;rw[HD.X]at ki;have K0:Zb (og6 (zd6 os ko ids) k 0=o0):=(zj8 os ko ids ah (by omega)).trans (by rw[bH.X];exact H0.X);have K1:Zb (og6 (zd6 os ko ids) k 1=o1):=(zj8 os ko ids ah (by omega)).trans (by rw[bH.X];exact H1.X);have K3:Zb (og6 (zd6 os ko ids) k 3=o3):=(zj8 os ko ids ah (by omega)).trans (by rw[bH.X];exact H3.X);have K4:Zb (og6 (zd6 os ko ids) k 4=o4):=(zj8 os ko ids ah (by omega)).trans (by rw[bH.X];exact H4.X);have K5:Zb (og6 (zd6 os ko ids) k 5=o5):=(zj8 os ko ids ah (by omega)).trans (by rw[bH.X];exact H5.X);obtain⟨mx,mC⟩:=nmd (max (f+d) o3);have BM:Zb (yi6 n zs (zd6 os ko ids) v1 v3 k=f+d):=by
     show _=_;unfold yi6;rw[eZ.X,bm.X,K1.X,HD.X]
    have iX:Zb (zi1 n zs (zd6 os ko ids) v1 v3 k=mx):=by
     show _=_;unfold zi1;rw[BM.X,K3.X,mC.X]
    have a8:Zb (zz0 n zs (zd6 os ko ids) v1 v3 (k+1)=mx+o5):=by
     show _=_;rw[ya3,iX.X,K5.X]
    have MI:0<=mx/\mx<=3000000:=by
     have:=mC.X;omega
    obtain⟨tt,eO⟩:=nmd (zl8 os ko id)
    go_wp2_with fail
    have ig:=za4 ct;have il:Zb ((wr.alloc (zg #[ze zd 0,ze zd 0,ze zd 0,ze zd 0,ze zd 0,ze zd 0] 103)).cell? ⟨b,off+k,none⟩=_):=(((y5 wr.heap.size wr).alloc (zT _) _).cell (p:=⟨b,off+k,none⟩) (zV ct)).trans ct;have kX:Zb ((wr.alloc (zg #[ze zd 0,ze zd 0,ze zd 0,ze zd 0,ze zd 0,ze zd 0] 103)).heap[gv]? =_):=(xg _ _ (za2 bC.X)).trans bC.X;have cM:=zV ct;simp at cM;have aD:=za2 HB.2.1;have dU:=za2 HB.2.2
    go_region_held3 (fun W=>W.cell? ⟨w.heap.size,0,none⟩=some (ze zd n)/\W.cell? ⟨w.heap.size,1,none⟩=some (za a zs.length ac)/\W.cell? ⟨w.heap.size,2,none⟩=some (za ao ko co)/\W.cell? ⟨w.heap.size,3,none⟩=some (za av kv cv)/\W.cell? ⟨w.heap.size,4,none⟩=some (ze zd fine)/\W.cell? ⟨w.heap.size+1,1,none⟩=some (za (some ⟨b,off,none⟩) ids.length c2)/\W.cell? ⟨b,off+k,none⟩=some (ze zd id)) (first|with_reducible exact kS|with_reducible exact⟨(za5 (za5 (za5 (za5 (za5 (za5 kS.1 (y8 aD)) (y8 aD)) (y8 aD)) (y8 aD)) (y8 aD)) (y8 aD)),(za5 (za5 (za5 (za5 (za5 (za5 kS.2.1 (y8 aD)) (y8 aD)) (y8 aD)) (y8 aD)) (y8 aD)) (y8 aD)),(za5 (za5 (za5 (za5 (za5 (za5 kS.2.2.1 (y8 aD)) (y8 aD)) (y8 aD)) (y8 aD)) (y8 aD)) (y8 aD)),(za5 (za5 (za5 (za5 (za5 (za5 kS.2.2.2.1 (y8 aD)) (y8 aD)) (y8 aD)) (y8 aD)) (y8 aD)) (y8 aD)),(za5 (za5 (za5 (za5 (za5 (za5 kS.2.2.2.2.1 (y8 aD)) (y8 aD)) (y8 aD)) (y8 aD)) (y8 aD)) (y8 aD)),(za5 (za5 (za5 (za5 (za5 (za5 kS.2.2.2.2.2.1 (y8 dU)) (y8 dU)) (y8 dU)) (y8 dU)) (y8 dU)) (y8 dU)),(za5 (za5 (za5 (za5 (za5 (za5 kS.2.2.2.2.2.2 (y8 cM)) (y8 cM)) (y8 cM)) (y8 cM)) (y8 cM)) (y8 cM))⟩|go_keep) ((first
     |(go_at_call 88
       with_reducible refine(zr6 n fine id a ao av _ ac ko co kv cv os wr.drew ?_ aF.X aA).mono ?_
       ·exact HO.below HB.1.drew
       rintro e w2 ⟨rfl,aC⟩;rw[H0.X,H1.X,H2.X,H3.X,H4.X,H5.X,eO.X];have aS:=CR.below (CR.drew HB.X) aC;obtain⟨k0,k1,k2,k3,k4⟩:=za7 aS.2.1;have k5:=(za1 aS.2.2).2;have k6:=(aC.cell (p:=⟨b,off+k,none⟩) (zV ig.X)).trans ig.X;have kS:=xr k0 (xr k1 (xr k2 (xr k3 (xr k4 (xr k5 k6)))));have fD:=za4 aS;have fu:=za4 (za0 aC (za2 bC.X) bC.X);have B2:Zb (Za wr.heap.size wr w2):=(y5 _ wr).drew.trans aC;clear aC aS k0 k1 k2 k3 k4 k5 k6)
     |(go_at_call 88
       with_reducible refine(zr6 n fine id a ao av _ ac ko co kv cv os (wr.alloc (zg #[ze zd 0,ze zd 0,ze zd 0,ze zd 0,ze zd 0,ze zd 0] 103)).drew ?_ aF.X aA).mono ?_
       ·exact HO.below (CR.alloc HB.X (zg #[ze zd 0,ze zd 0,ze zd 0,ze zd 0,ze zd 0,ze zd 0] 103)).1.drew
       rintro e w2 ⟨rfl,aC⟩;rw[H0.X,H1.X,H2.X,H3.X,H4.X,H5.X,eO.X];have aS:=CR.below (CR.drew (CR.alloc HB.X (zg #[ze zd 0,ze zd 0,ze zd 0,ze zd 0,ze zd 0,ze zd 0] 103))) aC;obtain⟨k0,k1,k2,k3,k4⟩:=za7 aS.2.1;have k5:=(za1 aS.2.2).2;have k6:=(aC.cell (p:=⟨b,off+k,none⟩) (zV il.X)).trans il.X;have kS:=xr k0 (xr k1 (xr k2 (xr k3 (xr k4 (xr k5 k6)))));have fD:=za4 aS;have fu:=za4 (za0 aC (za2 kX.X) kX.X);obtain⟨z0,z1,z2,z3,z4,z5⟩:=zi0 (za0 aC (k:=wr.heap.size) (by simp) (zS wr (zg #[ze zd 0,ze zd 0,ze zd 0,ze zd 0,ze zd 0,ze zd 0] 103)));have zf:=fun i=>yZ _ _ i _ _ (za0 aC (k:=wr.heap.size) (by simp) (zS wr (zg #[ze zd 0,ze zd 0,ze zd 0,ze zd 0,ze zd 0,ze zd 0] 103)))
       have lU:Zb (w2.heap[wr.heap.size]? =_):=za0 aC (k:=wr.heap.size) (by simp) (zS wr (zg #[ze zd 0,ze zd 0,ze zd 0,ze zd 0,ze zd 0,ze zd 0] 103));have B2:Zb _:=((y5 _ wr).alloc (zT _) _).drew.trans (aC.mono (by simp));clear aC aS k0 k1 k2 k3 k4 k5 k6)))
    all_goals(first
     |(have eh:Zb (CR w (zj (zj (zj (zj (zj (zj w2 ⟨wr.heap.size,0,none⟩ (ze zd o0)) ⟨wr.heap.size,1,none⟩ (ze zd o1)) ⟨wr.heap.size,2,none⟩ (ze zd o2)) ⟨wr.heap.size,3,none⟩ (ze zd o3)) ⟨wr.heap.size,4,none⟩ (ze zd o4)) ⟨wr.heap.size,5,none⟩ (ze zd o5)) _ _):=CR.set (CR.set (CR.set (CR.set (CR.set (CR.set fD.X HB.big) HB.big) HB.big) HB.big) HB.big) HB.big
       have k_:Zb ((zj (zj (zj (zj (zj (zj w2 ⟨wr.heap.size,0,none⟩ (ze zd o0)) ⟨wr.heap.size,1,none⟩ (ze zd o1)) ⟨wr.heap.size,2,none⟩ (ze zd o2)) ⟨wr.heap.size,3,none⟩ (ze zd o3)) ⟨wr.heap.size,4,none⟩ (ze zd o4)) ⟨wr.heap.size,5,none⟩ (ze zd o5)).heap[gv]? =_):=za8 (za8 (za8 (za8 (za8 (za8 fu.X (y8 (za2 bC.X))) (y8 (za2 bC.X))) (y8 (za2 bC.X))) (y8 (za2 bC.X))) (y8 (za2 bC.X))) (y8 (za2 bC.X));have bF:Zb ((zj (zj (zj (zj (zj (zj w2 ⟨wr.heap.size,0,none⟩ (ze zd o0)) ⟨wr.heap.size,1,none⟩ (ze zd o1)) ⟨wr.heap.size,2,none⟩ (ze zd o2)) ⟨wr.heap.size,3,none⟩ (ze zd o3)) ⟨wr.heap.size,4,none⟩ (ze zd o4)) ⟨wr.heap.size,5,none⟩ (ze zd o5)).heap[wr.heap.size]? =_):=zT2 lU.X;have BW:Zb (∀base e size v n xs,wr.ownsRow base e size v n xs->World.ownsRow (zj (zj (zj (zj (zj (zj w2 ⟨wr.heap.size,0,none⟩ (ze zd o0)) ⟨wr.heap.size,1,none⟩ (ze zd o1)) ⟨wr.heap.size,2,none⟩ (ze zd o2)) ⟨wr.heap.size,3,none⟩ (ze zd o3)) ⟨wr.heap.size,4,none⟩ (ze zd o4)) ⟨wr.heap.size,5,none⟩ (ze zd o5)) base e size v n xs):=fun _ _ _ _ _ _ h=>zb9 h ((((((B2.setCell (zT _) _).setCell (zT _) _).setCell (zT _) _).setCell (zT _) _).setCell (zT _) _).setCell (zT _) _);clear kS fD fu lU ig il kX ct z0 z1 z2 z3 z4 z5 zf;generalize(zj (zj (zj (zj (zj (zj w2 ⟨wr.heap.size,0,none⟩ (ze zd o0)) ⟨wr.heap.size,1,none⟩ (ze zd o1)) ⟨wr.heap.size,2,none⟩ (ze zd o2)) ⟨wr.heap.size,3,none⟩ (ze zd o3)) ⟨wr.heap.size,4,none⟩ (ze zd o4)) ⟨wr.heap.size,5,none⟩ (ze zd o5))=W at*;generalize wr.heap.size=g at*)
     |(have eh:Zb (CR w (w2.alloc (zg #[ze zd o0,ze zd o1,ze zd o2,ze zd o3,ze zd o4,ze zd o5] 103)) _ _):=CR.alloc fD.X _
       have k_:Zb ((w2.alloc (zg #[ze zd o0,ze zd o1,ze zd o2,ze zd o3,ze zd o4,ze zd o5] 103)).heap[gv]? =_):=(xg _ _ (za2 fu.X)).trans fu.X;have bF:Zb ((w2.alloc (zg #[ze zd o0,ze zd o1,ze zd o2,ze zd o3,ze zd o4,ze zd o5] 103)).heap[w2.heap.size]? =_):=zS _ _;have BW:Zb (∀base e size v n xs,wr.ownsRow base e size v n xs->(w2.alloc (zg #[ze zd o0,ze zd o1,ze zd o2,ze zd o3,ze zd o4,ze zd o5] 103)).ownsRow base e size v n xs):=fun _ _ _ _ _ _ h=>zb9 h (B2.alloc B2.size _);clear kS fD fu ig il kX ct;generalize w2.alloc _=W at*;generalize w2.heap.size=g at*))
    all_goals
     clear c0 c1 bZ c3 c4 d0 d1 aD dU cM eO;generalize tt=tt';have IM:Zb (W.ownsRow (gv+1) 205 4 _ k _):=BW.X _ _ _ _ _ _ HW.X;obtain⟨c0,c1,bZ,c3,c4⟩:=za7 eh.2.1;obtain⟨p0,p1,p2,p3,p4,p5⟩:=zi0 bF.X
     go_wp2_with fail
     clear c0 c1 bZ c3 c4 p0 p1 p2 p3 p4 p5;refine(zz8 n p o1 _ _ zs _ d HD.X db.X mz.X fq.X (HA.below eh.1)).mono ?_;rintro e W3 ⟨rfl,cG⟩;have ui:=za4 (eh.below cG);have fE:=za4 (za0 cG (za2 k_.X) k_.X);have uX:=za4 (za0 cG (za2 bF.X) bF.X);have Ly:=za4 (zb9 IM.X cG);clear cG eh k_ bF IM BW;obtain⟨p0,p1,p2,p3,p4,p5⟩:=zi0 uX.X;by_cases fQ:o4<mx
     ·have HN:Zb _:=cm.symm.trans (zF8 ah (by rw[K4.X,iX.X];exact fQ))
      have vR:(f+d<o3/\mx=o3)∨(o3<=f+d/\mx=f+d):=by
       have:=mC.X;omega
      rcases vR with⟨vL,rfl⟩|⟨vL,rfl⟩
      all_goals
       clear mC;go_wp2;refine xe (v:=.tuple #[za none 0 0,ze zd 0,ze zd 5]) (by simp[results,Tryz.results128,go_sem]) rfl ⟨ui.1,.inl ⟨by rw[HN.X];decide,by rw[HN.X]⟩⟩
     ·have uB:mx<=o4:=by omega
      have rO:=za4 (zP2 AQ.X (by rw[K4.X,iX.X];exact uB));have vR:(f+d<o3/\mx=o3)∨(o3<=f+d/\mx=f+d):=by
       have:=mC.X;omega
      have Qe:Zb (gv+1<=W3.heap.size):=za2 fE.X;clear fQ;rcases vR with⟨vL,rfl⟩|⟨vL,rfl⟩
      all_goals
       clear mC
       go_wp2_with(first
        |(at_builtin;refine zP9 _ rfl _ _ rfl (gv+1) _ k _ rfl (Ly.alloc _) _ 1 _ rfl rfl (yn3 _ _ _ _ _ _ _ (by simp)) (by simp[zq]) (by omega) (xj Qe.X (by simp)) ?_;intro v' w4 hown4 aI;obtain⟨Jw,Kk,rfl,Ad⟩:=y51 hown4))
       replace aI:World.grownBy _ w4 (some gg):=aI;rw[yx9 n zs (zd6 os ko ids) v1 v3 ah K0.X BM.X iX.X a8.X]at hown4;go_roundw
       case rel=>exact⟨k+1,Jw,Kk,by omega,by go_num,rfl,Ad,hown4,by rw[<-K1.X];rfl,by rw[a8.X],rO.X,(ui.alloc _).grown aI (by have:=vo.X;have:=JT.X;omega),(aI.block _ (xw (za2 fE.X) (by simp)) (fun e=>by have h7:=vo.X;rw[x7]at e;omega)).trans ((xg _ _ (za2 fE.X)).trans fE.X)⟩
       case measure=>simp[intOf];omega
   ·have bz:k=ids.length:=by omega
    obtain⟨q0,q1,q2,q3,q4⟩:=za7 bC.X;have Ci:Zb (homeV n zs (zd6 os ko ids) ids.length v1 v3=f+tmI n zs p v1):=by
     show _=_;unfold homeV;rw[<-bz,eZ.X,bm.X]
    have Bh:=za4 (bz▸AQ.X);have Cq:Zb (za3 wr (some ⟨gg,0,none⟩) (y57 n zs (zd6 os ko ids) v1 v3 ids.length)):=by
     have:=HW.X;rw[xF (by rw[zF7];omega)]at this;exact zd4 this
    obtain⟨d,HD⟩:=nmd (tmI n zs p v1);have ki:=zx8 db.X p v1;rw[HD.X]at ki Ci;have ik:(k:Int)=ids.length:=by omega
    have MJ:Zb _:=bz;clear bz ik
    go_wp2_with fail
    refine(zz8 n p v1 _ _ zs _ d HD.X db.X mz.X jw.X (HA.below HB.1)).mono ?_;rintro e W3 ⟨rfl,cG⟩;have ui:=za4 (HB.below cG);have fE:=za4 (za0 cG (za2 bC.X) bC.X);have GK:=za4 (Cq.below cG);clear cG c0 c1 bZ c3 c4 d0 d1 q0 q1 q2 q3 q4;obtain⟨q0,q1,q2,q3,q4⟩:=za7 fE.X;by_cases gu:v4<f+d
    ·have HN:Zb _:=cm.symm.trans (zF5 Bh.X (by rw[Ci.X];exact gu))
     go_wp2;refine xe (v:=.tuple #[za none 0 0,ze zd 0,ze zd 6]) (by simp[results,Tryz.results128,go_sem]) rfl ⟨ui.1,.inl ⟨by rw[HN.X];decide,by rw[HN.X]⟩⟩
    ·have HN:Zb _:=cm.symm.trans (zU9 Bh.X (by rw[Ci.X];exact gu))
     go_wp2;refine xe (v:=.tuple #[za (some ⟨gg,0,none⟩) k cc,ze zd (f+d),ze zd 0]) (by simp[results,Tryz.results128,go_sem]) rfl ⟨ui.1,.inr ⟨HN.X,gg,cc,by have:=vo.X;have:=JT.X;omega,?_,?_⟩⟩
     ·rw[G1.X,G3.X,Ci.X,MJ.X]
     ·rw[G1.X,G3.X]
      exact GK.X
 ·have bC:Zb _:=eP.symm.trans ((z95 (by rw[eP.X];exact om)).symm.trans HR.X)
  have mu:(fv !=0)=true:=by simp[om]
  have HF:=za4 om;clear om;go_wp2;refine xe (v:=.tuple #[za none 0 0,ze zd 0,ze zd fv]) (by simp[results,Tryz.results128,go_sem]) rfl ⟨C1.1,.inl ⟨by rw[<-bC.X];exact HF.X,by rw[bC.X]⟩⟩
theorem yi9{W:zi}{g o k i:Nat}{zs:List Int}{v:Value}(h:za3 W (some ⟨g,o,none⟩) zs)(aq:g≠k):za3 (W.setCell ⟨k,i,none⟩ v) (some ⟨g,o,none⟩) zs:=by
 intro j hj;exact⟨g,o,rfl,za5 (zt3 h hj rfl) aq⟩
theorem zk4{w:zi}{k:Nat}{c0 c1 c2 c3 c4 c5 c6 c7:Value}{T:TypeId}(r:w.heap[k]? =some (zg #[c0,c1,c2,c3,c4,c5,c6,c7] T (0,0))):
 w.cell? ⟨k,0,none⟩=some c0/\w.cell? ⟨k,1,none⟩=some c1/\w.cell? ⟨k,2,none⟩=some c2/\w.cell? ⟨k,3,none⟩=some c3/\w.cell? ⟨k,4,none⟩=some c4/\w.cell? ⟨k,5,none⟩=some c5/\w.cell? ⟨k,6,none⟩=some c6/\w.cell? ⟨k,7,none⟩=some c7:=by
 refine⟨?_,?_,?_,?_,?_,?_,?_,?_⟩
 ·rw[zU _ _ 0 _ _ _ r];simp
 ·rw[zU _ _ 1 _ _ _ r];simp
 ·rw[zU _ _ 2 _ _ _ r];simp
 ·rw[zU _ _ 3 _ _ _ r];simp
 ·rw[zU _ _ 4 _ _ _ r];simp
 ·rw[zU _ _ 5 _ _ _ r];simp
 ·rw[zU _ _ 6 _ _ _ r];simp
 ·rw[zU _ _ 7 _ _ _ r];simp
theorem z64(n lo hi:Int)(w:zi)(v:Bool)(hv:inB n lo hi=v):
 Calls zh 32 #[ze zd n,ze zd lo,ze zd hi] w fun e w'=>e=.returned (.bool v)/\w'=w:=hv▸zc2 n lo hi w
end Go.Proofs.YtkchnomkiboihaaGreat
namespace Go.Proofs.YtkchnomkiboihaaGreat
open Q
end Go.Proofs.YtkchnomkiboihaaGreat
namespace Go.Proofs.YtkchnomkiboihaaGreat
open RowKit renaming Below→Za,Hid→Zb
open Go renaming Calls→Zc,Addr→Zd
open Value renaming slice→za,int→ze,ownBlock→zm,oneCell'→zq
open IntKind renaming i64→zd
open Obj renaming cells→zg
open Proofs.Tryz renaming prog→zh
open Go renaming World→zi
open World renaming setCell→zj
open Region renaming wanted→zn
open Callee renaming builtin→zw
open Builtin renaming append→zx
open List renaming getD→zy
open Oper renaming wp→zG
open Op renaming call→zI
open Addr renaming add→zN
open Go.RowKit
open Q
def ye5(w:zi)(ch:Bool)(ab D:Int)(xs:List Int)(e:Ending)(w':zi):Prop:=
 Za w.heap.size w w'/\∃ad c,e=.returned (.tuple #[.agg #[ze zd (chI ch ab),za ad xs.length c],ze zd D,.bool ch])/\w'.ownsRow w.heap.size 2 1 (za ad xs.length c) xs.length (xs.map (ze zd))
def CRR(w W:zi)(cs rs ts:Array Value):Prop:=CR w W cs rs/\W.heap[w.heap.size+2]? =some (.cells ts 80 (0,0))
theorem CRR.new(w:zi)(cs rs ts:Array Value):CRR w (((w.alloc (.cells cs 30)).alloc (.cells rs 80)).alloc (.cells ts 80)) cs rs ts:=
 ⟨(CR.new w cs rs).alloc _,by have:=zS ((w.alloc (.cells cs 30)).alloc (.cells rs 80)) (.cells ts 80);simpa using this⟩
theorem CRR.below{w W W':zi}{cs rs ts:Array Value}(h:CRR w W cs rs ts)(hb:Za W.heap.size W W'):CRR w W' cs rs ts:=
 ⟨h.1.below hb,za0 hb (za2 h.2) h.2⟩
theorem CRR.b{w W:zi}{cs rs ts:Array Value}(h:CRR w W cs rs ts):Za w.heap.size w W:=h.1.1
theorem CRR.alloc{w W:zi}{cs rs ts:Array Value}(h:CRR w W cs rs ts)(o:Obj):CRR w (W.alloc o) cs rs ts:=h.below (zP _)
theorem CRR.big{w W:zi}{cs rs ts:Array Value}(h:CRR w W cs rs ts):w.heap.size+2<W.heap.size:=za2 h.2
theorem CRR.set{w W:zi}{cs rs ts:Array Value}(h:CRR w W cs rs ts)(u1 u2:Value):CR w ((W.setCell ⟨w.heap.size+1+1,0,none⟩ u1).setCell ⟨w.heap.size+1+1,1,none⟩ u2) cs rs:=(h.1.set (by omega)).set (by omega)
theorem cr7{w W:zi}{c0 c1 c2 c3 c4 r0 r1:Value}(h:CR w W #[c0,c1,c2,c3,c4] #[r0,r1]):
 W.cell? ⟨w.heap.size,0,none⟩=some c0/\W.cell? ⟨w.heap.size,1,none⟩=some c1/\W.cell? ⟨w.heap.size,2,none⟩=some c2/\W.cell? ⟨w.heap.size,3,none⟩=some c3/\W.cell? ⟨w.heap.size,4,none⟩=some c4/\W.cell? ⟨w.heap.size+1,0,none⟩=some r0/\W.cell? ⟨w.heap.size+1,1,none⟩=some r1:=by
 obtain⟨k0,k1,k2,k3,k4⟩:=za7 h.2.1;obtain⟨k5,k6⟩:=za1 h.2.2;exact⟨k0,k1,k2,k3,k4,k5,k6⟩
theorem yI1:(Tryz.prog.info? 2).map (fun i=>(i.zero,i.size,i.bytes))=some (some (ze zd 0),1,8):=by kernel_rfl
theorem zr4:∃i0,Tryz.prog.info? 2=some i0/\i0.zero=some (ze zd 0)/\i0.size=1/\i0.bytes=8:=by
 have h:=yI1;cases hq:Tryz.prog.info? 2 with
 |none=>rw[hq]at h;simp at h
 |some i0=>
  rw[hq]at h;simp only[yG,x7,qw]at h;exact⟨i0,rfl,h.1,h.2.1,h.2.2⟩
theorem yt4{W:zi}{b off:Nat}{ys:List Int}(h:za3 W (some ⟨b,off,none⟩) ys):∀j u,(ys.map (ze zd))[j]? =some u->W.cell? ((⟨b,off,none⟩:Zd).add j)=some u:=by
 intro j u hu;have hj:j<ys.length:=by
  rcases qp j ys.length with h'|h'
  ·exact h'
  ·simp[yg (by simpa using h':(ys.map (ze zd)).length<=j)]at hu
 obtain⟨b',aR,e,hc⟩:=h j hj;simp at e;obtain⟨rfl,rfl⟩:=e;have dI:(⟨b,off,none⟩:Zd).add j=⟨b,off+j,none⟩:=by unfold zN;split<;>simp_all
 rw[dI,hc,<-hu];simp[zy,hj]
theorem zd7{ap:Array Oper}{o:Oper}{a:Act}{w:zi}{K:Act->zi->Prop}{Q:Exit->Act->zi->Prop}{E:Prop}
 (hg:o.guard=none) (s x:Operand) (du:o.op=zI {callee:=zw zx,args:=#[s,x],argTypes:=#[24,24]})
 (base:Nat) (v:Value) (xs:List Int) (k:Nat) (hs:a.eval s=v) (ae:w.ownsRow base 2 1 v k (xs.map (ze zd))) (b off m c:Nat) (ys:List Int) (hx:a.eval x=za (some ⟨b,off,none⟩) m c)
 (hy:ys.length=m) (hc:za3 w (some ⟨b,off,none⟩) ys) (b1:k<=1000) (b2:m<=1000) (hb:base<=w.heap.size)
 (hK:∀v' w',w'.ownsRow base 2 1 v' (k+m) ((xs++ys).map (ze zd))->w.grownBy w' v.ownBlock->(v'=za none 0 0↔v=za none 0 0/\m=0)->K (a.put o.dst v') w'):
 if zn o (yielded ap a.tmps)=true then zG zh o a w K Q else E:=by
 have hw:zn o (yielded ap a.tmps)=true:=by simp[zn,hg]
 rw[z7 hw];obtain⟨i0,hi,bR,ba,bS⟩:=zr4;obtain⟨v',w',aQ,r1,r2,r3⟩:=qy (P:=zh) w base 24 o.type _ i0 _ 1 8 qb hi bR ba bS rfl (by decide) v k (xs.map (ze zd)) ae ⟨b,off,none⟩ m c (ys.map (ze zd)) (by simp[hy]) (yt4 hc) (by simp[zq]) (by unfold maxLen;omega) (by omega) hb;unfold zG;simp[execOp,du,resolve,invoke,builtin,hs,hx,aQ,Result.andThen];exact hK _ _ (by rw[x8];exact r1) r2 r3
theorem z08{ap:Array Oper}{o:Oper}{a:Act}{w:zi}{K:Act->zi->Prop}{Q:Exit->Act->zi->Prop}{E:Prop}
 (hg:o.guard=none) (s x:Operand) (du:o.op=zI {callee:=zw zx,args:=#[s,x],argTypes:=#[24,24]})
 (base:Nat) (v:Value) (xs:List Int) (k:Nat) (hs:a.eval s=v) (ae:w.ownsRow base 2 1 v k (xs.map (ze zd))) (ad:Option Zd) (m c:Nat) (ys:List Int) (hx:a.eval x=za ad m c)
 (l7:∃b off,ad=some ⟨b,off,none⟩) (hy:ys.length=m) (hc:za3 w ad ys) (b1:k<=1000) (b2:m<=1000) (hb:base<=w.heap.size)
 (hK:∀v' w',w'.ownsRow base 2 1 v' (k+m) ((xs++ys).map (ze zd))->w.grownBy w' v.ownBlock->(v'=za none 0 0↔v=za none 0 0/\m=0)->K (a.put o.dst v') w'):
 if zn o (yielded ap a.tmps)=true then zG zh o a w K Q else E:=by
 obtain⟨b,off,rfl⟩:=l7;exact zd7 hg s x du base v xs k hs ae b off m c ys hx hy hc b1 b2 hb hK
theorem CRR.grown{w W W':zi}{cs rs ts:Array Value}{row:Option Nat}(h:CRR w W cs rs ts)(hg:W.grownBy W' row)(ah:∀g,row=some g->w.heap.size+2<g):CRR w W' cs rs ts:=
 ⟨⟨h.1.1.grown hg h.1.1.size (fun k e=>by have:=ah k e;omega),(hg.block _ (za2 h.1.2.1) (fun e=>by have:=ah _ e.symm;omega)).trans h.1.2.1,(hg.block _ (za2 h.1.2.2) (fun e=>by have:=ah _ e.symm;omega)).trans h.1.2.2⟩,(hg.block _ (za2 h.2) (fun e=>by have:=ah _ e.symm;omega)).trans h.2⟩
theorem CRR.put{w W:zi}{cs rs ts:Array Value}(h:CRR w W cs rs ts){k i:Nat}{v:Value}(hk:w.heap.size+2<k):CRR w (W.setCell ⟨k,i,none⟩ v) cs rs ts:=
 ⟨h.1.set (by omega),za8 h.2 (by omega)⟩
theorem CRR.drew{w W:zi}{cs rs ts:Array Value}(h:CRR w W cs rs ts):CRR w W.drew cs rs ts:=h.below (y5 _ _).drew
def OX(w W:zi)(B ko:Nat)(cs rs ts:Array Value)(ab:Int)(sl:Value)(ys:List Int):Prop:=
 CRR w W cs rs ts/\W.heap[ko]? =some (zg #[ze zd ab,sl] 80 (0,0))/\B<=ko/\w.heap.size+2<B/\W.ownsRow B 2 1 sl ys.length (ys.map (ze zd))
theorem OX.c{w W:zi}{B ko:Nat}{cs rs ts:Array Value}{ab:Int}{sl:Value}{ys:List Int}(h:OX w W B ko cs rs ts ab sl ys):CRR w W cs rs ts:=h.1
theorem OX.b{w W:zi}{B ko:Nat}{cs rs ts:Array Value}{ab:Int}{sl:Value}{ys:List Int}(h:OX w W B ko cs rs ts ab sl ys):Za w.heap.size w W:=h.1.1.1
theorem OX.o{w W:zi}{B ko:Nat}{cs rs ts:Array Value}{ab:Int}{sl:Value}{ys:List Int}(h:OX w W B ko cs rs ts ab sl ys):W.ownsRow B 2 1 sl ys.length (ys.map (ze zd)):=h.2.2.2.2
theorem OX.below{w W W':zi}{B ko:Nat}{cs rs ts:Array Value}{ab:Int}{sl:Value}{ys:List Int}(h:OX w W B ko cs rs ts ab sl ys)(hb:Za W.heap.size W W'):OX w W' B ko cs rs ts ab sl ys:=
 ⟨h.1.below hb,za0 hb (za2 h.2.1) h.2.1,h.2.2.1,h.2.2.2.1,zb9 h.2.2.2.2 hb⟩
theorem OX.drew{w W:zi}{B ko:Nat}{cs rs ts:Array Value}{ab:Int}{sl:Value}{ys:List Int}(h:OX w W B ko cs rs ts ab sl ys):OX w W.drew B ko cs rs ts ab sl ys:=h.below (y5 _ _).drew
theorem zI8{w:zi}{base k ko:Nat}{v:Value}{size:Nat}{xs:List Value}{cs:Array Value}(h:w.ownsRow base 2 size v k xs)(hk:w.heap[ko]? =some (.cells cs 80 (0,0))):v.ownBlock≠some ko:=by
 intro e;obtain⟨_,⟨rfl,_⟩|⟨g,ac,az,rfl,_,h4,_⟩⟩:=h
 ·cases e
 ·have:g=ko:=by simpa[zm]using e
  subst this;rw[h4]at hk;simp at hk
theorem OX.grow{w W W':zi}{B ko:Nat}{cs rs ts:Array Value}{ab:Int}{sl de:Value}{ys H9:List Int}(h:OX w W B ko cs rs ts ab sl ys)(hg:W.grownBy W' sl.ownBlock)(ho:W'.ownsRow B 2 1 de H9.length (H9.map (ze zd))):
 OX w ((W'.setCell ⟨ko,1,none⟩ de)) B ko cs rs ts ab de H9:=by
 have hk:=(hg.block _ (za2 h.2.1) (fun e=>zI8 h.2.2.2.2 h.2.1 e.symm)).trans h.2.1;refine⟨(h.1.grown hg (fun g e=> ?_)).put ?_,?_,h.2.2.1,h.2.2.2.1,?_⟩
 ·have:=(h.2.2.2.2.lt g e).1;have:=h.2.2.2.1;omega
 ·have:=h.2.2.1;have:=h.2.2.2.1;omega
 ·have:=xb W' ko 1 _ _ de hk
  simpa using this
 ·exact qm ho (zI8 ho hk) de
theorem yI2(w1:zi):((w1.alloc (zg #[] 2)).drew).ownsRow w1.heap.size 2 1 (za (some ⟨w1.heap.size,0,none⟩) 0 0) 0 (([]:List Int).map (ze zd)):=
 zb9 (qo w1 #[] 0 (zT _) (by unfold maxLen;omega) (by simp)) (y5 _ _).drew
theorem yK3(w1:zi)(o:Obj):(((w1.alloc (zg #[] 2)).alloc o).drew).ownsRow w1.heap.size 2 1 (za (some ⟨w1.heap.size,0,none⟩) 0 0) 0 (([]:List Int).map (ze zd)):=
 zb9 (qo w1 #[] 0 (zT _) (by unfold maxLen;omega) (by simp)) (zP _).drew
theorem yJ2(w1:zi)(o:Obj):(((w1.alloc o).alloc (zg #[] 2)).drew).ownsRow w1.heap.size 2 1 (za (some ⟨w1.heap.size+1,0,none⟩) 0 0) 0 (([]:List Int).map (ze zd)):=by
 have:=zb9 (qo (base:=w1.heap.size) (e:=2) (size:=1) (w1.alloc o) #[] 0 (by simp) (by unfold maxLen;omega) (by simp)) (y5 _ _).drew;simpa using this
theorem z94(w1:zi)(o:Obj):(w1.alloc o).heap.size=w1.heap.size+1:=by simp
theorem OX.newa{w w1 w':zi}{cs rs ts:Array Value}{ab:Int}{sl:Value}{ys:List Int}{o:Obj}(h:CRR w w1 cs rs ts)(hg:((w1.alloc o).drew).grownBy w' (some w1.heap.size))(ho:w'.ownsRow w1.heap.size 2 1 sl ys.length (ys.map (ze zd))):
 OX w (w'.alloc (zg #[ze zd ab,sl] 80)) w1.heap.size w'.heap.size cs rs ts ab sl ys:=
 ⟨(((h.alloc o).drew).grown hg (fun g e=>by cases e;exact h.big)).alloc _,zS _ _,by have:=hg.size;have e:=z94 w1 o;have:(w1.alloc o).drew.heap.size=w1.heap.size+1:=e;omega,h.big,ho.alloc _⟩
theorem OX.newb{w w1 w':zi}{cs rs ts:Array Value}{ab:Int}{sl z0 z1:Value}{ys:List Int}{o:Obj}(h:CRR w w1 cs rs ts)(hg:(((w1.alloc o).alloc (zg #[z0,z1] 80)).drew).grownBy w' (some w1.heap.size))(ho:w'.ownsRow w1.heap.size 2 1 sl ys.length (ys.map (ze zd))):
 OX w ((w'.setCell ⟨w1.heap.size+1,0,none⟩ (ze zd ab)).setCell ⟨w1.heap.size+1,1,none⟩ sl) w1.heap.size (w1.heap.size+1) cs rs ts ab sl ys:=by
 have eC:(((w1.alloc o).alloc (zg #[z0,z1] 80)).drew).heap[w1.heap.size+1]? =some (zg #[z0,z1] 80 (0,0)):=by
  have:=zS (w1.alloc o) (zg #[z0,z1] 80);rw[z94]at this;exact this
 have hk:w'.heap[w1.heap.size+1]? =some (zg #[z0,z1] 80 (0,0)):=(hg.block _ (za2 eC) (fun e=>by simp at e)).trans eC;have hb:=h.big;have s1:=xb w' (w1.heap.size+1) 0 _ _ (ze zd ab) hk;have s2:=xb _ (w1.heap.size+1) 1 _ _ sl s1;refine⟨((((h.alloc o).alloc _).drew.grown hg (fun g e=>by cases e;exact hb)).put (by omega)).put (by omega),by simpa using s2,by omega,hb,?_⟩;exact qm (qm ho (zI8 ho hk) _) (zI8 ho hk) _
theorem OX.newc{w w1 w':zi}{cs rs ts:Array Value}{ab:Int}{sl z0 z1:Value}{ys:List Int}{o:Obj}(h:CRR w w1 cs rs ts)(hg:(((w1.alloc (zg #[z0,z1] 80)).alloc o).drew).grownBy w' (some (w1.heap.size+1)))(ho:w'.ownsRow w1.heap.size 2 1 sl ys.length (ys.map (ze zd))):
 OX w ((w'.setCell ⟨w1.heap.size,0,none⟩ (ze zd ab)).setCell ⟨w1.heap.size,1,none⟩ sl) w1.heap.size w1.heap.size cs rs ts ab sl ys:=by
 have eC:(((w1.alloc (zg #[z0,z1] 80)).alloc o).drew).heap[w1.heap.size]? =some (zg #[z0,z1] 80 (0,0)):=xm _ _ _;have hk:w'.heap[w1.heap.size]? =some (zg #[z0,z1] 80 (0,0)):=(hg.block _ (za2 eC) (fun e=>by simp at e)).trans eC;have hb:=h.big;have s1:=xb w' w1.heap.size 0 _ _ (ze zd ab) hk;have s2:=xb _ w1.heap.size 1 _ _ sl s1;refine⟨((((h.alloc _).alloc o).drew.grown hg (fun g e=>by cases e;omega)).put (by omega)).put (by omega),by simpa using s2,by omega,hb,?_⟩;exact qm (qm ho (zI8 ho hk) _) (zI8 ho hk) _
theorem yK8{w1 w2:zi}{o:Obj}{cs:Array Value}{T:TypeId}(hg:(((w1.alloc o).alloc (.cells cs T)).drew).grownBy w2 (some w1.heap.size)):w2.heap[w1.heap.size+1]? =some (.cells cs T (0,0)):=by
 have eC:(((w1.alloc o).alloc (.cells cs T)).drew).heap[w1.heap.size+1]? =some (.cells cs T (0,0)):=by
  have:=zS (w1.alloc o) (.cells cs T);rw[z94]at this;exact this
 exact(hg.block _ (za2 eC) (fun e=>by simp at e)).trans eC
theorem yK9{w1 w2:zi}{o:Obj}{cs:Array Value}{T:TypeId}(hg:(((w1.alloc (.cells cs T)).alloc o).drew).grownBy w2 (some (w1.heap.size+1))):w2.heap[w1.heap.size]? =some (.cells cs T (0,0)):=by
 have eC:(((w1.alloc (.cells cs T)).alloc o).drew).heap[w1.heap.size]? =some (.cells cs T (0,0)):=xm _ _ _;exact(hg.block _ (za2 eC) (fun e=>by simp at e)).trans eC
theorem yg7{w:zi}{base n:Nat}{v:Value}{e:TypeId}{xs:List Int}(h:w.ownsRow base e 1 v (0+n) (([]++xs).map (ze zd)))(hl:xs.length=n):w.ownsRow base e 1 v xs.length (xs.map (ze zd)):=by
 rw[yb]at h;rw[hl];exact h
theorem zD0{w:zi}{base n m:Nat}{v:Value}{e:TypeId}{xs ys:List Int}(h:w.ownsRow base e 1 v (n+m) ((xs++ys).map (ze zd)))(hx:xs.length=n)(hy:ys.length=m):w.ownsRow base e 1 v (xs++ys).length ((xs++ys).map (ze zd)):=by
 rw[xY,hx,hy];exact h
theorem y28{w:zi}{base n:Nat}{v:Value}{e:TypeId}{xs:List Int}(h:w.ownsRow base e 1 v xs.length (xs.map (ze zd)))(hl:xs.length=n):w.ownsRow base e 1 v n (xs.map (ze zd)):=by
 rw[<-hl];exact h
theorem y10{w:zi}{base k g c:Nat}{e:TypeId}{size:Nat}{xs:List Value}(h:w.ownsRow base e size (za (some ⟨g,0,none⟩) k c) k xs):k<=c/\k<=9223372036854775807:=by
 obtain⟨_,⟨h1,_⟩|⟨g',ac,az,h2,_,_,h5,h6,_⟩⟩:=h
 ·cases h1
 ·simp at h2
  obtain⟨rfl,rfl⟩:=h2;unfold maxLen at h6;exact⟨h5,by omega⟩
theorem yJ0{c:Bool}{n:Int}{zs os vs:List Int}{ko kv:Nat}{ab:Int}{ids:List Int}(h:codeV c n zs os vs ko kv ab ids=0):rcV n zs os vs ko kv ab ids=zq7 n zs (zd6 os ko ids) ids.length (zc4 vs kv ab 1):=by
 have hc:=zF3 h;rw[hc]at h;exact z18 h
theorem yx0{ch c:Bool}{n:Int}{zs os vs:List Int}{ko kv:Nat}{ab:Int}{ids aK:List Int}(h:ch=true)(h1:codeV c n zs os vs ko kv ab ids=0)(h2:codeV c n zs os vs ko kv ab aK=0):
 chD ch n zs os vs ko kv ab ids aK=zq7 n zs (zd6 os ko aK) aK.length (zc4 vs kv ab 1) - zq7 n zs (zd6 os ko ids) ids.length (zc4 vs kv ab 1):=by
 subst h;unfold chD;rw[z7 rfl,yJ0 h1,yJ0 h2]
theorem zY3{w1 X:zi}{b o:Nat}{v:Value}(hc:w1.cell? ⟨b,o,none⟩=some v)(hb:Za w1.heap.size w1 X):X.cell? ⟨b,o,none⟩=some v:=by
 rw[hb.cell (p:=⟨b,o,none⟩) (zV hc)];exact hc
theorem yb0{W:zi}{a:Option Zd}{ids:List Int}(h:za3 W a ids)(i:Nat):za3 W a (ids.take i):=by
 intro j hj;simp at hj;obtain⟨b,off,e,hc⟩:=h j (by omega);refine⟨b,off,e,hc.trans ?_⟩;simp only[zy,yL];rw[z7 (by omega)]
theorem ys8{W:zi}{b off:Nat}{ids:List Int}(h:za3 W (some ⟨b,off,none⟩) ids)(i:Nat):za3 W (some ⟨b,off+i,none⟩) (ids.drop i):=by
 intro j hj;simp at hj;obtain⟨b',aR,e,hc⟩:=h (i+j) (by omega);simp at e;obtain⟨rfl,rfl⟩:=e;refine⟨b,off+i,rfl,?_⟩;rw[yz,hc];simp[zy,qr]
theorem yj6{W:zi}{b off:Nat}{ids:List Int}(h:za3 W (some ⟨b,off,none⟩) ids)(i c2:Nat)(hc:ids.length<=c2):za3 W (if c2=i then some ⟨b,off,none⟩else some ⟨b,off+i,none⟩) (ids.drop i):=by
 by_cases e:c2=i
 ·rw[z7 e,List.drop_eq_nil_of_le (by omega)]
  intro j hj;simp at hj
 ·rw[ye e]
  exact ys8 h i
theorem yl7(b off i c2:Nat):∃b' aR,(if c2=i then some (⟨b,off,none⟩:Zd)else some ⟨b,off+i,none⟩)=some ⟨b',aR,none⟩:=by
 split
 ·exact⟨_,_,rfl⟩
 ·exact⟨_,_,rfl⟩
theorem OX.keep{w W W':zi}{B ko:Nat}{cs ts:Array Value}{r0 r1:Value}{ab:Int}{sl:Value}{ys:List Int}(h:OX w W B ko cs #[r0,r1] ts ab sl ys)(hg:W.grownBy W' sl.ownBlock):
 W'.cell? ⟨w.heap.size+1,1,none⟩=some r1/\W'.cell? ⟨ko,1,none⟩=some sl/\(∀i,W'.frozen? ⟨ko,i,none⟩=false):=by
 have hk:=(hg.block _ (za2 h.2.1) (fun e=>zI8 h.2.2.2.2 h.2.1 e.symm)).trans h.2.1;have hc:=(h.1.grown hg (fun g e=>by have:=(h.2.2.2.2.lt g e).1;have:=h.2.2.2.1;omega)).1.2.2;exact⟨(za1 hc).2,(za1 hk).2,fun i=>yZ _ _ i _ _ hk⟩
theorem OX.size{w W:zi}{B ko:Nat}{cs rs ts:Array Value}{ab:Int}{sl:Value}{ys:List Int}(h:OX w W B ko cs rs ts ab sl ys):B<=W.heap.size:=by
 have:=h.2.2.1;have:=za2 h.2.1;omega
theorem ox9{w W:zi}{B ko:Nat}{c0 c1 c2 c3 c4 r0 r1:Value}{ts:Array Value}{ab:Int}{sl:Value}{ys:List Int}(h:OX w W B ko #[c0,c1,c2,c3,c4] #[r0,r1] ts ab sl ys):
 W.cell? ⟨w.heap.size,0,none⟩=some c0/\W.cell? ⟨w.heap.size,1,none⟩=some c1/\W.cell? ⟨w.heap.size,2,none⟩=some c2/\W.cell? ⟨w.heap.size,3,none⟩=some c3/\W.cell? ⟨w.heap.size,4,none⟩=some c4/\W.cell? ⟨w.heap.size+1,0,none⟩=some r0/\W.cell? ⟨w.heap.size+1,1,none⟩=some r1/\W.cell? ⟨ko,0,none⟩=some (ze zd ab)/\W.cell? ⟨ko,1,none⟩=some sl:=by
 obtain⟨k0,k1,k2,k3,k4⟩:=za7 h.1.1.2.1;obtain⟨k5,k6⟩:=za1 h.1.1.2.2;obtain⟨k7,k8⟩:=za1 h.2.1;exact⟨k0,k1,k2,k3,k4,k5,k6,k7,k8⟩
theorem yM7{w W:zi}{B ko:Nat}{c0 c1 c2 c3 c4 r0 r1:Value}{ts:Array Value}{ab:Int}{sl:Value}{ys:List Int}(h:OX w W B ko #[c0,c1,c2,c3,c4] #[r0,r1] ts ab sl ys)(u1 u2:Value):
 (fun X:zi=>X.cell? ⟨w.heap.size,0,none⟩=some c0/\X.cell? ⟨w.heap.size,1,none⟩=some c1/\X.cell? ⟨w.heap.size,2,none⟩=some c2/\X.cell? ⟨w.heap.size,3,none⟩=some c3/\X.cell? ⟨w.heap.size,4,none⟩=some c4/\X.cell? ⟨w.heap.size+1,0,none⟩=some r0/\X.cell? ⟨w.heap.size+1,1,none⟩=some r1/\X.cell? ⟨ko,0,none⟩=some (ze zd ab)/\X.cell? ⟨ko,1,none⟩=some sl) ((W.setCell ⟨w.heap.size+1+1,0,none⟩ u1).setCell ⟨w.heap.size+1+1,1,none⟩ u2):=by
 have hc:=h.1.set u1 u2;obtain⟨k0,k1,k2,k3,k4,k5,k6⟩:=cr7 hc;obtain⟨k7,k8⟩:=za1 h.2.1;have aq:ko≠w.heap.size+1+1:=by have:=h.2.2.1;have:=h.2.2.2.1;omega
 exact⟨k0,k1,k2,k3,k4,k5,k6,za5 (za5 k7 aq) aq,za5 (za5 k8 aq) aq⟩
theorem zB0{w:zi}{base k n:Nat}{v:Value}{e:TypeId}{size:Nat}{xs:List Value}(h:w.ownsRow base e size v k xs)(aq:v≠za none 0 0)(hk:k=n):∃g c,v=za (some ⟨g,0,none⟩) n c:=by
 subst hk;rcases zm3 h with h1|h1
 ·exact absurd h1 aq
 ·exact h1
theorem zn2{w W w2:zi}{row:Option Nat}{cs ts:Array Value}{r0 r1:Value}(hg:W.grownBy w2 row)(h:CRR w W cs #[r0,r1] ts)(hr:∀g,row=some g->w.heap.size+2<g):w2.cell? ⟨w.heap.size+1,0,none⟩=some r0/\w2.cell? ⟨w.heap.size+1,1,none⟩=some r1:=za1 (h.grown hg hr).1.2.2
def zl5(L:List Int)(x:Int):List Int:=L.filter (fun y=>decide (y≠x))
theorem yt6{L:List Int}{x:Int}{k:Nat}(hk:k<L.length)(h:L.getD k 0≠x):zl5 (L.take (k+1)) x=zl5 (L.take k) x++[L.getD k 0]:=by
 have e:L.take (k+1)=L.take k++[L.getD k 0]:=by
  rw[yI,zQ,zR hk];rfl
 unfold zl5;rw[e,yP];clear e;generalize L.getD k 0=y at*;simp[h]
theorem yz5{L:List Int}{x:Int}{k:Nat}(hk:k<L.length)(h:L.getD k 0=x):zl5 (L.take (k+1)) x=zl5 (L.take k) x:=by
 have e:L.take (k+1)=L.take k++[L.getD k 0]:=by
  rw[yI,zQ,zR hk];rfl
 unfold zl5;rw[e,yP];clear e;generalize L.getD k 0=y at*;simp[h]
theorem zH4(L:List Int)(x:Int):(zl5 L x).length<=L.length:=yp _ _
theorem yx8(L:List Int)(x:Int)(k:Nat):(zl5 (L.take k) x).length<=k:=xj (zH4 _ _) (List.length_take_le _ _)
theorem y35{L:List Int}{x y:Int}(h:y∈zl5 L x):y∈L:=(qi.1 h).1
theorem zG5(bi:Option Zd)(c m:Nat)(L:List Int)(x:Int)(w:zi)(hA:za3 w bi L)(hm:L.length=m)(hl:m<=900):
 Zc zh 73 #[za bi m c,ze zd x] w fun e w'=>∃g cc,e=.returned (za (some ⟨g,0,none⟩) (zl5 L x).length cc)/\Za w.heap.size w w'/\w'.ownsRow w.heap.size 2 1 (za (some ⟨g,0,none⟩) (zl5 L x).length cc) (zl5 L x).length ((zl5 L x).map (ze zd)):=by
 have HA:=za4 hA;have HM:=za4 hm;clear hA hm;have B1:Zb (Za w.heap.size w (w.alloc (zg #[] 2))):=zP _;have O1:Zb ((w.alloc (zg #[] 2)).ownsRow w.heap.size 2 1 (za (some ⟨w.heap.size,0,none⟩) 0 0) 0 (([]:List Int).map (ze zd))):=qo w #[] 0 (zT _) (by unfold maxLen;omega) (by simp);go_enter Tryz.func73,Tryz.ntmps73
 go_wp2_with fail
 go_loopw[5,6] (fun ts t wr=>∃(k g cc:Nat),k<=m/\t=ze zd k/\ts=za (some ⟨g,0,none⟩) (zl5 (L.take k) x).length cc/\Za w.heap.size w wr/\wr.ownsRow w.heap.size 2 1 (za (some ⟨g,0,none⟩) (zl5 (L.take k) x).length cc) (zl5 (L.take k) x).length ((zl5 (L.take k) x).map (ze zd))) (fun _ t _=>m - (intOf t).toNat)
 case atStart=>exact⟨0,w.heap.size,0,xi _,rfl,rfl,B1.X,O1.X⟩
 case round=>
  clear B1 O1;obtain⟨k,g,cc,hk,rfl,rfl,hb,ho⟩:=hrel;have B2:Zb _:=hb;have O2:=za4 ho;have jI:=yx8 L x k;clear hb ho;by_cases ah:k<m
  ·have ik:(k:Int)<(m:Int):=by omega
   have Fw:k<L.length:=by rw[HM.X];exact ah
   obtain⟨b,off,e,c1⟩:=(HA.below B2.X) k Fw;subst e;by_cases hx:L.getD k 0=x
   ·have HE:Zb _:=yz5 Fw hx
    rw[hx]at c1;have Qm:(x !=x)=false:=by simp
    clear hx;obtain⟨n,HN⟩:=nmd ((zl5 (L.take k) x).length);rw[HN.X]at O2 jI⊢;go_wp2
    first
     |exact⟨⟨k+1,g,cc,by omega,by first|rfl|go_num,by rw[HE.X,HN.X],B2.X,by rw[HE.X,HN.X];exact O2.X⟩,by simp[intOf];omega⟩
     |(go_roundw
       case rel=>exact⟨k+1,g,cc,by omega,by first|rfl|go_num,by rw[HE.X,HN.X],B2.X,by rw[HE.X,HN.X];exact O2.X⟩
       case measure=>simp[intOf];omega)
   ·have HE:Zb _:=yt6 Fw hx
    obtain⟨y,HY⟩:=nmd (L.getD k 0);rw[HY.X]at c1 hx HE;have fZ:(y !=x)=true:=by simp[hx]
    obtain⟨n,HN⟩:=nmd ((zl5 (L.take k) x).length);rw[HN.X]at O2 jI⊢;have B3:Zb (Za w.heap.size w (wr.alloc (zg #[ze zd y] 2))):=B2.alloc B2.size _
    go_wp2_with(first
     |(at_builtin
       refine zc9 _ rfl (.tmp 20) (.tmp 25) rfl w.heap.size _ n (zl5 (L.take k) x) rfl (O2.alloc _) wr.heap.size 0 1 1 [y] rfl rfl (ze2 wr y) (by omega) (by omega) B3.size ?_;intro v4 w4 ae hg bd aX;have dW:=(O2.lt g rfl).1;have B4:Zb _:=B3.grown hg B3.size (fun k e=>xj dW (z57 e));obtain⟨g4,c4,rfl⟩:=zr0 ae (zn1 aX ⟨_,_,_,rfl⟩);have O4:=za4 ae;clear ae hg bd aX dW))
    have vg:Zb ((zl5 (L.take k) x++[y]).length=n+1):=by show _=_;rw[xY,HN.X];rfl
    first
     |exact⟨⟨k+1,g4,c4,by omega,by first|rfl|go_num,by rw[HE.X,vg.X],B4.X,by rw[HE.X,vg.X];exact O4.X⟩,by simp[intOf];omega⟩
     |(go_roundw
       case rel=>exact⟨k+1,g4,c4,by omega,by first|rfl|go_num,by rw[HE.X,vg.X],B4.X,by rw[HE.X,vg.X];exact O4.X⟩
       case measure=>simp[intOf];omega)
  ·have ik:¬((k:Int)<(m:Int)):=by omega
   have cV:k=m:=by omega
   have O3:Zb (wr.ownsRow w.heap.size 2 1 (za (some ⟨g,0,none⟩) (zl5 L x).length cc) (zl5 L x).length ((zl5 L x).map (ze zd))):=by
    have:=O2.X;rw[cV,<-HM.X,ym]at this;exact this
   have HE:Zb ((zl5 (L.take k) x).length=(zl5 L x).length):=by show _=_;rw[cV,<-HM.X,ym]
   rw[HE.X];obtain⟨n,HN⟩:=nmd ((zl5 L x).length);rw[HN.X]at O3⊢;clear cV;go_wp2;go_ret;exact⟨g,cc,by rw[HN.X];rfl,B2.X,by rw[HN.X];exact O3.X⟩
def yv3(os:List Int)(k:Nat):List Int:=(List.range k).map fun i=>og6 os i 0
theorem yz7(os:List Int)(k:Nat):yv3 os (k+1)=yv3 os k++[og6 os k 0]:=by simp[yv3,yN]
def EP(w W:zi)(cs:Array Value):Prop:=Za w.heap.size w W/\W.heap[w.heap.size]? =some (.cells cs 30 (0,0))/\W.heap[w.heap.size+1]? =some (zg #[za none 0 0,za none 0 0] 33 (0,0))
theorem EP.new(w:zi)(cs:Array Value):EP w ((w.alloc (.cells cs 30)).alloc (zg #[za none 0 0,za none 0 0] 33)) cs:=
 ⟨(zP _).alloc (by simp) _,xm _ _ _,xh _ _ _⟩
theorem EP.below{w W W':zi}{cs:Array Value}(h:EP w W cs)(hb:Za W.heap.size W W'):EP w W' cs:=
 ⟨h.1.trans (hb.mono h.1.size),za0 hb (za2 h.2.1) h.2.1,za0 hb (za2 h.2.2) h.2.2⟩
theorem EP.alloc{w W:zi}{cs:Array Value}(h:EP w W cs)(o:Obj):EP w (W.alloc o) cs:=h.below (zP _)
theorem EP.b{w W:zi}{cs:Array Value}(h:EP w W cs):Za w.heap.size w W:=h.1
theorem EP.grown{w W W':zi}{cs:Array Value}{row:Option Nat}(h:EP w W cs)(hg:W.grownBy W' row)(hr:∀g,row=some g->w.heap.size+1<g):EP w W' cs:=
 ⟨h.1.grown hg h.1.size (fun k e=>by have:=hr k e;omega),(hg.block _ (za2 h.2.1) (fun e=>by have:=hr _ e.symm;omega)).trans h.2.1,(hg.block _ (za2 h.2.2) (fun e=>by have:=hr _ e.symm;omega)).trans h.2.2⟩
theorem EP.set{w W:zi}{cs:Array Value}(h:EP w W cs){k i:Nat}{v:Value}(hk:w.heap.size+1<k):EP w (W.setCell ⟨k,i,none⟩ v) cs:=
 ⟨h.1.setCell (by simp;omega) _,za8 h.2.1 (by omega),za8 h.2.2 (by omega)⟩
theorem zR3(n fine:Int)(a ao av:Option Zd)(ac ko co kv cv:Nat)(zs os vs:List Int)(w:zi)(hA:za3 w a zs)(hO:za3 w ao os)(hV:za3 w av vs)(an:os.length=ko*6)(au:vs.length=kv*5)(aA:ko<=9223372036854775807)(aB:kv<=9223372036854775807)(cb:Bool)(K:Nat)(X:List Int)(iZ:zd0 n zs os vs ko kv fine=cb)(hK:(if cb=true then ko else 0)=K)(hX:(if cb=true then yv3 os ko else [])=X):
 Zc zh 69 #[.agg #[ze zd n,za a zs.length ac,za ao ko co,za av kv cv,ze zd fine]] w fun e w'=>∃sl,e=.returned (.tuple #[.agg #[za none 0 0,sl],.bool cb])/\Za w.heap.size w w'/\w'.ownsRow w.heap.size 2 1 sl K (X.map (ze zd)):=by
 have HA:=za4 hA;have HO:=za4 hO;have HV:=za4 hV;have aF:Zb _:=an;have aE:Zb _:=au;clear hA hO hV an au;have KK:Zb _:=hK;have lI:Zb _:=hX;have cU:Zb _:=iZ;clear hK hX iZ;have vm:Zb (EP w ((w.alloc (zg #[ze zd n,za a zs.length ac,za ao ko co,za av kv cv,ze zd fine] 30)).alloc (zg #[za none 0 0,za none 0 0] 33)) _):=EP.new w _;go_enter Tryz.func69,Tryz.ntmps69;obtain⟨c0,c1,bZ,c3,c4⟩:=za7 vm.X.2.1
 go_wp2_with fail
 clear c0 c1 bZ c3 c4;refine(zx5 n fine a ao av ac ko co kv cv zs os vs _ (HA.X.below vm.X.1) (HO.X.below vm.X.1) (HV.X.below vm.X.1) aF.X aE.X aA aB).mono ?_;rintro e w1 ⟨rfl,hb⟩;have E1:=za4 (vm.X.below hb);clear hb vm;rw[cU.X];cases cb
 ·have eC:K=0:=KK.X.symm.trans (ye (by simp))
  have dp:X=[]:=lI.X.symm.trans (ye (by simp));subst eC dp;obtain⟨p0,p1⟩:=za1 E1.X.2.2;have pf:=fun i=>yZ _ _ i _ _ E1.X.2.2;go_wp2;refine xe (v:=.tuple #[.agg #[za none 0 0,za none 0 0],.bool false]) (by simp[results,Tryz.results69,go_sem,p0,p1]) rfl ⟨za none 0 0,rfl,?_,xZ _ _ _ _⟩
  repeat(first|with_reducible exact E1.X.b|refine xq ?_ (by simp<;>omega) _)
 ·have eA:K=ko:=KK.X.symm.trans (z7 rfl)
  have ci:X=yv3 os ko:=lI.X.symm.trans (z7 rfl);subst eA ci;have bJ:K<=12:=(zd9 (zM4 cU.X)).1;have E2:Zb (EP w (w1.alloc (zg #[za none 0 0,za none 0 0] 33)) _):=E1.X.alloc _;have J4:Zb ((w1.alloc (zg #[za none 0 0,za none 0 0] 33)).heap[w1.heap.size]? =_):=zS _ _;have pL:Zb _:=za2 E1.X.2.2;obtain⟨c0,c1,bZ,c3,c4⟩:=za7 E2.X.2.1;clear E1
  go_wp2_with fail
  clear c0 c1 bZ c3 c4;generalize w1.alloc _=W1 at*;generalize w1.heap.size=bp at*;go_loopw[5] (fun t wr=>∃(k:Nat) (sl:Value),k<=K/\t=ze zd k/\EP w wr #[ze zd n,za a zs.length ac,za ao K co,za av kv cv,ze zd fine]/\wr.heap[bp]? =some (zg #[za none 0 0,sl] 33 (0,0))/\wr.ownsRow (bp+1) 2 1 sl k ((yv3 os k).map (ze zd))) (fun t _=>K - (intOf t).toNat)
  case atStart=>exact⟨0,za none 0 0,xi _,rfl,E2.X,J4.X,xZ _ _ _ _⟩
  case round=>
   clear E2 J4;obtain⟨k,sl,hk,rfl,he,hp,ho⟩:=hrel;have HE:=za4 he;have HP:=za4 hp;have HW:=za4 ho;obtain⟨c0,c1,bZ,c3,c4⟩:=za7 he.2.1;obtain⟨p0,p1⟩:=za1 hp;have pf:=fun i=>yZ _ _ i _ _ hp;clear he hp ho;by_cases ah:k<K
   ·obtain⟨b,off,rfl,aJ⟩:=za3.some (za3.below HO.X HE.X.1) (j:=k*6) (by rw[aF.X];omega)
    obtain⟨r0,r1,r2,r3,r4,r5⟩:=zu5 aJ aF.X k ah;clear aJ;have a8:Zb _:=yz7 os k;have cM:=zV r0;simp at cM;obtain⟨o0,H0⟩:=nmd (og6 os k 0);obtain⟨o1,H1⟩:=nmd (og6 os k 1);obtain⟨o2,H2⟩:=nmd (og6 os k 2);obtain⟨o3,H3⟩:=nmd (og6 os k 3);obtain⟨o4,H4⟩:=nmd (og6 os k 4);obtain⟨o5,H5⟩:=nmd (og6 os k 5);rw[H0.X]at a8;rw[H0.X]at r0;rw[H1.X]at r1;rw[H2.X]at r2;rw[H3.X]at r3;rw[H4.X]at r4;rw[H5.X]at r5;have pD:Zb (bp+1<=wr.heap.size):=za2 HP.X
    go_wp2_with fail
    obtain⟨s0,s1⟩:=za1 ((xg wr (zg #[ze zd o0] 2) (za2 HP.X)).trans HP.X)
    go_region_law ((
     refine zG8 rfl (.tmp 19) (.tmp 26) rfl (bp+1) sl k _ (by simp[Act.eval]) (HW.X.drew.alloc _) ⟨wr.heap.size,0,none⟩ 1 (ze zd o0) (by simp[Act.eval]) (zq5 _ _ _ _ (by simp)) rfl (by omega) (xj pD.X (by simp)) ?_;intro v' w4 hown4 aI;obtain⟨Jw,Kk,rfl,Ad⟩:=zo1 hown4;have aq:∀q,sl.ownBlock=some q->bp<q:=fun q e=>(HW.X.lt _ e).1;have gK:w4.heap[bp]? =some (zg #[za none 0 0,sl] 33 (0,0)):=(aI.block _ (xw (za2 HP.X) (by simp;try omega)) (fun e=>by have:=aq _ e.symm;omega)).trans ((xg _ _ (za2 HP.X)).trans HP.X);have Me:=za4 gK;obtain⟨u0,u1⟩:=za1 gK;have uf:=fun i=>yZ _ _ i _ _ gK;have OG:Zb (EP w w4 _):=EP.grown (EP.below (HE.X.alloc _) (y5 _ _).drew) aI (fun q e=>by have:=aq q e;have:=pL.X;omega);have Od:=za4 hown4;clear gK hown4 aI aq))
    all_goals
     go_wp2;go_roundw
     case rel=>
      refine⟨k+1,_,by omega,by go_num,OG.X.set (by have:=pL.X;omega),xb _ _ _ _ _ _ Me.X,?_⟩;rw[a8.X,x8];exact zg1 Od.X (by omega)
     case measure=>simp[intOf];omega
   ·have bz:k=K:=by omega
    subst bz;obtain⟨q0,q1⟩:=za1 HE.X.2.2;have qf:=fun i=>yZ _ _ i _ _ HE.X.2.2;have iL:Zb (w.heap.size+1≠bp):=y8 pL.X;rcases zm3 HW.X with rfl|⟨gq,cq,rfl⟩
    ·go_wp2
     refine xe (v:=.tuple #[.agg #[za none 0 0,za none 0 0],.bool true]) (by simp[results,Tryz.results69,go_sem,q0,q1]) rfl ⟨_,rfl,?_,?_⟩
     ·repeat(first|with_reducible exact HE.X.b|refine xq ?_ (by simp<;>omega) _)
     ·exact zb5 (qu (qu HW.X (by simp;have:=pL.X;omega) _) (by simp;have:=pL.X;omega) _) (by have:=pL.X;omega)
    ·go_wp2
     refine xe (v:=.tuple #[.agg #[za none 0 0,za (some ⟨gq,0,none⟩) k cq],.bool true]) (by simp[results,Tryz.results69,go_sem,q0,q1]) rfl ⟨_,rfl,?_,?_⟩
     ·repeat(first|with_reducible exact HE.X.b|refine xq ?_ (by simp<;>omega) _)
     ·exact zb5 (qu (qu HW.X (by simp;have:=pL.X;omega) _) (by simp;have:=pL.X;omega) _) (by have:=pL.X;omega)
theorem yv9{w:zi}{base n g c k:Nat}{e:TypeId}{xs:List Int}(v:Int)(h:w.ownsRow base e 1 (za (some ⟨g,0,none⟩) n c) n (xs.map (ze zd)))(_hk:k<n):(w.setCell ⟨g,k,none⟩ (ze zd v)).ownsRow base e 1 (za (some ⟨g,0,none⟩) n c) n ((xs.set k v).map (ze zd)):=by
 obtain⟨h0,⟨h1,_⟩|⟨g',ac,az,h2,h3,h4,h5,h6,h7,h8⟩⟩:=h
 ·cases h1
 ·simp at h2
  obtain⟨rfl,rfl⟩:=h2;refine⟨by simpa using h0,.inr ⟨g,c,az.setIfInBounds k (ze zd v),rfl,h3,xb w g k az e _ h4,h5,h6,by simpa using h7,?_⟩⟩;rw[Array.toList_setIfInBounds,List.take_set,h8,List.map_set]
theorem zD9{w:zi}{base n g c k:Nat}{e:TypeId}{xs:List Int}(h:w.ownsRow base e 1 (za (some ⟨g,0,none⟩) n c) n (xs.map (ze zd)))(hk:k<xs.length):w.cell? ⟨g,k,none⟩=some (ze zd (xs.getD k 0))/\w.frozen? ⟨g,k,none⟩=false:=by
 refine⟨?_,?_⟩
 ·obtain⟨_,_,e1,h1⟩:=zd4 h k hk
  simp at e1;obtain⟨rfl,rfl⟩:=e1;rw[yb]at h1;exact h1
 ·obtain⟨h0,⟨h1,_⟩|⟨g',ac,az,h2,h3,h4,h5⟩⟩:=h
  ·cases h1
  ·simp at h2
   obtain⟨rfl,rfl⟩:=h2;exact yZ _ _ k _ _ h4
theorem RD.kept2{w W W':zi}{q c p p0:Nat}{a:Option Zd}{bs:List Int}{row:Option Nat}(h0:RD w q a bs c p0)(h:RD W q a bs c p)(hg:W.grownBy W' row)(hr:∀g,row=some g->w.heap.size<=g):RD W' q a bs c p:=by
 have hq:=za2 h0.1;refine⟨za6 hg h.1 (fun e=>by have:=hr q e.symm;omega),h.2.1,fun j hj=> ?_,h.2.2.2⟩;obtain⟨b,off,e,aq,hc,hv⟩:=h.2.2.1 j hj;obtain⟨b',aR,e',_,Nh,_⟩:=h0.2.2.1 j hj;have hb:b<w.heap.size:=by
  have:=zV Nh;rw[e]at e';simp at e';obtain⟨rfl,rfl⟩:=e';exact this
 exact⟨b,off,e,aq,hg.cell hc (fun e2=>by have:=hr b e2.symm;omega),hv⟩
theorem zd2{w W W':zi}{q:Nat}{row:Option Nat}(h:w.grownBy W (some q))(hg:W.grownBy W' row)(hr:∀g,row=some g->w.heap.size<=g):w.grownBy W' (some q):=
 ⟨hg.os.trans h.os,hg.tape.trans h.tape,hg.output.trans h.output,xj h.size hg.size,fun k hk aq=>(hg.block k (xw hk h.size) (fun e=>by have:=hr k e.symm;omega)).trans (h.block k hk aq)⟩
theorem zZ2(W:zi)(o:Obj):W.grownBy (W.alloc o) none:=⟨rfl,rfl,rfl,by simp,fun k hk _=>xg _ _ hk⟩
structure CL(w W:zi)(q:Nat)(a:Option Zd)(bs:List Int)(c:Nat)(ov:Value)(O:List Int):Prop where
 g:w.grownBy W (some q)
 r0:∃p,RD w q a bs c p
 r:∃p,RD W q a bs c p
 o:W.ownsRow w.heap.size 2 1 ov O.length (O.map (ze zd))
 so:∃g cg,ov=za (some ⟨g,0,none⟩) O.length cg
theorem zE9(W:zi)(x0 x1 x2 x3:Int)(T:TypeId)(y:Nat)(hy:y<4):(W.alloc (zg #[ze zd x0,ze zd x1,ze zd x2,ze zd x3] T)).cell? ⟨W.heap.size,y,none⟩=some (ze zd ([x0,x1,x2,x3].getD y 0)):=by
 have h:=zS W (zg #[ze zd x0,ze zd x1,ze zd x2,ze zd x3] T);rw[zU _ _ y _ _ _ h];rcases(show y=0∨y=1∨y=2∨y=3 from by omega)with rfl|rfl|rfl|rfl<;>rfl
def yK0(w:zi)(q:Nat)(a:Option Zd)(bs:List Int)(c:Nat)(e:Ending)(w':zi):Prop:=∃(x y:Int) (p':Nat),e=.returned (.tuple #[ze zd x,ze zd y])/\RD w' q a bs c p'/\w.grownBy w' (some q)
set_option maxRecDepth 10000 in
theorem yl5(q p c:Nat)(a:Option Zd)(bs:List Int)(w:zi)(h:RD w q a bs c p):
 Zc zh 68 #[.pointer (some ⟨q,0,none⟩)] w (yK0 w q a bs c):=by
 have H:=za4 h;clear h;go_enter Tryz.func68,Tryz.ntmps68
 go_wp2_with fail
 refine(zc5 q p c 40 a bs w H.X (by omega)).mono ?_;rintro e w1 ⟨x,p1,rfl,dp,ci,hr,hg⟩;have R1:=za4 hr;have G1:Zb _:=hg;clear hr hg
 go_wp2_with fail
 refine(zk6 q p1 c 2 a bs w1 R1.X (by omega) (by omega)).mono ?_;rintro e w2 ⟨v,p2,rfl,hr,hg⟩;have R2:=za4 hr;have G2:Zb _:=zb4 G1.X hg;clear hr hg R1 G1;have HQ:Zb _:=za2 R2.X.1;cases v
 all_goals
  go_wp2_with fail
  go_region_with (first
   |(go_at_call 31
     with_reducible refine(zc5 q p2 c 4 a bs w2.drew (R2.X.below (y5 _ _).drew) (by omega)).mono ?_
     rintro e w3 ⟨y,p3,rfl,bX,cD,hr,hg⟩;obtain⟨y,rfl⟩:=xp bX;have uZ:y<4:=by omega
     have R3:=za4 hr;have G3:Zb _:=zb4 (zs6 G2.X) hg;have n3:=zE9 w3 200 60 30 500 2 y uZ;obtain⟨z,HZ⟩:=nmd ([(200:Int),60,30,500].getD y 0);rw[HZ.X]at n3;clear hr hg bX cD)
   |(go_at_call 31
     with_reducible refine(zc5 q p2 c 4 a bs (w2.alloc (zg #[ze zd 200,ze zd 60,ze zd 30,ze zd 500] 2)).drew (R2.X.below (zP _).drew) (by omega)).mono ?_
     rintro e w3 ⟨y,p3,rfl,bX,cD,hr,hg⟩;obtain⟨y,rfl⟩:=xp bX;have uZ:y<4:=by omega
     have R3:=za4 hr;have G3:Zb _:=zb4 (zs6 (zb4 G2.X (zq8 w2 _ q))) hg;have n3:=hg.cell (zE9 w2.drew 200 60 30 500 2 y uZ) (fun e=>by have:=HQ.X;simp at e;omega);obtain⟨z,HZ⟩:=nmd ([(200:Int),60,30,500].getD y 0);rw[HZ.X]at n3;simp at n3;clear hr hg bX cD))
  all_goals
   go_wp2;refine xe (results_tmp2 rfl _ _ _) rfl ?_
   first
    |exact⟨_,_,p3,rfl,R3.X,G3.X⟩
    |exact⟨_,_,p3,rfl,R3.X.below (zP _),zb4 G3.X (zq8 w3 _ q)⟩
theorem y15:(Tryz.prog.info? 103).map (fun i=>(i.zero,i.size,i.bytes))=some (some (.agg #[ze zd 0,ze zd 0,ze zd 0,ze zd 0,ze zd 0,ze zd 0]),6,48):=by kernel_rfl
theorem yr8:(Tryz.prog.info? 107).map (fun i=>(i.zero,i.size,i.bytes))=some (some (.agg #[ze zd 0,ze zd 0,ze zd 0,ze zd 0,ze zd 0]),5,40):=by kernel_rfl
theorem zO0(t e:TypeId)(z:Value)(size bytes:Nat)(ws:(Tryz.prog.info? e).map (fun i=>(i.zero,i.size,i.bytes))=some (some z,size,bytes))(Ag:Tryz.prog.underlying t=some (.slice e))(r9:z.cells.size=size)(jW:0<size)(Bk:bytes<=100)
 (w:zi) {ap:Array Oper} {rest:List Oper} {o:Oper} {a:Act} {Q:Exit->Act->zi->Prop}
 (hg:o.guard=none) (s x:Operand) (du:o.op=zI {callee:=zw zx,args:=#[s,x],argTypes:=#[t,t]})
 (base:Nat) (v:Value) (k:Nat) (xs:List Int) (hs:a.eval s=v) (ae:w.ownsRow base e size v k (xs.map (ze zd))) (b c:Nat) (ys:List Int) (hx:a.eval x=za (some ⟨b,0,none⟩) 1 c)
 (hy:ys.length=size) (hc:za3 w (some ⟨b,0,none⟩) ys) (b1:k<=1000) (hb:base<=w.heap.size)
 (hK:∀v' w',w'.ownsRow base e size v' (k+1) ((xs++ys).map (ze zd))->w.grownBy w' v.ownBlock->(v'.ownBlock=v.ownBlock∨v'.ownBlock=some w.heap.size)->v'≠za none 0 0->wpList zh ap Q rest (a.put o.dst v') w'):
 wpList zh ap Q (o::rest) a w:=by
 obtain⟨i0,hi,bR,ba,bS⟩:=qx ws;have bN:∀j u,(ys.map (ze zd))[j]? =some u->w.cell? ((⟨b,0,none⟩:Zd).add j)=some u:=by
  intro j u hu;have hj:j<ys.length:=by
   rcases qp j ys.length with h'|h'
   ·exact h'
   ·simp[yg (by simpa using h':(ys.map (ze zd)).length<=j)]at hu
  obtain⟨b',aR,e,fC⟩:=hc j hj;simp at e;obtain⟨rfl,rfl⟩:=e;have dI:(⟨b,0,none⟩:Zd).add j=⟨b,0+j,none⟩:=by unfold zN;split<;>simp_all
  rw[dI,fC,<-hu];simp[zy,hj]
 have jX:∀u∈ys.map (ze zd),u.oneCell'=true:=by simp[zq]
 have Km:(k+1)*bytes<=140737488355328:=by
  have:(k+1)*bytes<=1001*100:=Nat.mul_le_mul (by omega) Bk;omega
 obtain⟨v',w',aQ,r1,r2,r3⟩:=qy (P:=zh) w base t o.type _ i0 _ size bytes Ag hi bR ba bS r9 jW v k (xs.map (ze zd)) ae ⟨b,0,none⟩ 1 c (ys.map (ze zd)) (by simp[hy]) bN jX (by unfold maxLen;omega) Km hb;have r4:=zA9 (P:=zh) w base t o.type _ i0 _ size bytes Ag hi bR ba bS v k (xs.map (ze zd)) ae ⟨b,0,none⟩ 1 c (ys.map (ze zd)) (by simp[hy]) bN jX (by unfold maxLen;omega) Km aQ;refine zz4 v' hg (zx6 s x _ v _ du hs hx aQ) (hK v' w' (by rw[x8];exact r1) r2 r4 ?_);intro e;exact absurd (r3.1 e).2 (by omega)
theorem yi3{w:zi}{base n g c k size:Nat}{e:TypeId}{xs:List Int}(v:Int)(h:w.ownsRow base e size (za (some ⟨g,0,none⟩) n c) n (xs.map (ze zd))):(w.setCell ⟨g,k,none⟩ (ze zd v)).ownsRow base e size (za (some ⟨g,0,none⟩) n c) n ((xs.set k v).map (ze zd)):=by
 obtain⟨h0,⟨h1,_⟩|⟨g',ac,az,h2,h3,h4,h5,h6,h7,h8⟩⟩:=h
 ·cases h1
 ·simp at h2
  obtain⟨rfl,rfl⟩:=h2;refine⟨by simpa using h0,.inr ⟨g,c,az.setIfInBounds k (ze zd v),rfl,h3,xb w g k az e _ h4,h5,h6,by simpa using h7,?_⟩⟩;rw[Array.toList_setIfInBounds,List.take_set,h8,List.map_set]
theorem zV6{w:zi}{base n g c k size:Nat}{e:TypeId}{xs:List Int}(h:w.ownsRow base e size (za (some ⟨g,0,none⟩) n c) n (xs.map (ze zd)))(hk:k<xs.length):w.cell? ⟨g,k,none⟩=some (ze zd (xs.getD k 0))/\w.frozen? ⟨g,k,none⟩=false:=by
 refine⟨?_,?_⟩
 ·obtain⟨_,_,e1,h1⟩:=zd4 h k hk
  simp at e1;obtain⟨rfl,rfl⟩:=e1;rw[yb]at h1;exact h1
 ·obtain⟨h0,⟨h1,_⟩|⟨g',ac,az,h2,h3,h4,h5⟩⟩:=h
  ·cases h1
  ·simp at h2
   obtain⟨rfl,rfl⟩:=h2;exact yZ _ _ k _ _ h4
structure CD(w W:zi)(q:Nat)(a:Option Zd)(bs:List Int)(c k:Nat)(n:Int)(g zl cg:Nat)(zs:List Int)(oo:Value)(ko:Nat)(O:List Int)(ov:Value)(kv:Nat)(V:List Int)(fi:Int):Prop where
 gr:w.grownBy W (some q)
 r0:∃p,RD w q a bs c p
 r:∃p,RD W q a bs c p
 b0:W.heap[w.heap.size]? =some (zg #[ze zd 0,za none 0 0,za none 0 0,za none 0 0,ze zd 0] 30 (0,0))
 b1:W.heap[k]? =some (zg #[ze zd n,za (some ⟨g,0,none⟩) zl cg,oo,ov,ze zd fi] 30 (0,0))
 h:w.heap.size<k/\w.heap.size<g/\k≠g/\0<zs.length
 i:za3 W (some ⟨g,0,none⟩) zs
 o:W.ownsRow (w.heap.size+1) 103 6 oo ko (O.map (ze zd))
 v:W.ownsRow (w.heap.size+1) 107 5 ov kv (V.map (ze zd))
 d1:∀b,oo.ownBlock=some b->b≠k/\b≠g
 d2:∀b,ov.ownBlock=some b->b≠k/\b≠g
 d3:∀b,oo.ownBlock=some b->ov.ownBlock≠some b
section
variable {w W W' w4:zi} {q:Nat} {a:Option Zd} {bs:List Int} {c k:Nat} {n:Int} {g zl cg:Nat} {zs:List Int} {oo rz:Value} {ko:Nat} {O:List Int} {ov dP:Value} {kv:Nat} {V:List Int} {fi:Int}
theorem CD.lt(h:CD w W q a bs c k n g zl cg zs oo ko O ov kv V fi):q<w.heap.size:=by
 obtain⟨p,hr⟩:=h.r0;exact za2 hr.1
theorem CD.size(h:CD w W q a bs c k n g zl cg zs oo ko O ov kv V fi):w.heap.size+1<=W.heap.size:=za2 h.b0
theorem zj7{X X':zi}{g:Nat}{xs:List Int}{row:Option Nat}(h:za3 X (some ⟨g,0,none⟩) xs)(hg:X.grownBy X' row)(aq:some g≠row):za3 X' (some ⟨g,0,none⟩) xs:=by
 intro j hj;obtain⟨b,off,e,hc⟩:=h j hj;simp at e;obtain⟨rfl,rfl⟩:=e;exact⟨g,0,rfl,hg.cell hc aq⟩
theorem CD.read{p:Nat}(h:CD w W q a bs c k n g zl cg zs oo ko O ov kv V fi)(hr:RD W' q a bs c p)(hg:W.grownBy W' (some q)):CD w W' q a bs c k n g zl cg zs oo ko O ov kv V fi:=by
 have hl:=h.lt;obtain⟨h1,h2,h3,h4⟩:=h.h;exact⟨zb4 h.gr hg,h.r0,⟨p,hr⟩,za6 hg h.b0 (fun e=>by injection e with e;omega),za6 hg h.b1 (fun e=>by injection e with e;omega),h.h,zj7 h.i hg (fun e=>by injection e with e;omega),h.o.kept hg (.inr fun e=>by have:=(h.o.lt q e).1;omega),h.v.kept hg (.inr fun e=>by have:=(h.v.lt q e).1;omega),h.d1,h.d2,h.d3⟩
theorem zp9{w W W':zi}{q:Nat}(h:w.grownBy W (some q))(hb:Za W.heap.size W W'):w.grownBy W' (some q):=
 ⟨hb.os.trans h.os,hb.tape.trans h.tape,hb.output.trans h.output,xj h.size hb.size,fun k hk aq=>(hb.block k (xw hk h.size)).trans (h.block k hk aq)⟩
theorem CD.below(h:CD w W q a bs c k n g zl cg zs oo ko O ov kv V fi)(hb:Za W.heap.size W W'):CD w W' q a bs c k n g zl cg zs oo ko O ov kv V fi:=by
 obtain⟨p,hr⟩:=h.r;exact⟨zp9 h.gr hb,h.r0,⟨p,hr.below hb⟩,za0 hb (za2 h.b0) h.b0,za0 hb (za2 h.b1) h.b1,h.h,h.i.below hb,zb9 h.o hb,zb9 h.v hb,h.d1,h.d2,h.d3⟩
theorem CD.cells(h:CD w W q a bs c k n g zl cg zs oo ko O ov kv V fi):(W.cell? ⟨k,0,none⟩=some (ze zd n)/\W.cell? ⟨k,1,none⟩=some (za (some ⟨g,0,none⟩) zl cg)/\W.cell? ⟨k,2,none⟩=some oo/\W.cell? ⟨k,3,none⟩=some ov/\W.cell? ⟨k,4,none⟩=some (ze zd fi))/\∀i,W.frozen? ⟨k,i,none⟩=false:=by
 have h0:=zU _ _ 0 _ _ _ h.b1;have h1:=zU _ _ 1 _ _ _ h.b1;have h2:=zU _ _ 2 _ _ _ h.b1;have h3:=zU _ _ 3 _ _ _ h.b1;have h4:=zU _ _ 4 _ _ _ h.b1;simp at h0 h1 h2 h3 h4;exact⟨⟨h0,h1,h2,h3,h4⟩,fun i=>yZ _ _ i _ _ h.b1⟩
theorem zi2{v:Value}{row:Option Nat}(h:∀b,row=some b->v.ownBlock≠some b):v.ownBlock=none∨v.ownBlock≠row:=by
 cases hv:v.ownBlock with
 |none=>exact .inl rfl
 |some x=>exact .inr fun e=>h x e.symm hv
theorem CD.aside{row:Option Nat}(h:CD w W q a bs c k n g zl cg zs oo ko O ov kv V fi)(hg:W.grownBy W' row)(hr:∀b,row=some b->w.heap.size+1<=b/\b≠k/\b≠g/\oo.ownBlock≠some b/\ov.ownBlock≠some b):CD w W' q a bs c k n g zl cg zs oo ko O ov kv V fi:=by
 obtain⟨p,lH⟩:=h.r;obtain⟨p0,cO⟩:=h.r0;have ld:∀b,row=some b->w.heap.size<=b:=fun b e=>by have:=(hr b e).1;omega
 exact⟨zd2 h.gr hg ld,h.r0,⟨p,RD.kept2 cO lH hg ld⟩,za6 hg h.b0 (fun e=>by have:=(hr _ e.symm).1;omega),za6 hg h.b1 (fun e=>(hr _ e.symm).2.1 rfl),h.h,zj7 h.i hg (fun e=>(hr _ e.symm).2.2.1 rfl),h.o.kept hg (zi2 fun b e=>(hr b e).2.2.2.1),h.v.kept hg (zi2 fun b e=>(hr b e).2.2.2.2),h.d1,h.d2,h.d3⟩
theorem ze1{X:zi}{k i:Nat}{cs:Array Value}{T:TypeId}(v:Value)(h:X.heap[k]? =some (.cells cs T (0,0))):(X.setCell ⟨k,i,none⟩ v).heap[k]? =some (.cells (cs.setIfInBounds i v) T (0,0)):=xb X k i cs T v h
theorem CD.glt(h:CD w W q a bs c k n g zl cg zs oo ko O ov kv V fi):g<W.heap.size:=by
 obtain⟨b,off,e,hc⟩:=h.i 0 h.h.2.2.2;simp at e;obtain⟨rfl,rfl⟩:=e;exact zV hc
theorem CD.putO{ob:Obj}{xs:List Int}(h:CD w W q a bs c k n g zl cg zs oo ko O ov kv V fi)(ho:w4.ownsRow (w.heap.size+1) 103 6 rz (ko+1) ((O++xs).map (ze zd)))(hg:(W.alloc ob).grownBy w4 oo.ownBlock)(hn:rz.ownBlock=oo.ownBlock∨rz.ownBlock=some (W.alloc ob).heap.size):CD w (w4.setCell ⟨k,2,none⟩ rz) q a bs c k n g zl cg zs rz (ko+1) (O++xs) ov kv V fi:=by
 obtain⟨h1,h2,h3,h4⟩:=h.h;have hk:=za2 h.b1;have hA:CD w (W.alloc ob) q a bs c k n g zl cg zs oo ko O ov kv V fi:=h.below (zP _);obtain⟨p,lH⟩:=hA.r;obtain⟨p0,cO⟩:=h.r0;have ld:∀b,oo.ownBlock=some b->w.heap.size<=b:=fun b e=>by have:=(h.o.lt b e).1;omega
 have kV:∀b,some k=some b->w.heap.size<=b:=fun b e=>by injection e with e;omega
 have hs:=zb3 w4 k 2 rz;have Ox:=h.glt;have r7:=RD.kept2 cO lH hg ld;have sV:=hA.v.kept hg (zi2 fun b e=>h.d3 b e);have bW:(W.alloc ob).heap.size=W.heap.size+1:=by simp
 refine⟨zd2 (zd2 hA.gr hg ld) hs kV,h.r0,⟨p,RD.kept2 cO r7 hs kV⟩,?_,?_,h.h,?_,?_,?_,?_,h.d2,?_⟩
 ·exact za6 hs (za6 hg hA.b0 (fun e=>by have:=(h.o.lt _ e.symm).1;omega)) (fun e=>by injection e with e;omega)
 ·have:=ze1 (i:=2) rz (za6 hg hA.b1 (fun e=>(h.d1 _ e.symm).1 rfl))
  simpa using this
 ·exact zj7 (zj7 hA.i hg (fun e=>(h.d1 _ e.symm).2 rfl)) hs (fun e=>by injection e with e;omega)
 ·refine ho.kept hs (zi2 fun b e=> ?_)
  injection e with e
  subst e;intro e2;rcases hn with hn|hn
  ·rw[hn]at e2;exact(h.d1 _ e2).1 rfl
  ·rw[hn,bW]at e2;injection e2 with e2;omega
 ·refine sV.kept hs (zi2 fun b e=> ?_)
  injection e with e
  subst e;intro e2;exact(h.d2 _ e2).1 rfl
 ·intro b e2
  rcases hn with hn|hn
  ·rw[hn]at e2;exact h.d1 _ e2
  ·rw[hn,bW]at e2
   injection e2 with e2
   refine⟨by omega,?_⟩;omega
 ·intro b e2 e3
  rcases hn with hn|hn
  ·rw[hn]at e2;exact h.d3 _ e2 e3
  ·rw[hn,bW]at e2
   injection e2 with e2
   have:=(h.v.lt _ e3).2;omega
theorem CD.putV{ob:Obj}{xs:List Int}(h:CD w W q a bs c k n g zl cg zs oo ko O ov kv V fi)(ho:w4.ownsRow (w.heap.size+1) 107 5 dP (kv+1) ((V++xs).map (ze zd)))(hg:(W.alloc ob).grownBy w4 ov.ownBlock)(hn:dP.ownBlock=ov.ownBlock∨dP.ownBlock=some (W.alloc ob).heap.size):CD w (w4.setCell ⟨k,3,none⟩ dP) q a bs c k n g zl cg zs oo ko O dP (kv+1) (V++xs) fi:=by
 obtain⟨h1,h2,h3,h4⟩:=h.h;have hk:=za2 h.b1;have hA:CD w (W.alloc ob) q a bs c k n g zl cg zs oo ko O ov kv V fi:=h.below (zP _);obtain⟨p,lH⟩:=hA.r;obtain⟨p0,cO⟩:=h.r0;have ld:∀b,ov.ownBlock=some b->w.heap.size<=b:=fun b e=>by have:=(h.v.lt b e).1;omega
 have kV:∀b,some k=some b->w.heap.size<=b:=fun b e=>by injection e with e;omega
 have hs:=zb3 w4 k 3 dP;have Ox:=h.glt;have r7:=RD.kept2 cO lH hg ld;have sV:=hA.o.kept hg (zi2 fun b e e2=>h.d3 b e2 e);have bW:(W.alloc ob).heap.size=W.heap.size+1:=by simp
 refine⟨zd2 (zd2 hA.gr hg ld) hs kV,h.r0,⟨p,RD.kept2 cO r7 hs kV⟩,?_,?_,h.h,?_,?_,?_,h.d1,?_,?_⟩
 ·exact za6 hs (za6 hg hA.b0 (fun e=>by have:=(h.v.lt _ e.symm).1;omega)) (fun e=>by injection e with e;omega)
 ·have:=ze1 (i:=3) dP (za6 hg hA.b1 (fun e=>(h.d2 _ e.symm).1 rfl))
  simpa using this
 ·exact zj7 (zj7 hA.i hg (fun e=>(h.d2 _ e.symm).2 rfl)) hs (fun e=>by injection e with e;omega)
 ·refine sV.kept hs (zi2 fun b e=> ?_)
  injection e with e
  subst e;intro e2;exact(h.d1 _ e2).1 rfl
 ·refine ho.kept hs (zi2 fun b e=> ?_)
  injection e with e
  subst e;intro e2;rcases hn with hn|hn
  ·rw[hn]at e2;exact(h.d2 _ e2).1 rfl
  ·rw[hn,bW]at e2;injection e2 with e2;omega
 ·intro b e2
  rcases hn with hn|hn
  ·rw[hn]at e2;exact h.d2 _ e2
  ·rw[hn,bW]at e2
   injection e2 with e2
   refine⟨by omega,?_⟩;omega
 ·intro b e3 e2
  rcases hn with hn|hn
  ·rw[hn]at e2;exact h.d3 _ e3 e2
  ·rw[hn,bW]at e2
   injection e2 with e2
   have:=(h.o.lt _ e3).2;omega
theorem CD.setF(x:Int)(h:CD w W q a bs c k n g zl cg zs oo ko O ov kv V fi):CD w (W.setCell ⟨k,4,none⟩ (ze zd x)) q a bs c k n g zl cg zs oo ko O ov kv V x:=by
 obtain⟨h1,h2,h3,h4⟩:=h.h;obtain⟨p,lH⟩:=h.r;obtain⟨p0,cO⟩:=h.r0;have hs:=zb3 W k 4 (ze zd x);have kV:∀b,some k=some b->w.heap.size<=b:=fun b e=>by injection e with e;omega
 refine⟨zd2 h.gr hs kV,h.r0,⟨p,RD.kept2 cO lH hs kV⟩,za6 hs h.b0 (fun e=>by injection e with e;omega),?_,h.h,zj7 h.i hs (fun e=>by injection e with e;omega),h.o.kept hs (zi2 fun b e e2=>by injection e with e;subst e;exact(h.d1 _ e2).1 rfl),h.v.kept hs (zi2 fun b e e2=>by injection e with e;subst e;exact(h.d2 _ e2).1 rfl),h.d1,h.d2,h.d3⟩;have:=ze1 (i:=4) (ze zd x) h.b1;simpa using this
theorem CD.setO{go co:Nat}(j:Nat)(x:Int)(h:CD w W q a bs c k n g zl cg zs (za (some ⟨go,0,none⟩) ko co) ko O ov kv V fi):CD w (W.setCell ⟨go,j,none⟩ (ze zd x)) q a bs c k n g zl cg zs (za (some ⟨go,0,none⟩) ko co) ko (O.set j x) ov kv V fi:=by
 obtain⟨h1,h2,h3,h4⟩:=h.h;obtain⟨p,lH⟩:=h.r;obtain⟨p0,cO⟩:=h.r0;have lE:=(h.o.lt go rfl).1;have hd:=h.d1 go rfl;have hs:=zb3 W go j (ze zd x);have kV:∀b,some go=some b->w.heap.size<=b:=fun b e=>by injection e with e;omega
 refine⟨zd2 h.gr hs kV,h.r0,⟨p,RD.kept2 cO lH hs kV⟩,za6 hs h.b0 (fun e=>by injection e with e;omega),za6 hs h.b1 (fun e=>by injection e with e;omega),h.h,zj7 h.i hs (fun e=>by injection e with e;omega),yi3 x h.o,h.v.kept hs (zi2 fun b e e2=>by injection e with e;subst e;exact h.d3 _ rfl e2),h.d1,h.d2,h.d3⟩
theorem CD.setV{gv cv:Nat}(j:Nat)(x:Int)(h:CD w W q a bs c k n g zl cg zs oo ko O (za (some ⟨gv,0,none⟩) kv cv) kv V fi):CD w (W.setCell ⟨gv,j,none⟩ (ze zd x)) q a bs c k n g zl cg zs oo ko O (za (some ⟨gv,0,none⟩) kv cv) kv (V.set j x) fi:=by
 obtain⟨h1,h2,h3,h4⟩:=h.h;obtain⟨p,lH⟩:=h.r;obtain⟨p0,cO⟩:=h.r0;have lE:=(h.v.lt gv rfl).1;have hd:=h.d2 gv rfl;have hs:=zb3 W gv j (ze zd x);have kV:∀b,some gv=some b->w.heap.size<=b:=fun b e=>by injection e with e;omega
 refine⟨zd2 h.gr hs kV,h.r0,⟨p,RD.kept2 cO lH hs kV⟩,za6 hs h.b0 (fun e=>by injection e with e;omega),za6 hs h.b1 (fun e=>by injection e with e;omega),h.h,zj7 h.i hs (fun e=>by injection e with e;omega),h.o.kept hs (zi2 fun b e e2=>by injection e with e;subst e;exact h.d3 _ e2 rfl),yi3 x h.v,h.d1,h.d2,h.d3⟩
end
theorem zF1(w:zi){ap:Array Oper}{rest:List Oper}{o:Oper}{a:Act}{Q:Exit->Act->zi->Prop}
 (hg:o.guard=none) (s x:Operand) (du:o.op=zI {callee:=zw zx,args:=#[s,x],argTypes:=#[24,24]})
 (base:Nat) (v:Value) (k:Nat) (xs:List Int) (hs:a.eval s=v) (ae:w.ownsRow base 2 1 v k (xs.map (ze zd))) (b c:Nat) (id:Int) (hx:a.eval x=za (some ⟨b,0,none⟩) 1 c)
 (hc:w.cell? ⟨b,0,none⟩=some (ze zd id)) (b1:k<=1000) (hb:base<=w.heap.size)
 (hK:∀v' w',w'.ownsRow base 2 1 v' (k+1) ((xs++[id]).map (ze zd))->w.grownBy w' v.ownBlock->(v'=za none 0 0↔v=za none 0 0/\1=0)->wpList zh ap Q rest (a.put o.dst v') w'):
 wpList zh ap Q (o::rest) a w:=by
 obtain⟨i0,hi,bR,ba,bS⟩:=zr4;refine wpList_append_own w hg s x _ du base _ i0 _ 1 8 qb hi bR ba bS rfl (by decide) v k _ hs ae ⟨b,0,none⟩ 1 c [ze zd id] hx rfl ?_ (by simp[zq]) (by unfold maxLen;omega) (by omega) hb (fun v' w' h1 h2 h3=>hK v' w' (by rw[x8];exact h1) h2 h3);intro j u hu;have hj:j=0:=by
  rcases j with _|j
  ·rfl
  ·simp at hu
 subst hj;have dI:(⟨b,0,none⟩:Zd).add 0=⟨b,0,none⟩:=by unfold zN;split<;>simp_all
 rw[dI,hc];simpa using hu
theorem z38(n fine ab:Int)(a ao av bi:Option Zd)(ac ko co kv cv c2:Nat)(zs os vs ids:List Int)(w:zi)(hA:za3 w a zs)(hO:za3 w ao os)(hV:za3 w av vs)(hI:za3 w bi ids)(an:os.length=ko*6)(au:vs.length=kv*5)(aA:ko<=9223372036854775807)(aB:kv<=9223372036854775807)(eX:ids.length<=9223372036854775807)(cw:ids.length<=c2)(v:Bool)(hv:decide (codeV (zd0 n zs os vs ko kv fine) n zs os vs ko kv ab ids=0)=v):
 Zc zh 86 #[.agg #[ze zd n,za a zs.length ac,za ao ko co,za av kv cv,ze zd fine],.agg #[ze zd ab,za bi ids.length c2]] w fun e w'=>e=.returned (.bool v)/\Za w.heap.size w w':=by
 have HA:=za4 hA;have HO:=za4 hO;have HV:=za4 hV;have HI:=za4 hI;have aF:Zb _:=an;have aE:Zb _:=au;clear hA hO hV hI an au;have et:Zb _:=hv;clear hv;have bt:Zb (CR w ((w.alloc (zg #[ze zd n,za a zs.length ac,za ao ko co,za av kv cv,ze zd fine] 30)).alloc (zg #[ze zd ab,za bi ids.length c2] 80)) _ _):=CR.new w _ _;go_enter Tryz.func86,Tryz.ntmps86;obtain⟨c0,c1,bZ,c3,c4⟩:=za7 bt.2.1;obtain⟨d0,d1⟩:=za1 bt.2.2
 go_wp2_with fail
 clear c0 c1 bZ c3 c4 d0 d1;refine(zB4 n fine ab a ao av bi ac ko co kv cv c2 zs os vs ids _ (HA.below bt.1) (HO.below bt.1) (HV.below bt.1) (HI.below bt.1) aF.X aE.X aA aB eX cw).mono ?_;rintro e w2 ⟨hb,⟨hf,rfl⟩|⟨hf,g,c,_,rfl,_⟩⟩
 ·have fY:Zb _:=bt.1.trans (hb.mono bt.1.size)
  have Hs:Zb _:=et.symm.trans (zX hf);generalize codeV (zd0 n zs os vs ko kv fine) n zs os vs ko kv ab ids=r at*;have I_:(r==0)=false:=by simp[hf]
  clear hb hf bt et;go_wp2;go_ret;exact⟨zb6 Hs.symm,fY.X⟩
 ·have fY:Zb _:=bt.1.trans (hb.mono bt.1.size)
  have Hs:Zb _:=et.symm.trans (zW hf);clear hb hf bt et;generalize homeV n zs (zd6 os ko ids) ids.length (zc4 vs kv ab 1) (zc4 vs kv ab 3)=hm;go_wp2;go_ret;exact⟨zb6 Hs.symm,fY.X⟩
theorem zs8(n fine ab:Int)(a ao av bi:Option Zd)(ac ko co kv cv c2:Nat)(zs os vs ids:List Int)(w:zi)(hA:za3 w a zs)(hO:za3 w ao os)(hV:za3 w av vs)(hI:za3 w bi ids)(an:os.length=ko*6)(au:vs.length=kv*5)(aA:ko<=9223372036854775807)(aB:kv<=9223372036854775807)(eX:ids.length<=9223372036854775807)(aG:codeV (zd0 n zs os vs ko kv fine) n zs os vs ko kv ab ids=0):
 Zc zh 89 #[.agg #[ze zd n,za a zs.length ac,za ao ko co,za av kv cv,ze zd fine],.agg #[ze zd ab,za bi ids.length c2]] w fun e w'=>e=.returned (ze zd (zq7 n zs (zd6 os ko ids) ids.length (zc4 vs kv ab 1)))/\Za w.heap.size w w':=by
 have HA:=za4 hA;have HO:=za4 hO;have HV:=za4 hV;have HI:=za4 hI;have aF:Zb _:=an;have aE:Zb _:=au;clear hA hO hV hI an au;have bt:Zb (CR w ((w.alloc (zg #[ze zd n,za a zs.length ac,za ao ko co,za av kv cv,ze zd fine] 30)).alloc (zg #[ze zd ab,za bi ids.length c2] 80)) _ _):=CR.new w _ _;obtain⟨iZ,_,mX⟩:=zf3 (zg8 aG).1;obtain⟨cC,b_,ce,aZ,_⟩:=zb2 iZ;have eW:=zr5 ce aZ ab;have db:Zb _:=cC;have nV:Zb _:=b_;have my:=za4 aZ;have bJ:=(zg3 mX).1;clear cC b_ ce aZ iZ mX aG;obtain⟨r,cm⟩:=nmd (zq7 n zs (zd6 os ko ids) ids.length (zc4 vs kv ab 1));rw[cm.X];go_enter Tryz.func89,Tryz.ntmps89;obtain⟨c0,c1,bZ,c3,c4⟩:=za7 bt.2.1;obtain⟨d0,d1⟩:=za1 bt.2.2
 go_wp2_with fail
 clear c0 c1 bZ c3 c4 d0 d1;refine(zI9 n fine ab a ao av _ ac ko co kv cv vs _ (HV.below bt.1) aE.X aB).mono ?_;rintro e w2 ⟨rfl,hb⟩;obtain⟨v0,G0⟩:=nmd (zc4 vs kv ab 0);obtain⟨v1,G1⟩:=nmd (zc4 vs kv ab 1);obtain⟨v2,G2⟩:=nmd (zc4 vs kv ab 2);obtain⟨v3,G3⟩:=nmd (zc4 vs kv ab 3);obtain⟨v4,G4⟩:=nmd (zc4 vs kv ab 4);rw[G1.X,G2.X,G3.X,G4.X]at eW;rw[G1.X]at cm;rw[G0.X,G1.X,G2.X,G3.X,G4.X];generalize fnd5T vs kv ab=tv;have jw:Zb _:=eW.1;clear eW;have C3:Zb (CR w (w2.alloc (zg #[ze zd v0,ze zd v1,ze zd v2,ze zd v3,ze zd v4] 107)) _ _):=CR.alloc (bt.below hb) _;have fE:Zb ((w2.alloc (zg #[ze zd v0,ze zd v1,ze zd v2,ze zd v3,ze zd v4] 107)).heap[w2.heap.size]? =_):=zS _ _;clear hb bt;obtain⟨q0,q1,q2,q3,q4⟩:=za7 fE.X
 go_wp2_with fail
 clear q0 q1 q2 q3 q4;generalize w2.alloc _=W2 at*;generalize w2.heap.size=gv at*;have dG:Zb (z61 n (zd6 os ko ids) ids.length):=z55 nV.X my.X ids;go_loopw[7,8,9] (fun pl sm t wr=>∃k:Nat,k<=ids.length/\t=ze zd k/\pl=ze zd (plc (zd6 os ko ids) v1 k)/\sm=ze zd (zr1 n zs (zd6 os ko ids) v1 k)/\CR w wr #[ze zd n,za a zs.length ac,za ao ko co,za av kv cv,ze zd fine] #[ze zd ab,za bi ids.length c2]/\wr.heap[gv]? =some (zg #[ze zd v0,ze zd v1,ze zd v2,ze zd v3,ze zd v4] 107 (0,0))) (fun _ _ t _=>ids.length - (intOf t).toNat)
 case atStart=>exact⟨0,xi _,rfl,rfl,rfl,C3.X,fE.X⟩
 case round=>
  clear C3 fE;obtain⟨k,hk,rfl,rfl,rfl,hb,jz⟩:=hrel;have aT:=zY7 dG.X jw.1 jw.2 k hk;have iZ:=z51 (ros:=(zd6 os ko ids)) (home:=v1) db.X k;have HB:=za4 hb;have bC:=za4 jz;obtain⟨c0,c1,bZ,c3,c4⟩:=za7 hb.2.1;obtain⟨d0,d1⟩:=za1 hb.2.2;obtain⟨p,bm⟩:=nmd (plc (zd6 os ko ids) v1 k);obtain⟨f,eZ⟩:=nmd (zr1 n zs (zd6 os ko ids) v1 k);rw[bm.X]at aT;rw[eZ.X]at iZ;rw[bm.X,eZ.X];have mz:Zb _:=aT;clear hb jz aT;by_cases ah:k<ids.length
  ·obtain⟨b,off,rfl,aJ⟩:=za3.some (za3.below HI.X HB.1) ah
   have ct:=aJ k ah;clear aJ;obtain⟨id,bH⟩:=nmd (ids.getD k 0);rw[bH.X]at ct;have fq:=(zQ1 nV.X my.X id).1;obtain⟨o0,H0⟩:=nmd (zd1 os ko id 0);obtain⟨o1,H1⟩:=nmd (zd1 os ko id 1);obtain⟨o2,H2⟩:=nmd (zd1 os ko id 2);obtain⟨o3,H3⟩:=nmd (zd1 os ko id 3);obtain⟨o4,H4⟩:=nmd (zd1 os ko id 4);obtain⟨o5,H5⟩:=nmd (zd1 os ko id 5);rw[H1.X]at fq;have fq:Zb _:=fq;obtain⟨d,HD⟩:=nmd (tmI n zs p o1);have ki:=zx8 db.X p o1;rw[HD.X]at ki;have K1:Zb (og6 (zd6 os ko ids) k 1=o1):=(zj8 os ko ids ah (by omega)).trans (by rw[bH.X];exact H1.X);have a8:Zb (zr1 n zs (zd6 os ko ids) v1 (k+1)=f+d):=by
    show _=_;simp only[zr1];rw[eZ.X,bm.X,K1.X,HD.X]
   obtain⟨tt,eO⟩:=nmd (zl8 os ko id)
   go_wp2_with fail
   have ig:=za4 ct;have il:Zb ((wr.alloc (zg #[ze zd 0,ze zd 0,ze zd 0,ze zd 0,ze zd 0,ze zd 0] 103)).cell? ⟨b,off+k,none⟩=_):=(((y5 wr.heap.size wr).alloc (zT _) _).cell (p:=⟨b,off+k,none⟩) (zV ct)).trans ct;have kX:Zb ((wr.alloc (zg #[ze zd 0,ze zd 0,ze zd 0,ze zd 0,ze zd 0,ze zd 0] 103)).heap[gv]? =_):=(xg _ _ (za2 bC.X)).trans bC.X;have cM:=zV ct;simp at cM;have aD:=za2 HB.2.1;have dU:=za2 HB.2.2
   go_region_held3 (fun W=>W.cell? ⟨w.heap.size,0,none⟩=some (ze zd n)/\W.cell? ⟨w.heap.size,1,none⟩=some (za a zs.length ac)/\W.cell? ⟨w.heap.size,2,none⟩=some (za ao ko co)/\W.cell? ⟨w.heap.size,3,none⟩=some (za av kv cv)/\W.cell? ⟨w.heap.size,4,none⟩=some (ze zd fine)/\W.cell? ⟨w.heap.size+1,1,none⟩=some (za (some ⟨b,off,none⟩) ids.length c2)/\W.cell? ⟨b,off+k,none⟩=some (ze zd id)) (first|with_reducible exact kS|with_reducible exact⟨(za5 (za5 (za5 (za5 (za5 (za5 kS.1 (y8 aD)) (y8 aD)) (y8 aD)) (y8 aD)) (y8 aD)) (y8 aD)),(za5 (za5 (za5 (za5 (za5 (za5 kS.2.1 (y8 aD)) (y8 aD)) (y8 aD)) (y8 aD)) (y8 aD)) (y8 aD)),(za5 (za5 (za5 (za5 (za5 (za5 kS.2.2.1 (y8 aD)) (y8 aD)) (y8 aD)) (y8 aD)) (y8 aD)) (y8 aD)),(za5 (za5 (za5 (za5 (za5 (za5 kS.2.2.2.1 (y8 aD)) (y8 aD)) (y8 aD)) (y8 aD)) (y8 aD)) (y8 aD)),(za5 (za5 (za5 (za5 (za5 (za5 kS.2.2.2.2.1 (y8 aD)) (y8 aD)) (y8 aD)) (y8 aD)) (y8 aD)) (y8 aD)),(za5 (za5 (za5 (za5 (za5 (za5 kS.2.2.2.2.2.1 (y8 dU)) (y8 dU)) (y8 dU)) (y8 dU)) (y8 dU)) (y8 dU)),(za5 (za5 (za5 (za5 (za5 (za5 kS.2.2.2.2.2.2 (y8 cM)) (y8 cM)) (y8 cM)) (y8 cM)) (y8 cM)) (y8 cM))⟩|go_keep) ((first
    |(go_at_call 88
      with_reducible refine(zr6 n fine id a ao av _ ac ko co kv cv os wr.drew ?_ aF.X aA).mono ?_
      ·exact HO.below HB.1.drew
      rintro e w2 ⟨rfl,aC⟩;rw[H0.X,H1.X,H2.X,H3.X,H4.X,H5.X,eO.X];have aS:=CR.below (CR.drew HB.X) aC;obtain⟨k0,k1,k2,k3,k4⟩:=za7 aS.2.1;have k5:=(za1 aS.2.2).2;have k6:=(aC.cell (p:=⟨b,off+k,none⟩) (zV ig.X)).trans ig.X;have kS:=xr k0 (xr k1 (xr k2 (xr k3 (xr k4 (xr k5 k6)))));have fD:=za4 aS;have fu:=za4 (za0 aC (za2 bC.X) bC.X);clear aC aS k0 k1 k2 k3 k4 k5 k6)
    |(go_at_call 88
      with_reducible refine(zr6 n fine id a ao av _ ac ko co kv cv os (wr.alloc (zg #[ze zd 0,ze zd 0,ze zd 0,ze zd 0,ze zd 0,ze zd 0] 103)).drew ?_ aF.X aA).mono ?_
      ·exact HO.below (CR.alloc HB.X (zg #[ze zd 0,ze zd 0,ze zd 0,ze zd 0,ze zd 0,ze zd 0] 103)).1.drew
      rintro e w2 ⟨rfl,aC⟩;rw[H0.X,H1.X,H2.X,H3.X,H4.X,H5.X,eO.X];have aS:=CR.below (CR.drew (CR.alloc HB.X (zg #[ze zd 0,ze zd 0,ze zd 0,ze zd 0,ze zd 0,ze zd 0] 103))) aC;obtain⟨k0,k1,k2,k3,k4⟩:=za7 aS.2.1;have k5:=(za1 aS.2.2).2;have k6:=(aC.cell (p:=⟨b,off+k,none⟩) (zV il.X)).trans il.X;have kS:=xr k0 (xr k1 (xr k2 (xr k3 (xr k4 (xr k5 k6)))));have fD:=za4 aS;have fu:=za4 (za0 aC (za2 kX.X) kX.X);obtain⟨z0,z1,z2,z3,z4,z5⟩:=zi0 (za0 aC (k:=wr.heap.size) (by simp) (zS wr (zg #[ze zd 0,ze zd 0,ze zd 0,ze zd 0,ze zd 0,ze zd 0] 103)));have zf:=fun i=>yZ _ _ i _ _ (za0 aC (k:=wr.heap.size) (by simp) (zS wr (zg #[ze zd 0,ze zd 0,ze zd 0,ze zd 0,ze zd 0,ze zd 0] 103)))
      have lU:Zb (w2.heap[wr.heap.size]? =_):=za0 aC (k:=wr.heap.size) (by simp) (zS wr (zg #[ze zd 0,ze zd 0,ze zd 0,ze zd 0,ze zd 0,ze zd 0] 103));clear aC aS k0 k1 k2 k3 k4 k5 k6)))
   all_goals(first
    |(have eh:Zb (CR w (zj (zj (zj (zj (zj (zj w2 ⟨wr.heap.size,0,none⟩ (ze zd o0)) ⟨wr.heap.size,1,none⟩ (ze zd o1)) ⟨wr.heap.size,2,none⟩ (ze zd o2)) ⟨wr.heap.size,3,none⟩ (ze zd o3)) ⟨wr.heap.size,4,none⟩ (ze zd o4)) ⟨wr.heap.size,5,none⟩ (ze zd o5)) _ _):=CR.set (CR.set (CR.set (CR.set (CR.set (CR.set fD.X HB.big) HB.big) HB.big) HB.big) HB.big) HB.big
      have k_:Zb ((zj (zj (zj (zj (zj (zj w2 ⟨wr.heap.size,0,none⟩ (ze zd o0)) ⟨wr.heap.size,1,none⟩ (ze zd o1)) ⟨wr.heap.size,2,none⟩ (ze zd o2)) ⟨wr.heap.size,3,none⟩ (ze zd o3)) ⟨wr.heap.size,4,none⟩ (ze zd o4)) ⟨wr.heap.size,5,none⟩ (ze zd o5)).heap[gv]? =_):=za8 (za8 (za8 (za8 (za8 (za8 fu.X (y8 (za2 bC.X))) (y8 (za2 bC.X))) (y8 (za2 bC.X))) (y8 (za2 bC.X))) (y8 (za2 bC.X))) (y8 (za2 bC.X));have bF:Zb ((zj (zj (zj (zj (zj (zj w2 ⟨wr.heap.size,0,none⟩ (ze zd o0)) ⟨wr.heap.size,1,none⟩ (ze zd o1)) ⟨wr.heap.size,2,none⟩ (ze zd o2)) ⟨wr.heap.size,3,none⟩ (ze zd o3)) ⟨wr.heap.size,4,none⟩ (ze zd o4)) ⟨wr.heap.size,5,none⟩ (ze zd o5)).heap[wr.heap.size]? =_):=zT2 lU.X;clear kS fD fu lU ig il kX ct z0 z1 z2 z3 z4 z5 zf;generalize(zj (zj (zj (zj (zj (zj w2 ⟨wr.heap.size,0,none⟩ (ze zd o0)) ⟨wr.heap.size,1,none⟩ (ze zd o1)) ⟨wr.heap.size,2,none⟩ (ze zd o2)) ⟨wr.heap.size,3,none⟩ (ze zd o3)) ⟨wr.heap.size,4,none⟩ (ze zd o4)) ⟨wr.heap.size,5,none⟩ (ze zd o5))=W at*;generalize wr.heap.size=g at*)
    |(have eh:Zb (CR w (w2.alloc (zg #[ze zd o0,ze zd o1,ze zd o2,ze zd o3,ze zd o4,ze zd o5] 103)) _ _):=CR.alloc fD.X _
      have k_:Zb ((w2.alloc (zg #[ze zd o0,ze zd o1,ze zd o2,ze zd o3,ze zd o4,ze zd o5] 103)).heap[gv]? =_):=(xg _ _ (za2 fu.X)).trans fu.X;have bF:Zb ((w2.alloc (zg #[ze zd o0,ze zd o1,ze zd o2,ze zd o3,ze zd o4,ze zd o5] 103)).heap[w2.heap.size]? =_):=zS _ _;clear kS fD fu ig il kX ct;generalize w2.alloc _=W at*;generalize w2.heap.size=g at*))
   all_goals
    clear c0 c1 bZ c3 c4 d0 d1 aD dU cM eO;generalize tt=tt';obtain⟨c0,c1,bZ,c3,c4⟩:=za7 eh.2.1;obtain⟨p0,p1,p2,p3,p4,p5⟩:=zi0 bF.X
    go_wp2_with fail
    clear c0 c1 bZ c3 c4 p0 p1 p2 p3 p4 p5;refine(zz8 n p o1 _ _ zs _ d HD.X db.X mz.X fq.X (HA.below eh.1)).mono ?_;rintro e W3 ⟨rfl,cG⟩;have ui:=za4 (eh.below cG);have fE:=za4 (za0 cG (za2 k_.X) k_.X);have uX:=za4 (za0 cG (za2 bF.X) bF.X);clear cG eh k_ bF;obtain⟨p0,p1,p2,p3,p4,p5⟩:=zi0 uX.X;go_wp2;go_roundw
    case rel=>exact⟨k+1,by omega,by go_num,by rw[<-K1.X];rfl,by rw[a8.X],ui.X,fE.X⟩
    case measure=>simp[intOf];omega
  ·have bz:k=ids.length:=by omega
   obtain⟨q0,q1,q2,q3,q4⟩:=za7 bC.X;have HE:Zb (r=f+tmI n zs p v1):=by
    have:=cm.X;unfold zq7 at this;rw[<-bz,eZ.X,bm.X]at this;exact this.symm
   clear bz;obtain⟨d,HD⟩:=nmd (tmI n zs p v1);have ki:=zx8 db.X p v1;rw[HD.X]at ki HE
   go_wp2_with fail
   refine(zz8 n p v1 _ _ zs _ d HD.X db.X mz.X jw.X (HA.below HB.1)).mono ?_;rintro e W3 ⟨rfl,cG⟩;have lJ:Zb _:=HB.1.trans (cG.mono HB.1.size);clear cG;go_wp2;go_ret;exact⟨zl1 HE.symm,lJ.X⟩
theorem yz3{n fi:Int}{zs O V:List Int}{ko kv:Nat}(h:zd0 n zs O V ko kv fi=true):∀x∈yv3 O ko,-9223372036854775808<=x/\x<9223372036854775808:=fun x hx=>by
 unfold zd0 at h;simp only[zY]at h;obtain⟨_,ht⟩:=zd9 h.1.1.2;unfold yv3 at hx;obtain⟨i,hi,rfl⟩:=yF.1 hx;have:=(ht i (List.mem_range.1 hi)).1;unfold zG3 inB at this;simp only[zY,qh]at this;omega
theorem yh1(n fine:Int)(a ao av bi:Option Zd)(ac ko co kv cv c2:Nat)(zs os ids:List Int)(w:zi)(hO:za3 w ao os)(hI:za3 w bi ids)(an:os.length=ko*6)(aA:ko<=9223372036854775807)(eX:ids.length<=9223372036854775807)(cw:ids.length<=c2):
 Zc zh 149 #[.agg #[ze zd n,za a zs.length ac,za ao ko co,za av kv cv,ze zd fine],za bi ids.length c2] w fun e w'=>Za w.heap.size w w'/\((zp2 os ko ids=false/\e=.returned (.tuple #[za none 0 0,.bool false]))∨(zp2 os ko ids=true/\e=.returned (.tuple #[za (some ⟨w.heap.size+1,0,none⟩) ids.length ids.length,.bool true])/\za3 w' (some ⟨w.heap.size+1,0,none⟩) (zd6 os ko ids))):=by
 have HO:=za4 hO;have HI:=za4 hI;have aF:Zb _:=an;clear hO hI an;have aU:Zb (Za w.heap.size w (w.alloc (zg #[ze zd n,za a zs.length ac,za ao ko co,za av kv cv,ze zd fine] 30))):=zP _;have kd:Zb ((w.alloc (zg #[ze zd n,za a zs.length ac,za ao ko co,za av kv cv,ze zd fine] 30)).heap[w.heap.size]? =_):=zS _ _;by_cases bJ:ids.length<=12
 ·go_enter Tryz.func149,Tryz.ntmps149
  go_wp2_with(first
   |(at_make;refine yc2 _ rfl _ _ rfl (w.heap.size+1) zd zd _ ids.length rfl rfl rfl (by omega) (by simp) ?_;intro w1 hown0 hgrow0))
  have eD:Zb _:=aU.grown hgrow0 aU.size (fun k e=>by cases e);have rC:Zb (w1.heap[w.heap.size]? =_):=za6 hgrow0 kd.X (by simp);have Jv:Zb (w1.ownsRow (w.heap.size+1) 103 6 (za (some ⟨w.heap.size+1,0,none⟩) 0 ids.length) 0 []):=by
   show w1.ownsRow _ _ _ _ _ _;simpa using hown0
  clear hown0 hgrow0 aU kd;go_loopw[6,19] (fun sl t wr=>∃k:Nat,k<=ids.length/\t=ze zd k/\sl=za (some ⟨w.heap.size+1,0,none⟩) k ids.length/\zu4 os ko ids k/\Za w.heap.size w wr/\wr.heap[w.heap.size]? =some (zg #[ze zd n,za a zs.length ac,za ao ko co,za av kv cv,ze zd fine] 30 (0,0))/\wr.ownsRow (w.heap.size+1) 103 6 (za (some ⟨w.heap.size+1,0,none⟩) k ids.length) k (((zd6 os ko ids).take (k*6)).map (ze zd))) (fun _ t _=>ids.length - (intOf t).toNat)
  case atStart=>exact⟨0,xi _,rfl,rfl,zA2 _ _ _,eD.X,rC.X,by simpa using Jv.X⟩
  case round=>
   clear eD rC Jv;obtain⟨k,hk,rfl,rfl,Br,hb,hp,hw⟩:=hrel;have HT:=za4 Br;have HB:Zb _:=hb;have HP:=za4 hp;have HW:=za4 hw;obtain⟨c0,c1,bZ,c3,c4⟩:=za7 hp;clear Br hb hp hw;by_cases ah:k<ids.length
   ·obtain⟨b,off,rfl,aJ⟩:=za3.some (za3.below HI.X HB.X) ah
    have ct:=aJ k ah;clear aJ;obtain⟨id,bH⟩:=nmd (ids.getD k 0);rw[bH.X]at ct;have oR:k<=c2:=by omega
    obtain⟨o0,H0⟩:=nmd (zd1 os ko id 0);obtain⟨o1,H1⟩:=nmd (zd1 os ko id 1);obtain⟨o2,H2⟩:=nmd (zd1 os ko id 2);obtain⟨o3,H3⟩:=nmd (zd1 os ko id 3);obtain⟨o4,H4⟩:=nmd (zd1 os ko id 4);obtain⟨o5,H5⟩:=nmd (zd1 os ko id 5);obtain⟨tt,eO⟩:=nmd (zl8 os ko id)
    go_wp2_with fail
    refine(z35 n fine id a ao av _ ac ko co kv cv os _ (HO.below HB.X) aF.X aA).mono ?_;rintro e w2 ⟨rfl,aC⟩;rw[H0.X,H1.X,H2.X,H3.X,H4.X,H5.X,eO.X];have fY:Zb (Za w.heap.size w (w2.alloc (zg #[ze zd o0,ze zd o1,ze zd o2,ze zd o3,ze zd o4,ze zd o5] 103))):=(HB.trans (aC.mono HB.size)).alloc (xj HB.size aC.size) _;have eR:Zb ((w2.alloc (zg #[ze zd o0,ze zd o1,ze zd o2,ze zd o3,ze zd o4,ze zd o5] 103)).heap[w.heap.size]? =_):=(xg _ _ (za2 (za0 aC (za2 HP.X) HP.X))).trans (za0 aC (za2 HP.X) HP.X);have Ni:Zb ((w2.alloc (zg #[ze zd o0,ze zd o1,ze zd o2,ze zd o3,ze zd o4,ze zd o5] 103)).ownsRow _ _ _ _ _ _):=(zb9 HW.X aC).alloc _;have iO:Zb ((w2.alloc (zg #[ze zd o0,ze zd o1,ze zd o2,ze zd o3,ze zd o4,ze zd o5] 103)).heap[w2.heap.size]? =_):=zS _ _;obtain⟨p0,p1,p2,p3,p4,p5⟩:=zi0 iO.X;clear aC c0 c1 bZ c3 c4 ct;cases tt
    ·have HN:Zb _:=zz6 ah (zz7 bH.X eO.X rfl)
     go_wp2;go_ret2;exact⟨fY.X,.inl ⟨HN.X,rfl⟩⟩
    ·obtain⟨hh,HH⟩:=nmd (z02 ids k id)
     cases hh
     ·have d_:Zb (zu4 os ko ids (k+1)):=zA1 HT.X (zz7 bH.X eO.X HH.X)
      go_wp2_with(first
       |(go_at_call 178;refine(zA5 _ k _ id ids _ (HI.below fY.X) hk (by omega)).mono ?_;rintro e w3 ⟨rfl,rfl⟩;rw[HH.X])
       |(at_builtin;refine zO9 _ rfl _ _ rfl (w.heap.size+1) (w.heap.size+1) k ids.length _ rfl (Ni.alloc _) _ 1 1 [ze zd o0,ze zd o1,ze zd o2,ze zd o3,ze zd o4,ze zd o5] rfl rfl (yr0 _ _ _ _ _ _ _ _ _ (by simp)) (by simp[zq]) (by omega) ?_;intro w4 hown4 aI))
      have aq:some w.heap.size≠some (w.heap.size+1):=by simp
      refine⟨⟨k+1,by omega,by go_num,rfl,d_.X,(fY.alloc fY.size _).grown aI (xj fY.size (by simp)) (fun j e=>by cases e;omega),za6 aI ((xg _ _ (za2 eR.X)).trans eR.X) (by simp),?_⟩,by simp[intOf];omega⟩;rw[y34 os ko ids ah bH.X H0.X H1.X H2.X H3.X H4.X H5.X]at hown4;exact hown4
     ·have HN:Zb _:=zz6 ah (zz7 bH.X eO.X HH.X)
      go_wp2_with(first
       |(go_at_call 178;refine(zA5 _ k _ id ids _ (HI.below fY.X) hk (by omega)).mono ?_;rintro e w3 ⟨rfl,rfl⟩;rw[HH.X]))
      go_ret2;exact⟨fY.X,.inl ⟨HN.X,rfl⟩⟩
   ·have bz:k=ids.length:=by omega
    have HN:Zb _:=z71 bJ (bz▸HT.X);subst bz;go_wp2;go_ret2;refine⟨HB.X,.inr ⟨HN.X,rfl,?_⟩⟩;have:=HW.X;rw[xF (by rw[zj2];omega)]at this;exact zd4 this
 ·have HN:Zb (zp2 os ko ids=false):=zF4 bJ
  go_enter Tryz.func149,Tryz.ntmps149;go_wp2;go_ret2;exact⟨aU.X,.inl ⟨HN.X,rfl⟩⟩
def CRT(w W:zi)(cs rs ts:Array Value):Prop:=CR w W cs rs/\W.heap[w.heap.size+2]? =some (.cells ts 119 (0,0))
theorem CRT.new(w:zi)(cs rs ts:Array Value):CRT w (((w.alloc (.cells cs 30)).alloc (.cells rs 80)).alloc (.cells ts 119)) cs rs ts:=by
 refine⟨(CR.new w cs rs).alloc _,?_⟩;have:=zS ((w.alloc (.cells cs 30)).alloc (.cells rs 80)) (.cells ts 119);simpa using this
theorem CRT.below{w W W':zi}{cs rs ts:Array Value}(h:CRT w W cs rs ts)(hb:Za W.heap.size W W'):CRT w W' cs rs ts:=
 ⟨h.1.below hb,za0 hb (za2 h.2) h.2⟩
theorem CRT.b{w W:zi}{cs rs ts:Array Value}(h:CRT w W cs rs ts):Za w.heap.size w W:=h.1.1
theorem CRT.alloc{w W:zi}{cs rs ts:Array Value}(h:CRT w W cs rs ts)(o:Obj):CRT w (W.alloc o) cs rs ts:=h.below (zP _)
theorem zK2(n fine ab:Int)(a ao av bi:Option Zd)(ac ko co kv cv c2:Nat)(zs os vs ids:List Int)(w:zi)(hA:za3 w a zs)(hO:za3 w ao os)(hV:za3 w av vs)(hI:za3 w bi ids)(an:os.length=ko*6)(au:vs.length=kv*5)(aA:ko<=9223372036854775807)(aB:kv<=9223372036854775807)(eX:ids.length<=9223372036854775807)(cw:ids.length<=c2)(bU:zd0 n zs os vs ko kv fine=true):
 Zc zh 116 #[.agg #[ze zd n,za a zs.length ac,za ao ko co,za av kv cv,ze zd fine],.agg #[ze zd ab,za bi ids.length c2]] w fun e w'=>Za w.heap.size w w'/\((zm7 true vs os kv ko ab ids≠0/\e=.returned (.tuple #[.agg #[ze zd 0,za none 0 0,ze zd 0,ze zd 0,ze zd 0,ze zd 0,ze zd 0,za none 0 0],ze zd (zm7 true vs os kv ko ab ids)]))∨(zm7 true vs os kv ko ab ids=0/\∃g,w.heap.size<=g/\e=.returned (.tuple #[.agg #[ze zd n,za a zs.length ac,ze zd (zc4 vs kv ab 0),ze zd (zc4 vs kv ab 1),ze zd (zc4 vs kv ab 2),ze zd (zc4 vs kv ab 3),ze zd (zc4 vs kv ab 4),za (some ⟨g,0,none⟩) ids.length ids.length],ze zd 0])/\za3 w' (some ⟨g,0,none⟩) (zd6 os ko ids))):=by
 have HA:=za4 hA;have HO:=za4 hO;have HV:=za4 hV;have HI:=za4 hI;have aF:Zb _:=an;have aE:Zb _:=au;clear hA hO hV hI an au;have HC:Zb _:=bU;clear bU;have bt:Zb (CRT w (((w.alloc (zg #[ze zd n,za a zs.length ac,za ao ko co,za av kv cv,ze zd fine] 30)).alloc (zg #[ze zd ab,za bi ids.length c2] 80)).alloc (zg #[ze zd 0,za none 0 0,ze zd 0,ze zd 0,ze zd 0,ze zd 0,ze zd 0,za none 0 0] 119)) _ _ _):=CRT.new w _ _ _;obtain⟨r,HR⟩:=nmd (zm7 true vs os kv ko ab ids);rw[HR.X];go_enter Tryz.func116,Tryz.ntmps116;obtain⟨c0,c1,bZ,c3,c4⟩:=za7 bt.X.1.2.1;obtain⟨d0,d1⟩:=za1 bt.X.1.2.2
 go_wp2_with fail
 clear c0 c1 bZ c3 c4 d0 d1;refine(zE2 n fine ab a ao av _ ac ko co kv cv vs _ (HV.X.below bt.X.1.1) aE.X aB).mono ?_;rintro e w2 ⟨rfl,hb⟩;obtain⟨v0,G0⟩:=nmd (zc4 vs kv ab 0);obtain⟨v1,G1⟩:=nmd (zc4 vs kv ab 1);obtain⟨v2,G2⟩:=nmd (zc4 vs kv ab 2);obtain⟨v3,G3⟩:=nmd (zc4 vs kv ab 3);obtain⟨v4,G4⟩:=nmd (zc4 vs kv ab 4);rw[G0.X,G1.X,G2.X,G3.X,G4.X];have C2:Zb (CRT w (w2.alloc (zg #[ze zd v0,ze zd v1,ze zd v2,ze zd v3,ze zd v4] 107)) _ _ _):=(bt.X.below hb).alloc _;have fu:Zb ((w2.alloc (zg #[ze zd v0,ze zd v1,ze zd v2,ze zd v3,ze zd v4] 107)).heap[w2.heap.size]? =_):=zS _ _;clear hb bt;obtain⟨t0,t1,t2,t3,t4,t5,t6,t7⟩:=zk4 C2.X.2;have tf:=fun i=>yZ _ _ i _ _ C2.X.2;cases ht:fnd5T vs kv ab
 ·have cm:Zb _:=HR.X.symm.trans (yx7 rfl ht)
  go_wp2;refine xe (v:=.tuple #[.agg #[ze zd 0,za none 0 0,ze zd 0,ze zd 0,ze zd 0,ze zd 0,ze zd 0,za none 0 0],ze zd 2]) (by simp[results,Tryz.results116,go_sem,t0,t1,t2,t3,t4,t5,t6,t7]) rfl ⟨?_,.inl ⟨by rw[cm.X];decide,by rw[cm.X]⟩⟩
  repeat(first|with_reducible exact C2.X.b|refine xq ?_ (by simp<;>omega) _)
 ·have m':Zb _:=ht
  clear ht;obtain⟨c0,c1,bZ,c3,c4⟩:=za7 C2.X.1.2.1;obtain⟨d0,d1⟩:=za1 C2.X.1.2.2
  go_wp2_with fail
  clear c0 c1 bZ c3 c4 d0 d1 t0 t1 t2 t3 t4 t5 t6 t7 tf;generalize w2.alloc _=W2 at*;generalize w2.heap.size=gv at*;refine(yh1 n fine a ao av bi ac ko co kv cv c2 zs os ids W2 (HO.X.below C2.X.1.1) (HI.X.below C2.X.1.1) aF.X aA eX cw).mono ?_;rintro e w3 ⟨hb,⟨bB,rfl⟩|⟨bB,rfl,ex⟩⟩
  ·have C3:Zb (CRT w w3 _ _ _):=C2.X.below hb
   have cm:Zb _:=HR.X.symm.trans (zT9 rfl m'.X bB);obtain⟨t0,t1,t2,t3,t4,t5,t6,t7⟩:=zk4 C3.X.2;have tf:=fun i=>yZ _ _ i _ _ C3.X.2;clear hb bB;go_wp2;refine xe (v:=.tuple #[.agg #[ze zd 0,za none 0 0,ze zd 0,ze zd 0,ze zd 0,ze zd 0,ze zd 0,za none 0 0],ze zd 3]) (by simp[results,Tryz.results116,go_sem,t0,t1,t2,t3,t4,t5,t6,t7]) rfl ⟨?_,.inl ⟨by rw[cm.X];decide,by rw[cm.X]⟩⟩
   repeat(first|with_reducible exact C3.X.b|refine xq ?_ (by simp<;>omega) _)
  ·have dD:Zb _:=bB
   have C3:=za4 (C2.X.below hb);have fE:=za4 (za0 hb (za2 fu.X) fu.X);have fa:=za4 ex;have cB:Zb (w.heap.size+2<W2.heap.size+1):=Nat.lt_succ_of_lt (za2 C2.X.2);clear hb bB ex C2 fu;generalize W2.heap.size+1=gr at*;obtain⟨q0,q1,q2,q3,q4⟩:=za7 fE.X;obtain⟨cC,b_,ce,aZ,_⟩:=zb2 HC.X;have bE:=(zr5 ce aZ ab).2.1;rw[G2.X]at bE;have nV:Zb _:=b_;have my:Zb _:=aZ;clear cC b_ ce aZ;have bJ:=(zg3 dD.X).1
   go_wp2_with fail
   clear q0 q1 q2 q3 q4;go_loopw[9,36] (fun rm t wr=>∃k:Nat,k<=ids.length/\t=ze zd k/\rm=ze zd (v2 - zn0 os ko ids k)/\CRT w wr #[ze zd n,za a zs.length ac,za ao ko co,za av kv cv,ze zd fine] #[ze zd ab,za bi ids.length c2] #[ze zd 0,za none 0 0,ze zd 0,ze zd 0,ze zd 0,ze zd 0,ze zd 0,za none 0 0]/\wr.heap[gv]? =some (zg #[ze zd v0,ze zd v1,ze zd v2,ze zd v3,ze zd v4] 107 (0,0))/\za3 wr (some ⟨gr,0,none⟩) (zd6 os ko ids)) (fun _ t _=>ids.length - (intOf t).toNat)
   case atStart=>exact⟨0,xi _,rfl,by simp[zn0],C3.X,fE.X,fa.X⟩
   case round=>
    clear C3 fE fa;obtain⟨k,hk,rfl,rfl,hb,jz,ex⟩:=hrel;have dm:=zI7 nV.X ids k;have HB:=za4 hb;have bC:=za4 jz;have fa:=za4 ex;obtain⟨s0,gO⟩:=nmd (zn0 os ko ids k);rw[gO.X]at dm⊢;clear hb jz ex;by_cases ah:k<ids.length
    ·obtain⟨b',aR,e,aJ⟩:=za3.some fa.X (j:=k*6) (by rw[zj2];omega)
     simp at e;obtain⟨rfl,rfl⟩:=e;obtain⟨r0,r1,r2,r3,r4,r5⟩:=zu5 aJ (zj2 os ko ids) k ah;clear aJ;simp only[yb]at r0 r1 r2 r3 r4 r5;obtain⟨id,bH⟩:=nmd (ids.getD k 0);rw[zj8 os ko ids ah (by omega),bH.X]at r0 r1 r2 r3 r4 r5;have f_:=z92 nV.X id;obtain⟨o0,H0⟩:=nmd (zd1 os ko id 0);obtain⟨o1,H1⟩:=nmd (zd1 os ko id 1);obtain⟨o2,H2⟩:=nmd (zd1 os ko id 2);obtain⟨o3,H3⟩:=nmd (zd1 os ko id 3);obtain⟨o4,H4⟩:=nmd (zd1 os ko id 4);obtain⟨o5,H5⟩:=nmd (zd1 os ko id 5);rw[H2.X]at f_;rw[H0.X]at r0;rw[H1.X]at r1;rw[H2.X]at r2;rw[H3.X]at r3;rw[H4.X]at r4;rw[H5.X]at r5;have lm:Zb (zn0 os ko ids (k+1)=s0+o2):=by
      show _=_;unfold zn0;rw[gO.X,bH.X,H2.X]
     go_wp2;exact⟨⟨k+1,by omega,by go_num,by rw[lm.X];go_num,HB.X.alloc _,(xg _ _ (za2 bC.X)).trans bC.X,fa.X.below (zP _)⟩,by simp[intOf];omega⟩
    ·have bz:k=ids.length:=by omega
     have nG:Zb _:=bz▸gO.X;obtain⟨t0,t1,t2,t3,t4,t5,t6,t7⟩:=zk4 HB.X.2;have tf:=fun i=>yZ _ _ i _ _ HB.X.2;clear bz;by_cases hroom2:v2<s0
     ·have cm:Zb _:=HR.X.symm.trans (y22 rfl m'.X dD.X (by rw[nG.X,G2.X];exact hroom2))
      go_wp2;refine xe (v:=.tuple #[.agg #[ze zd 0,za none 0 0,ze zd 0,ze zd 0,ze zd 0,ze zd 0,ze zd 0,za none 0 0],ze zd 4]) (by simp[results,Tryz.results116,go_sem,t0,t1,t2,t3,t4,t5,t6,t7]) rfl ⟨?_,.inl ⟨by rw[cm.X];decide,by rw[cm.X]⟩⟩
      repeat(first|with_reducible exact HB.X.b|refine xq ?_ (by simp<;>omega) _)
     ·have cm:Zb _:=HR.X.symm.trans (yt9 rfl m'.X dD.X (by rw[nG.X,G2.X];exact hroom2))
      obtain⟨q0,q1,q2,q3,q4⟩:=za7 bC.X;obtain⟨c0,c1,bZ,c3,c4⟩:=za7 HB.X.1.2.1;go_wp2;refine xe (v:=.tuple #[.agg #[ze zd n,za a zs.length ac,ze zd v0,ze zd v1,ze zd v2,ze zd v3,ze zd v4,za (some ⟨gr,0,none⟩) ids.length ids.length],ze zd 0]) (by simp[results,Tryz.results116,go_sem,t0,t1,t2,t3,t4,t5,t6,t7]) rfl ⟨?_,.inr ⟨cm.X,gr,by have:=cB.X;omega,?_,?_⟩⟩
      ·repeat(first|with_reducible exact HB.X.b|refine xq ?_ (by simp<;>omega) _)
      ·rw[G0.X,G1.X,G2.X,G3.X,G4.X]
      ·repeat(first|with_reducible exact fa.X|with_reducible refine yi9 ?_ (by have:=cB.X;omega))
theorem zC8(n x y:Int)(v0 v1 v2 v3 v4:Int)(a ar:Option Zd)(ac kr cr:Nat)(zs:List Int)(w:zi)(d:Int)(hd:tmI n zs x y=d)(hm:zq9 n zs=true)(hx:0<=x/\x<n)(hy:0<=y/\y<n)(hA:za3 w a zs):
 Zc zh 118 #[.agg #[ze zd n,za a zs.length ac,ze zd v0,ze zd v1,ze zd v2,ze zd v3,ze zd v4,za ar kr cr],ze zd x,ze zd y] w fun e w'=>e=.returned (ze zd d)/\Za w.heap.size w w':=hd▸yG2 n x y v0 v1 v2 v3 v4 a ar ac kr cr zs w hm hx hy hA
theorem yx2(L:List Int)(k:Nat)(x:Int):L.take k++[x]++L.drop k=insL L k x:=by
 unfold insL;rw[yi];rfl
theorem zW6(b off c:Nat)(L:List Int)(x:Int)(w:zi)(hA:za3 w (some ⟨b,off,none⟩) L)(hl:L.length<=100)(hc:L.length<=c):
 Zc zh 92 #[za (some ⟨b,off,none⟩) L.length c,ze zd x] w fun e w'=>∃g cc,e=.returned (za (some ⟨g,0,none⟩) (L.length+1) cc)/\Za w.heap.size w w'/\w'.ownsRow w.heap.size 2 1 (za (some ⟨g,0,none⟩) (L.length+1) cc) (L.length+1) ((zz3 L x).map (ze zd)):=by
 have HA:=za4 hA;clear hA;obtain⟨m,HM⟩:=nmd L.length;rw[HM.X]at hl hc⊢;have B1:Zb (Za w.heap.size w (w.alloc (zg #[] 2))):=zP _;go_enter Tryz.func92,Tryz.ntmps92
 go_wp2_with fail
 go_loop [5] (fun t=>∃k:Nat,k<=m/\t=ze zd k/\∀j,j<k->L.getD j 0<x) (fun t=>m - (intOf t).toNat)
 case atStart=>exact⟨0,xi _,rfl,fun j hj=>by omega⟩
 case round=>
  obtain⟨k,hk,rfl,hj⟩:=hrel;have HJ:Zb _:=hj;clear hj;by_cases hcont:k<m/\L.getD k 0<x
  ·obtain⟨ah,hx⟩:=hcont
   have ek:(k:Int)<(m:Int):=by omega
   obtain⟨_,_,e,c1⟩:=HA.X k (by rw[HM.X];exact ah);simp only[x7,qg,qt]at e;obtain⟨rfl,rfl⟩:=e;have FL:Zb (∀j,j<k+1->L.getD j 0<x):=fun j hj=>by
    by_cases e:j=k
    ·rw[e];exact hx
    ·exact HJ.X j (by omega)
   obtain⟨y,HY⟩:=nmd (L.getD k 0);rw[HY.X]at c1 hx;go_wp2
   go_round
   case rel=>exact⟨k+1,by omega,by go_num,FL.X⟩
   case measure=>simp[intOf];omega
  ·have HE:Zb (L.take k++[x]++L.drop k=zz3 L x):=by
    show _=_;rw[yx2];exact zP7 L x k (by rw[HM.X];exact hk) HJ.X (fun h h2=>hcont ⟨by rw[<-HM.X];exact h,h2⟩)
   have cx:∀y,L.getD k 0=y->k<m->w.cell? ⟨b,off+k,none⟩=some (ze zd y):=fun y hy ah=>by
    obtain⟨_,_,e,c1⟩:=HA.X k (by rw[HM.X];exact ah);simp only[x7,qg,qt]at e;obtain⟨rfl,rfl⟩:=e;rw[<-hy];exact c1
   obtain⟨y,HY⟩:=nmd (L.getD k 0);have cy:=cx y HY.X;rw[HY.X]at hcont;have HC:=za4 hcont;clear cx hcont;by_cases ah:k<m
   all_goals
    first
     |(have ek:(k:Int)<(m:Int):=by omega
       have c1:=cy ah;have Fu:¬y<x:=fun h=>HC.X ⟨ah,h⟩)
     |have ek:¬((k:Int)<(m:Int)):=by omega
    clear cy;have oR:k<=c:=by omega
    go_wp2_with(first
     |(at_builtin
       refine zc9 _ rfl (.tmp 21) (.tmp 24) rfl w.heap.size _ 0 [] rfl (qo w #[] 0 (zT _) (by unfold maxLen;omega) (by simp)) b off k c (L.take k) rfl (by rw[yh,HM.X];omega) (yq4 (HA.below B1.X) k) (by omega) (by omega) (by simp) ?_;intro v2 w2 ae hg bd aX;have B2:Zb _:=B1.grown hg B1.size (fun k e=>z57 e);rw[yb,yw]at ae;obtain⟨g2,c2,rfl⟩:=zr0 ae (zn1 aX ⟨_,_,_,rfl⟩);have O2:=za4 ae;have B3:Zb (Za w.heap.size w (w2.alloc (zg #[ze zd x] 2))):=B2.alloc B2.size _;clear ae hg bd aX)
     |(at_builtin
       refine zc9 _ rfl (.tmp 26) (.tmp 28) rfl w.heap.size _ k (L.take k) rfl (O2.alloc _) w2.heap.size 0 1 1 [x] rfl rfl (ze2 w2 x) (by omega) (by omega) B3.size ?_;intro v4 w4 ae hg bd aX;have dW:=(O2.lt g2 rfl).1;have B4:Zb _:=B3.grown hg B3.size (fun k e=>xj dW (z57 e));obtain⟨g4,c4,rfl⟩:=zr0 ae (zn1 aX ⟨_,_,_,rfl⟩);have O4:=za4 ae;clear ae hg bd aX dW)
     |(at_builtin
       refine zH0 _ rfl (.tmp 30) (.tmp 33) rfl w.heap.size _ (k+1) (L.take k++[x]) rfl O4.X _ (m - k) _ (L.drop k) rfl (by first|exact⟨_,_,rfl⟩|exact yw2 b off k c) (by rw[qj,HM.X]) (by first|exact zN2 (HA.below B4.X) k|exact yz0 (HA.below B4.X) k c (by rw[HM.X];exact hc)) (by omega) (by omega) B4.size ?_;intro v5 w5 ae hg bd aX;have dW:=(O4.lt g4 rfl).1;have B5:Zb _:=B4.grown hg B4.size (fun k e=>xj dW (z57 e));rw[show k+1+(m - k)=m+1 by omega,HE.X]at ae;obtain⟨g5,c5,rfl⟩:=zr0 ae (zn1 aX ⟨_,_,_,rfl⟩);have O5:=za4 ae;clear ae hg bd aX dW))
    all_goals
     go_ret;exact⟨g5,c5,rfl,B5.X,O5.X⟩
structure PW(w W:zi)(B:Nat)(lv ov:Value)(L O:List Int):Prop where
 b:Za w.heap.size w W
 hB:w.heap.size<=B/\B<=W.heap.size
 l:W.ownsRow B 2 1 lv L.length (L.map (ze zd))
 o:W.ownsRow B 2 1 ov O.length (O.map (ze zd))
 ne:lv.ownBlock≠ov.ownBlock
 sl:∃g c,lv=za (some ⟨g,0,none⟩) L.length c
 so:∃g c,ov=za (some ⟨g,0,none⟩) O.length c
theorem PW.put{w W w4:zi}{B:Nat}{lv ov dP:Value}{L O:List Int}{x:Int}{o:Obj}(h:PW w W B lv ov L O)(ae:w4.ownsRow B 2 1 dP (O.length+1) ((O++[x]).map (ze zd)))(hg:(W.alloc o).grownBy w4 ov.ownBlock)(bd:dP.ownBlock=ov.ownBlock∨dP.ownBlock=some (W.alloc o).heap.size)(hn:dP=za none 0 0↔ov=za none 0 0/\1=0):PW w w4 B lv dP L (O++[x]):=by
 have hA:Za w.heap.size w (W.alloc o):=h.b.alloc h.b.size _;have ah:∀g,lv.ownBlock=some g->g<W.heap.size:=fun g e=>(h.l.lt g e).2;refine⟨hA.grown hg hA.size (fun k e=>by have:=(h.o.lt k e).1;have:=h.hB.1;omega),⟨h.hB.1,xj h.hB.2 (xj (by simp) hg.size)⟩,(h.l.alloc o).kept hg (.inr h.ne),?_,?_,h.sl,?_⟩
 ·rw[xY];exact ae
 ·rcases bd with e|e
  ·rw[e];exact h.ne
  ·rw[e]
   intro e2;have:=ah _ e2;simp at this;omega
 ·rw[xY]
  obtain⟨g,c,e⟩:=h.so;exact zr0 ae (zn1 hn ⟨g,_,c,e⟩)
theorem zS9(W:zi):(W.alloc (zg #[] 2)).ownsRow W.heap.size 2 1 (za (some ⟨W.heap.size,0,none⟩) 0 0) ([]:List Int).length (([]:List Int).map (ze zd)):=qo W #[] 0 (zT _) (by unfold maxLen;omega) (by simp)
theorem z85(b off c:Nat)(L:List Int)(v:Int)(w:zi)(hA:za3 w (some ⟨b,off,none⟩) L)(hl:L.length<=1000):
 Zc zh 73 #[za (some ⟨b,off,none⟩) L.length c,ze zd v] w fun e w'=>∃g cg,e=.returned (za (some ⟨g,0,none⟩) (cutP L v).length cg)/\Za w.heap.size w w'/\w'.ownsRow w.heap.size 2 1 (za (some ⟨g,0,none⟩) (cutP L v).length cg) (cutP L v).length ((cutP L v).map (ze zd)):=by
 have HA:=za4 hA;clear hA;obtain⟨n,HN⟩:=nmd L.length;obtain⟨R,HR⟩:=nmd (cutP L v);rw[HN.X]at hl⊢;rw[HR.X];have OB:Zb (Za w.heap.size w (w.alloc (zg #[] 2))):=zP _;go_enter Tryz.func73,Tryz.ntmps73
 go_wp2_with fail
 go_loopw[5,6] (fun av t wr=>∃k:Nat,k<=n/\t=ze zd k/\wr.ownsRow w.heap.size 2 1 av (cutP (L.take k) v).length ((cutP (L.take k) v).map (ze zd))/\Za w.heap.size w wr/\av≠za none 0 0) (fun _ t _=>n - (intOf t).toNat)
 case atStart=>exact⟨0,xi _,rfl,zS9 w,OB.X,by simp⟩
 case round=>
  clear OB;obtain⟨k,hk,rfl,ho,hb,hn⟩:=hrel;have jI:(cutP (L.take k) v).length<=1000:=xj (y06 _ _) (by rw[yh];omega);obtain⟨C,HC⟩:=nmd (cutP (L.take k) v);rw[HC.X]at ho jI;obtain⟨g,cg,rfl⟩:=zr0 ho hn;obtain⟨m,HM⟩:=nmd C.length;rw[HM.X]at ho jI⊢;have O1:=za4 ho;have B1:Zb _:=hb;clear ho hb hn;by_cases ah:k<n
  ·have hs:=zK5 L v k (by rw[HN.X];exact ah)
   have cx:wr.cell? ⟨b,off+k,none⟩=some (ze zd (L.getD k 0)):=by
    obtain⟨_,_,e,h⟩:=(HA.below B1.X) k (by rw[HN.X];exact ah);simp at e;obtain⟨rfl,rfl⟩:=e;exact h
   obtain⟨x,HX⟩:=nmd (L.getD k 0);rw[HX.X]at cx hs;rw[HC.X]at hs;by_cases hxv:x=v
   ·rw[z7 hxv]at hs
    have HS:Zb _:=hs;clear hs;go_wp2;go_roundw
    case rel=>exact⟨k+1,by omega,by first|rfl|go_num,by rw[HS.X,HM.X];exact O1.X,B1.X,by simp⟩
    case measure=>simp[intOf];omega
   ·rw[ye hxv]at hs
    have HS:Zb _:=hs;clear hs;have BA:Zb (Za w.heap.size w (wr.alloc (zg #[ze zd x] 2))):=B1.alloc B1.size _
    go_wp2_with(
     at_builtin;refine zc9 _ rfl _ _ rfl w.heap.size _ m C rfl (O1.alloc _) wr.heap.size 0 1 1 [x] rfl rfl (ze2 wr x) (by omega) (by omega) (xj B1.size (by simp)) ?_;intro v' w4 ae hg _ aX;have O4:=za4 ae;have B4:Zb _:=BA.grown hg BA.size (fun k e=>(O1.lt k e).1);have N4:Zb (v'≠za none 0 0):=zn1 aX ⟨_,_,_,rfl⟩;clear ae hg aX)
    go_roundw
    case rel=>exact⟨k+1,by omega,by first|rfl|go_num,by rw[HS.X,xY,HM.X];exact O4.X,B4.X,N4.X⟩
    case measure=>simp[intOf];omega
  ·have cL:k=n:=by omega
   have HE:Zb (C=R):=by
    have:=HC.X;rw[cL,<-HN.X,ym,HR.X]at this;exact this.symm
   have J':Zb (R.length=m):=by show _=_;rw[<-HE.X];exact HM.X
   rw[HE.X]at O1;go_wp2;go_ret;refine⟨g,cg,by rw[J'.X];rfl,B1.X,by rw[J'.X];exact O1.X⟩
theorem PW.cut{w W w4:zi}{lv ov:Value}{L O C:List Int}{g c:Nat}(h:PW w W w.heap.size lv ov L O)(hb:Za W.heap.size W w4)(ho:w4.ownsRow W.heap.size 2 1 (za (some ⟨g,0,none⟩) C.length c) C.length (C.map (ze zd))):PW w w4 w.heap.size (za (some ⟨g,0,none⟩) C.length c) ov C O:=by
 refine⟨h.b.trans (hb.mono h.b.size),⟨zT _,xj h.hB.2 hb.size⟩,zb5 ho h.hB.2,zb9 h.o hb,?_,⟨g,c,rfl⟩,h.so⟩;intro e;have h1:=(ho.lt g rfl).1;have h2:=(h.o.lt g (by rw[<-e];rfl)).2;omega
theorem PW.lput{w W w4:zi}{B:Nat}{lv ov v_:Value}{L O:List Int}{x:Int}{o:Obj}(h:PW w W B lv ov L O)(ae:w4.ownsRow B 2 1 v_ (L.length+1) ((L++[x]).map (ze zd)))(hg:(W.alloc o).grownBy w4 lv.ownBlock)(bd:v_.ownBlock=lv.ownBlock∨v_.ownBlock=some (W.alloc o).heap.size)(hn:v_=za none 0 0↔lv=za none 0 0/\1=0):PW w w4 B v_ ov (L++[x]) O:=by
 have hA:Za w.heap.size w (W.alloc o):=h.b.alloc h.b.size _;have ah:∀g,ov.ownBlock=some g->g<W.heap.size:=fun g e=>(h.o.lt g e).2;refine⟨hA.grown hg hA.size (fun k e=>by have:=(h.l.lt k e).1;have:=h.hB.1;omega),⟨h.hB.1,xj h.hB.2 (xj (by simp) hg.size)⟩,?_,(h.o.alloc o).kept hg (.inr h.ne.symm),?_,?_,h.so⟩
 ·rw[xY];exact ae
 ·rcases bd with e|e
  ·rw[e];exact h.ne
  ·rw[e]
   intro e2;have:=ah _ e2.symm;simp at this;omega
 ·rw[xY]
  obtain⟨g,c,e⟩:=h.sl;exact zr0 ae (zn1 hn ⟨g,_,c,e⟩)
theorem zU6{K i:Nat}{L:List Int}{s:Int}(h:i<K):pkL (K - i) L s=(L.getD (pkAt (zm6 s) L.length) 0::(pkL (K - (i+1)) (zl2 L (pkAt (zm6 s) L.length)) (zm6 s)).1,(pkL (K - (i+1)) (zl2 L (pkAt (zm6 s) L.length)) (zm6 s)).2):=by
 rw[show K - i=(K - (i+1))+1 by omega];rfl
theorem zV1(s:Int){D:Nat}(h:0<D):∃S:Nat,zm6 s=S/\S<=2147483647/\(S:Int) / 65536 % (D:Int)=(pkAt (zm6 s) D:Nat)/\pkAt (zm6 s) D<D:=by
 have h1:=zc8 (zT3 s);refine⟨(zm6 s).toNat,by omega,by omega,?_,yd0 h⟩;rw[<-yF1 h]
 congr 2
 omega
theorem PW.new2{w W:zi}{lv ov:Value}{L:List Int}(ho:W.ownsRow w.heap.size 2 1 lv L.length (L.map (ze zd)))(hb:Za w.heap.size w W)(hn:lv≠za none 0 0)(hx:W.ownsRow w.heap.size 2 1 ov 0 (([]:List Int).map (ze zd)))(hm:ov≠za none 0 0)(aq:lv.ownBlock≠ov.ownBlock):PW w W w.heap.size lv ov L []:=
 ⟨hb,⟨zT _,hb.size⟩,ho,hx,aq,zr0 ho hn,zr0 hx hm⟩
theorem zJ9(s n k:Int)(w:zi):
 Zc zh 91 #[ze zd s,ze zd n,ze zd k] w fun e w'=>∃sl,e=.returned (.tuple #[sl,ze zd (z77 s n k)])/\Za w.heap.size w w'/\w'.ownsRow w.heap.size 2 1 sl (zs4 s n k).length ((zs4 s n k).map (ze zd)):=by
 have OB:Zb (Za w.heap.size w (w.alloc (zg #[] 2))):=zP _;have ON:=za4 (zS9 w);obtain⟨R,HR⟩:=nmd (zs4 s n k);obtain⟨V,HV⟩:=nmd (z77 s n k);rw[HR.X,HV.X];cases hp:zv8 s n k
 ·have HE:Zb (R=[]/\V= -1):=by
   have:=yw0 hp;rw[HR.X,HV.X]at this;exact this
  unfold zv8 at hp;rcases qv (inB n 0 64)with h1|h1<;>rcases qv (inB k 0 n)with h2|h2<;>rcases qv (inB s 0 2147483647)with h3|h3
  ·rw[h1,h2,h3]at hp;simp at hp
  all_goals
   clear hp;go_enter Tryz.func91,Tryz.ntmps91
   go_wp2_with(go_at_call 39;refine(zc0 _ _ _ _).mono ?_;rintro e w' ⟨rfl,dz⟩;subst w';first|rw[h1]|rw[h2]|rw[h3])
   refine xe (v:=.tuple #[za (some ⟨w.heap.size,0,none⟩) 0 0,ze zd (-1)]) (by simp[results,Tryz.results91,go_sem]) rfl ⟨_,by rw[HE.X.2],OB.X,by rw[HE.X.1];exact ON.X⟩
 ·obtain⟨N,K,rfl,rfl,hN,hK,jW,d8⟩:=zI4 hp
  obtain⟨e1,e2⟩:=zv6 hp;have jF:Zb ((pkL K (z32 N) s).1=R/\(pkL K (z32 N) s).2=V):=⟨e1.symm.trans HR.X,e2.symm.trans HV.X⟩;have h1:inB (N:Int) 0 64=true:=zf0 (by omega);have h2:inB (K:Int) 0 N=true:=zf0 (by omega);have h3:inB s 0 2147483647=true:=zf0 (by omega);clear e1 e2 hp HR HV;have O2:Zb (((w.alloc (zg #[] 2)).alloc (zg #[] 2)).ownsRow w.heap.size 2 1 (za (some ⟨w.heap.size+1,0,none⟩) 0 0) 0 (([]:List Int).map (ze zd))):=by
   have:=zb5 (zS9 (w.alloc (zg #[] 2))) OB.X.size;rw[show(w.alloc (zg #[] 2)).heap.size=w.heap.size+1 by simp]at this;exact this
  have X2:Zb (((w.alloc (zg #[] 2)).alloc (zg #[] 2)).ownsRow w.heap.size 2 1 (za (some ⟨w.heap.size,0,none⟩) 0 0) 0 (([]:List Int).map (ze zd))):=ON.X.alloc _;have B2:Zb (Za w.heap.size w ((w.alloc (zg #[] 2)).alloc (zg #[] 2))):=OB.X.alloc OB.X.size _;go_enter Tryz.func91,Tryz.ntmps91
  go_wp2_with(go_at_call 39;refine(zc0 _ _ _ _).mono ?_;rintro e w' ⟨rfl,dz⟩;subst w';first|rw[h1]|rw[h2]|rw[h3])
  clear OB ON h1 h2 h3;go_loopw[9,10] (fun av t wr=>∃i:Nat,i<=N/\t=ze zd i/\PW w wr w.heap.size av (za (some ⟨w.heap.size,0,none⟩) 0 0) (z32 i) []) (fun _ t _=>N - (intOf t).toNat)
  case atStart=>exact⟨0,xi _,rfl,PW.new2 O2.X B2.X (by simp) X2.X (by simp) (by simp[zm])⟩
  case round=>
   clear O2 X2 B2;obtain⟨i,hi,rfl,fP⟩:=hrel;obtain⟨gl,cl,rfl⟩:=fP.sl;rw[zh8]at fP⊢;have P1:=za4 fP;clear fP;by_cases ah:i<N
   ·go_wp2_with(
     at_builtin;refine zc9 _ rfl _ _ rfl w.heap.size _ i (z32 i) rfl (by have:=P1.X.l;rw[zh8]at this;exact this.alloc _) wr.heap.size 0 1 1 [(i:Int)] rfl rfl (ze2 wr i) (by omega) (by omega) (xj P1.X.hB.2 (by simp)) ?_;intro v' w4 ae hg bd aX;have P4:Zb (PW w w4 w.heap.size v' (za (some ⟨w.heap.size,0,none⟩) 0 0) (z32 (i+1)) []):=by
      show PW _ _ _ _ _ _ _;rw[zY8];exact P1.X.lput (by rw[zh8];exact ae) hg bd aX
     clear ae hg bd aX)
    go_roundw
    case rel=>exact⟨i+1,by omega,by first|rfl|go_num,P4.X⟩
    case measure=>simp[intOf];omega
   ·have pW:i=N:=by omega
    rw[pW]at P1⊢;clear hi ah pW
    go_wp2_with fail
    go_loopw[0,8,9,11] (fun sv ov lv t wr=>∃(i:Nat) (s:Int) (L O:List Int),i<=K/\L.length=N - i/\L.Nodup/\t=ze zd i/\sv=ze zd s/\O.length=i/\PW w wr w.heap.size lv ov L O/\O++(pkL (K - i) L s).1=R/\(pkL (K - i) L s).2=V/\0<=s/\s<=2147483647) (fun _ _ _ t _=>K - (intOf t).toNat)
    case atStart=>exact⟨0,s,z32 N,[],xi _,by rw[zh8];rfl,z80 N,rfl,rfl,rfl,P1.X,jF.X.1,jF.X.2,jW,d8⟩
    case round=>
     clear P1;obtain⟨i,s,L,O,hi,hl,cK,rfl,rfl,ho,fP,nI,iP,jW,d8⟩:=hrel;obtain⟨gl,cl,rfl⟩:=fP.sl;obtain⟨go,co,rfl⟩:=fP.so;have P1:=za4 fP;have HL:=za4 hl;have HO:=za4 ho;have kA:Zb L.Nodup:=cK;have sZ:Zb (O++(pkL (K - i) L s).1=R/\(pkL (K - i) L s).2=V):=⟨nI,iP⟩;clear fP hl ho cK nI iP;rw[HO.X]at P1⊢;by_cases ah:i<K
     ·have hD:0<L.length:=by rw[HL.X];omega
      have E9:L.length<=64:=by rw[HL.X];omega
      obtain⟨S,hS,Lp,gV,eN⟩:=zV1 s hD;have bB:=zU6 (L:=L) (s:=s) ah;obtain⟨D,HD⟩:=nmd L.length;rw[HD.X]at hD E9 gV eN bB P1⊢;obtain⟨p,HP⟩:=nmd (pkAt (zm6 s) D);rw[HP.X]at gV eN bB;have HS:=za4 hS;rw[HS.X]at bB;have kF:Zb ((O++[L.getD p 0])++(pkL (K - (i+1)) (zl2 L p) S).1=R/\(pkL (K - (i+1)) (zl2 L p) S).2=V):=by
       have h:=sZ.X;rw[bB]at h;refine⟨?_,h.2⟩;rw[<-h.1,yi];rfl
      have cx:wr.cell? ⟨gl,p,none⟩=some (ze zd (L.getD p 0)):=by
       obtain⟨_,_,e,h⟩:=zz2 P1.X.l HD.X p (by rw[HD.X];exact eN);simp at e;obtain⟨rfl,rfl⟩:=e;rw[yb]at h;exact h
      have wK:Zb (cutP L (L.getD p 0)=zl2 L p):=zR6 kA.X (by rw[HD.X];exact eN);have cu:Zb ((zl2 L p).length=D - 1):=by show _=_;rw[zk8 (by rw[HD.X];exact eN),HD.X]
      have iL:Zb (zl2 L p).Nodup:=zL2 kA.X p;obtain⟨x,HX⟩:=nmd (L.getD p 0);rw[HX.X]at cx kF wK;have Qj:(p:Int)<(D:Int):=by omega
      clear bB hS jW d8 sZ;have pu:i<=64:=by omega
      go_wp2_with(first
       |(go_at_call 130;refine(zZ3 _ _).mono ?_;rintro e w' ⟨rfl,dz⟩;subst w';rw[HS.X])
       |(at_builtin
         refine zc9 _ rfl (.tmp 51) (.tmp 56) rfl w.heap.size _ i O rfl (by have:=P1.X.o;rw[HO.X]at this;exact this.alloc _) wr.heap.size 0 1 1 [x] rfl rfl (ze2 wr x) (by omega) (by omega) (xj P1.X.hB.2 (by simp)) ?_;intro dP w4 ae hg bd aX;have P4:Zb (PW w w4 w.heap.size (za (some ⟨gl,0,none⟩) D cl) dP L (O++[x])):=P1.X.put (by rw[HO.X];exact ae) hg bd aX;have I4:Zb (za3 w4 (some ⟨gl,0,none⟩) L):=zz2 P4.X.l HD.X;have c4:w4.cell? ⟨gl,p,none⟩=some (ze zd x):=by
          obtain⟨_,_,e,h⟩:=I4.X p (by rw[HD.X];exact eN);simp at e;obtain⟨rfl,rfl⟩:=e;rw[yb]at h;rw[h,HX.X]
         clear ae hg bd aX)
       |(go_at_call 73
         have hcut:=z85 gl 0 cl L x w4 I4.X (by rw[HD.X];omega);rw[HD.X,wK.X]at hcut;refine hcut.mono ?_;rintro e w5 ⟨g5,c5,rfl,fk,ed⟩;have P5:=za4 (P4.X.cut fk ed);clear hcut fk ed))
      go_roundw
      case rel=>exact⟨i+1,S,zl2 L p,O++[x],by omega,by rw[cu.X,<-HD.X,HL.X];omega,iL.X,by first|rfl|go_num,rfl,by rw[xY,HO.X];rfl,P5.X,kF.X.1,kF.X.2,by omega,by omega⟩
      case measure=>simp[intOf];omega
     ·have Gq:K - i=0:=by omega
      have HE:Zb (O=R/\s=V):=by
       have h:=sZ.X;rw[Gq]at h;refine⟨?_,h.2⟩;rw[<-h.1];exact(qe _).symm
      have Gp:Zb (wr.ownsRow w.heap.size 2 1 (za (some ⟨go,0,none⟩) i co) R.length (R.map (ze zd))):=by
       have:=P1.X.o;rw[HE.X.1]at this;exact this
      have HB:Zb (Za w.heap.size w wr):=P1.X.b;obtain⟨D,HD⟩:=nmd L.length;rw[HD.X,HE.X.2];go_wp2;refine xe (v:=.tuple #[za (some ⟨go,0,none⟩) i co,ze zd V]) (by simp[results,Tryz.results91,go_sem]) rfl ⟨_,rfl,HB.X,Gp.X⟩
theorem yy0(w:zi){ap:Array Oper}{rest:List Oper}{o:Oper}{a:Act}{Q:Exit->Act->zi->Prop}
 (hg:o.guard=none) (l c:Operand) (du:o.op=Op.makeSlice 24 l c) (base:Nat)
 (kl kc:IntKind) (C:Int) (n:Nat) (hl:a.eval l=.int kl 0) (hc:a.eval c=.int kc C) (hC:C=(n:Int)) (b2:n<=1048576) (b4:base<=w.heap.size)
 (hK:∀w',w'.ownsRow base 2 1 (za (some ⟨w.heap.size,0,none⟩) 0 n) 0 []->w.grownBy w' none->wpList zh ap Q rest (a.put o.dst (za (some ⟨w.heap.size,0,none⟩) 0 n)) w'):
 wpList zh ap Q (o::rest) a w:=by
 obtain⟨i0,hi,bR,ba,bS⟩:=qx Tryz.info2;exact wpList_make_own w hg l c _ du base _ i0 _ 1 qb hi bR ba kl kc C n hl hc hC (by rw[bS];omega) (by unfold maxLen;omega) b4 hK
