import Derived.Test.YtkchnomkiboihaaGreatPack1
import Derived.Deep.RegionLaw
set_option linter.unusedSimpArgs false
set_option maxHeartbeats 2000000
namespace Go.Proofs.YtkchnomkiboihaaGreat
open RowKit renaming Below→Za,Hid→Zb
open Go renaming Addr→Zd
theorem xY:type_of% @List.length_append:=@List.length_append
theorem xZ:type_of% @Go.World.ownsRow_nil:=@Go.World.ownsRow_nil
theorem x7:type_of% @Option.some.injEq:=@Option.some.injEq
theorem x8:type_of% @List.map_append:=@List.map_append
theorem qb:type_of% @Go.Proofs.Tryz.underlying24:=@Go.Proofs.Tryz.underlying24
theorem qe:type_of% @List.append_nil:=@List.append_nil
theorem qg:type_of% @Go.Addr.mk.injEq:=@Go.Addr.mk.injEq
theorem qh:type_of% @decide_eq_true_eq:=@decide_eq_true_eq
theorem qi:type_of% @List.mem_filter:=@List.mem_filter
theorem qj:type_of% @List.length_drop:=@List.length_drop
theorem qm:type_of% @Go.ownsRow_setCell_other:=@Go.ownsRow_setCell_other
theorem qo:type_of% @Go.World.ownsRow_made:=@Go.World.ownsRow_made
theorem qp:type_of% @Nat.lt_or_ge:=@Nat.lt_or_ge
theorem qr:type_of% @List.getElem?_drop:=@List.getElem?_drop
theorem qt:type_of% @and_true:=@and_true
theorem qu:type_of% @Go.RowKit.ownsRow_setCell_below:=@Go.RowKit.ownsRow_setCell_below
theorem qv:type_of% @Bool.eq_false_or_eq_true:=@Bool.eq_false_or_eq_true
theorem qw:type_of% @Prod.mk.injEq:=@Prod.mk.injEq
theorem qx:type_of% @Go.info_parts:=@Go.info_parts
theorem qy:type_of% @Go.run_append_own:=@Go.run_append_own
open Value renaming slice→za,int→ze,oneCell'→zq
open IntKind renaming i64→zd
open Obj renaming cells→zg
open Proofs.Tryz renaming prog→zh
open Go renaming World→zi
open World renaming setCell→zj
open Region renaming wanted→zn
open Builtin renaming append_→zu,append→zx
open Callee renaming builtin→zw
open List renaming getD→zy
open Oper renaming wp→zG
open Op renaming call→zI
open Result renaming andThen→zK
open Addr renaming add→zN
open Go.RowKit
open Q
theorem za6{w w':zi}{row:Option Nat}{k:Nat}{o:Obj}(hg:w.grownBy w' row)(h:w.heap[k]? =some o)(aq:some k≠row):w'.heap[k]? =some o:=(hg.block k (za2 h) aq).trans h
theorem zd4{w:zi}{base size g n ac:Nat}{e:TypeId}{zs:List Int}(h:w.ownsRow base e size (za (some ⟨g,0,none⟩) n ac) n (zs.map (ze zd))):za3 w (some ⟨g,0,none⟩) zs:=by
 intro j hj;refine⟨g,0,rfl,?_⟩;have:=h.cells (g:=g) rfl j (ze zd (zs.getD j 0)) (by simp[zy,hj]);have dO:(⟨g,0,none⟩:Zd).add j=⟨g,0+j,none⟩:=by unfold zN;split<;>simp_all
 rw[dO]at this;exact this
theorem zb9{w w':zi}{base size n:Nat}{e:TypeId}{v:Value}{xs:List Value}(h:w.ownsRow base e size v n xs)(hb:Za w.heap.size w w'):w'.ownsRow base e size v n xs:=by
 obtain⟨h1,h2|⟨g,ac,az,h2,h3,h4,h5⟩⟩:=h
 ·exact⟨h1,.inl h2⟩
 ·exact⟨h1,.inr ⟨g,ac,az,h2,h3,za0 hb (za2 h4) h4,h5⟩⟩
theorem zo4{w:zi}{base k:Nat}{v:Value}{e:TypeId}{size:Nat}{xs:List Value}(h:w.ownsRow base e size v (k+1) xs):∃g c,v=za (some ⟨g,0,none⟩) (k+1) c/\base<=g:=by
 obtain⟨_,⟨_,h2⟩|⟨g,ac,az,h2,h3,_⟩⟩:=h
 ·omega
 ·exact⟨g,ac,h2,h3⟩
theorem zm3{w:zi}{base k:Nat}{v:Value}{e:TypeId}{size:Nat}{xs:List Value}(h:w.ownsRow base e size v k xs):v=za none 0 0∨∃g c,v=za (some ⟨g,0,none⟩) k c:=by
 obtain⟨_,⟨h1,_⟩|⟨g,ac,az,h2,_⟩⟩:=h
 ·exact .inl h1
 ·exact .inr ⟨g,ac,h2⟩
theorem zb5{w:zi}{base b0 k:Nat}{v:Value}{e:TypeId}{size:Nat}{xs:List Value}(h:w.ownsRow base e size v k xs)(hb:b0<=base):w.ownsRow b0 e size v k xs:=by
 obtain⟨h0,h1|⟨g,ac,az,h2,h3,h4⟩⟩:=h
 ·exact⟨h0,.inl h1⟩
 ·exact⟨h0,.inr ⟨g,ac,az,h2,xj hb h3,h4⟩⟩
theorem zg1{w:zi}{base k b i:Nat}{v u:Value}{e:TypeId}{size:Nat}{xs:List Value}(h:w.ownsRow base e size v k xs)(hb:b<base):(w.setCell ⟨b,i,none⟩ u).ownsRow base e size v k xs:=qu h hb u
theorem zr4{w:zi}{base n:Nat}{e:TypeId}{sl:Value}{xs:List Int}(h:w.ownsRow base e 1 sl n (xs.map (ze zd))):∃a c,sl=za a xs.length c/\xs.length=n/\za3 w a xs:=by
 obtain⟨h1,⟨rfl,h2⟩|⟨g,ac,az,rfl,h3,h4,h5⟩⟩:=id h
 ·subst h2
  have:xs=[]:=by simpa using h1
  subst this;exact⟨none,0,rfl,rfl,fun j hj=>by simp at hj⟩
 ·have hl:xs.length=n:=by simpa using h1
  exact⟨_,_,by rw[hl],hl,zd4 h⟩
theorem zq4(W:zi)(v:Value)(T:TypeId)(g:Nat)(hg:W.heap.size=g):(W.alloc (zg #[v] T)).cell? ⟨g,0,none⟩=some v:=by
 subst hg;rw[zU _ _ 0 _ _ _ (zS W (zg #[v] T))];simp
theorem zP4{w:zi}{ad:Zd}{x0:Value}(hc:w.cell? ad=some x0):∀j u,[x0][j]? =some u->w.cell? (ad.add j)=some u:=by
 intro j u hu;have hj:j=0:=by
  rcases j with _|j
  ·rfl
  ·simp at hu
 subst hj;have:ad.add 0=ad:=by unfold zN;split<;>simp_all
 rw[this,hc];simpa using hu
theorem yq6(w:zi){ap:Array Oper}{rest:List Oper}{o:Oper}{a:Act}{Q:Exit->Act->zi->Prop}
 (hg:o.guard=none) (s x:Operand) (du:o.op=zI {callee:=zw zx,args:=#[s,x],argTypes:=#[24,24]})
 (base:Nat) (v:Value) (k:Nat) (xs:List Value) (hs:a.eval s=v) (ae:w.ownsRow base 2 1 v k xs) (ad:Zd) (c:Nat) (x0:Value) (hx:a.eval x=za (some ad) 1 c)
 (hc:w.cell? ad=some x0) (jV:x0.oneCell'=true) (b1:k<=1000) (hb:base<=w.heap.size)
 (hK:∀v' w',w'.ownsRow base 2 1 v' (k+1) (xs++[x0])->w.grownBy w' v.ownBlock->wpList zh ap Q rest (a.put o.dst v') w'):
 wpList zh ap Q (o::rest) a w:=by
 obtain⟨i0,hi,bN,ba,bR⟩:=qx Tryz.info2;exact wpList_append_own w hg s x _ du base _ i0 _ 1 8 qb hi bN ba bR rfl (by decide) v k xs hs ae ad 1 c [x0] hx rfl (zP4 hc) (by simpa using jV) (by unfold maxLen;omega) (by omega) hb (fun v' w' h1 h2 _=>hK v' w' h1 h2)
theorem zF8{ap:Array Oper}{o:Oper}{a:Act}{w:zi}{K:Act->zi->Prop}{Q:Exit->Act->zi->Prop}{E:Prop}
 (hg:o.guard=none) (s x:Operand) (du:o.op=zI {callee:=zw zx,args:=#[s,x],argTypes:=#[24,24]})
 (base:Nat) (v:Value) (k:Nat) (xs:List Value) (hs:a.eval s=v) (ae:w.ownsRow base 2 1 v k xs) (ad:Zd) (c:Nat) (x0:Value) (hx:a.eval x=za (some ad) 1 c)
 (hc:w.cell? ad=some x0) (jV:x0.oneCell'=true) (b1:k<=1000) (hb:base<=w.heap.size)
 (hK:∀v' w',w'.ownsRow base 2 1 v' (k+1) (xs++[x0])->w.grownBy w' v.ownBlock->K (a.put o.dst v') w'):
 if zn o (yielded ap a.tmps)=true then zG zh o a w K Q else E:=by
 have hw:zn o (yielded ap a.tmps)=true:=by simp[zn,hg]
 rw[z7 hw];obtain⟨i0,hi,bN,ba,bR⟩:=qx Tryz.info2;obtain⟨v',w',aS,r1,r2,_⟩:=qy (P:=zh) w base 24 o.type _ i0 _ 1 8 qb hi bN ba bR rfl (by decide) v k xs ae ad 1 c [x0] rfl (zP4 hc) (by simpa using jV) (by unfold maxLen;omega) (by omega) hb;unfold zG;simp[execOp,du,resolve,invoke,builtin,hs,hx,aS,zK];exact hK _ _ r1 r2
theorem zA7{P:Program}(w:zi)(base:Nat)(t ty e:TypeId)(i:TypeInfo)(z:Value)(size bytes:Nat)(ht:P.underlying t=some (.slice e))(hi:P.info? e=some i)(hz:i.zero=some z)
 (ni:i.size=size) (BK:i.bytes=bytes) (v:Value) (n:Nat) (xs:List Value) (ae:w.ownsRow base e size v n xs)
 (a:Zd) (m c:Nat) (bP:List Value) (hl:bP.length=m*size) (bQ:∀j u,bP[j]? =some u->w.cell? (a.add j)=some u) (h1:∀u∈bP,u.oneCell'=true)
 (wR:n+m<=maxLen) (cK:(n+m)*bytes<=140737488355328) {v':Value} {w':zi} (aS:(zu #[t,t] ty #[v,za (some a) m c]).run P w=.ok v' w'):v'.ownBlock=v.ownBlock∨v'.ownBlock=some w.heap.size:=by
 subst ni;subst BK;have r':n+m<=9223372036854775807:=by simp only[maxLen]at wR;omega
 rcases ae.2 with⟨rfl,rfl⟩|⟨g,ac,az,rfl,dR,hg,js,iL,aJ,htake⟩
 ·by_cases hm:m=0
  ·subst hm
   have hn:bP=[]:=xE (by simpa using hl);subst hn;simp[zu,xI ht,sizeOf,typeInfo,hi,Builtin.lenOf,Builtin.firstCells,loadCells,loadCellsFrom]at aS;rw[<-aS.1];exact .inl rfl
  ·have hr:=run_append_nil (P:=P) w t ty e i z ht hi hz a m c bP hl bQ (by omega) (by omega) (by have hb:=cK;simp only[yb]at hb;omega)
   rw[hr]at aS
   injection aS with e1 e2
   rw[<-e1];exact .inr rfl
 ·by_cases bB:n+m<=ac
  ·have uC:n*i.size+bP.length<=az.size:=by rw[hl,aJ,<-yT];exact yK _ bB
   have hr:=run_append_room (P:=P) w t ty e i ht hi g n ac az hg a m c bP hl bQ h1 bB uC;rw[hr]at aS
   injection aS with e1 e2
   rw[<-e1];exact .inl rfl
  ·have oa:=ae.cells (g:=g) rfl
   have hr:=run_append_grow (P:=P) w t ty e i z ht hi hz ⟨g,0,none⟩ n ac xs ae.1 oa a m c bP hl bQ (by omega) (by omega) (growslice_fits (by omega) cK);rw[hr]at aS
   injection aS with e1 e2
   rw[<-e1];exact .inr rfl
theorem zx5{P:Program}{o:Oper}{a:Act}{w w':zi}{v:Value}(s x:Operand)(t:TypeId)(vs vx:Value)(ho:o.op=.call {callee:=.builtin .append,args:=#[s,x],argTypes:=#[t,t]})
 (hs:a.eval s=vs) (hx:a.eval x=vx) (hr:(zu #[t,t] o.type #[vs,vx]).run P w=.ok v w'):(execOp a.eval o).run P w=.ok (.value v) w':=by
 unfold execOp;simp only[ho,resolve,invoke,builtin,Sem.run_bind,Sem.run_pure,Result.andThen_ok,List.map_toArray,xH,xK,hs,hx,hr]
theorem zc9(w:zi){ap:Array Oper}{rest:List Oper}{o:Oper}{a:Act}{Q:Exit->Act->zi->Prop}
 (hg:o.guard=none) (s x:Operand) (du:o.op=zI {callee:=zw zx,args:=#[s,x],argTypes:=#[24,24]})
 (base:Nat) (v:Value) (k:Nat) (xs:List Int) (hs:a.eval s=v) (ae:w.ownsRow base 2 1 v k (xs.map (ze zd))) (b off m c:Nat) (ys:List Int) (hx:a.eval x=za (some ⟨b,off,none⟩) m c)
 (hy:ys.length=m) (hc:za3 w (some ⟨b,off,none⟩) ys) (b1:k<=1000) (b2:m<=1000) (hb:base<=w.heap.size)
 (hK:∀v' w',w'.ownsRow base 2 1 v' (k+m) ((xs++ys).map (ze zd))->w.grownBy w' v.ownBlock->(v'.ownBlock=v.ownBlock∨v'.ownBlock=some w.heap.size)->(v'=za none 0 0↔v=za none 0 0/\m=0)->wpList zh ap Q rest (a.put o.dst v') w'):
 wpList zh ap Q (o::rest) a w:=by
 obtain⟨i0,hi,bN,ba,bR⟩:=qx Tryz.info2;have bQ:∀j u,(ys.map (ze zd))[j]? =some u->w.cell? ((⟨b,off,none⟩:Zd).add j)=some u:=by
  intro j u hu;have hj:j<ys.length:=by
   rcases qp j ys.length with h'|h'
   ·exact h'
   ·simp[yg (by simpa using h':(ys.map (ze zd)).length<=j)]at hu
  obtain⟨b',aR,e,fJ⟩:=hc j hj;simp at e;obtain⟨rfl,rfl⟩:=e;have dO:(⟨b,off,none⟩:Zd).add j=⟨b,off+j,none⟩:=by unfold zN;split<;>simp_all
  rw[dO,fJ,<-hu];simp[zy,hj]
 have jV:∀u∈ys.map (ze zd),u.oneCell'=true:=by simp[zq]
 obtain⟨v',w',aS,r1,r2,r3⟩:=qy (P:=zh) w base 24 o.type _ i0 _ 1 8 qb hi bN ba bR rfl (by decide) v k (xs.map (ze zd)) ae ⟨b,off,none⟩ m c (ys.map (ze zd)) (by simp[hy]) bQ jV (by unfold maxLen;omega) (by omega) hb;have r4:=zA7 (P:=zh) w base 24 o.type _ i0 _ 1 8 qb hi bN ba bR v k (xs.map (ze zd)) ae ⟨b,off,none⟩ m c (ys.map (ze zd)) (by simp[hy]) bQ jV (by unfold maxLen;omega) (by omega) aS;exact zz0 v' hg (zx5 s x _ v _ du hs hx aS) (hK v' w' (by rw[x8];exact r1) r2 r4 r3)
theorem zF4(w:zi){ap:Array Oper}{rest:List Oper}{o:Oper}{a:Act}{Q:Exit->Act->zi->Prop}
 (hg:o.guard=none) (s x:Operand) (du:o.op=zI {callee:=zw zx,args:=#[s,x],argTypes:=#[24,24]})
 (base:Nat) (v:Value) (k:Nat) (xs:List Int) (hs:a.eval s=v) (ae:w.ownsRow base 2 1 v k (xs.map (ze zd))) (ad:Option Zd) (m c:Nat) (ys:List Int) (hx:a.eval x=za ad m c)
 (me:∃b off,ad=some ⟨b,off,none⟩) (hy:ys.length=m) (hc:za3 w ad ys) (b1:k<=1000) (b2:m<=1000) (hb:base<=w.heap.size)
 (hK:∀v' w',w'.ownsRow base 2 1 v' (k+m) ((xs++ys).map (ze zd))->w.grownBy w' v.ownBlock->(v'.ownBlock=v.ownBlock∨v'.ownBlock=some w.heap.size)->(v'=za none 0 0↔v=za none 0 0/\m=0)->wpList zh ap Q rest (a.put o.dst v') w'):
 wpList zh ap Q (o::rest) a w:=by
 obtain⟨b,off,rfl⟩:=me;exact zc9 w hg s x du base v k xs hs ae b off m c ys hx hy hc b1 b2 hb hK
theorem yo5{W:zi}{a:Option Zd}{ids:List Int}(h:za3 W a ids)(i:Nat):za3 W a (ids.take i):=by
 intro j hj;have r8:j<ids.length/\j<i:=by rw[yh]at hj;omega
 obtain⟨b,off,e,hc⟩:=h j r8.1;refine⟨b,off,e,?_⟩;rw[hc,zQ,zQ,yL,z7 r8.2]
theorem zO2{W:zi}{b off:Nat}{ids:List Int}(h:za3 W (some ⟨b,off,none⟩) ids)(i:Nat):za3 W (some ⟨b,off+i,none⟩) (ids.drop i):=by
 intro j hj;have r8:i+j<ids.length:=by rw[qj]at hj;omega
 obtain⟨b',aR,e,hc⟩:=h (i+j) r8;simp at e;obtain⟨rfl,rfl⟩:=e;refine⟨b,off+i,rfl,?_⟩;rw[yz,hc,zQ,zQ,qr]
theorem yz0{W:zi}{b off:Nat}{ids:List Int}(h:za3 W (some ⟨b,off,none⟩) ids)(i c2:Nat)(hc:ids.length<=c2):za3 W (if c2=i then some ⟨b,off,none⟩else some ⟨b,off+i,none⟩) (ids.drop i):=by
 by_cases e:c2=i
 ·have:ids.drop i=[]:=List.drop_eq_nil_of_le (by omega)
  rw[this];intro j hj;simp at hj
 ·rw[ye e];exact zO2 h i
theorem yz5(b off i c2:Nat):∃b' aR,(if c2=i then some (⟨b,off,none⟩:Zd)else some ⟨b,off+i,none⟩)=some ⟨b',aR,none⟩:=by
 by_cases e:c2=i
 ·exact⟨b,off,z7 e⟩
 ·exact⟨b,off+i,ye e⟩
theorem zq1{w:zi}{base k:Nat}{v:Value}{e:TypeId}{size:Nat}{xs:List Value}(h:w.ownsRow base e size v k xs)(aq:v≠za none 0 0):∃g c,v=za (some ⟨g,0,none⟩) k c:=by
 rcases zm3 h with e|e
 ·exact absurd e aq
 ·exact e
theorem yz6{w:zi}{base k g c:Nat}{e:TypeId}{size:Nat}{xs:List Value}(h:w.ownsRow base e size (za (some ⟨g,0,none⟩) k c) k xs):k<=c:=by
 obtain⟨_,⟨h1,_⟩|⟨g',ac,az,h2,_,_,h3,_⟩⟩:=h
 ·cases h1
 ·injection h2 with e1 e2 e3
  omega
theorem zn2{v v':Value}{m:Nat}(h:v'=za none 0 0↔v=za none 0 0/\m=0)(hv:∃g n c,v=za (some ⟨g,0,none⟩) n c):v'≠za none 0 0:=by
 intro e;obtain⟨g,n,c,rfl⟩:=hv;have:=(h.1 e).1;simp at this
theorem ze2(W:zi)(x:Int):za3 (W.alloc (zg #[ze zd x] 2)) (some ⟨W.heap.size,0,none⟩) [x]:=by
 intro j hj;have:j=0:=by simpa using hj
 subst this;exact⟨_,_,rfl,zq4 W _ _ _ rfl⟩
theorem zz2{w:zi}{base g n ac:Nat}{e:TypeId}{zs:List Int}(h:w.ownsRow base e 1 (za (some ⟨g,0,none⟩) n ac) zs.length (zs.map (ze zd)))(hn:zs.length=n):za3 w (some ⟨g,0,none⟩) zs:=by
 rw[hn]at h;exact zd4 h
theorem z39{g n c k:Nat}(e:(za (some ⟨g,0,none⟩) n c).ownBlock=some k):g<=k:=by
 have:g=k:=by injection e
 omega
theorem zq7{E:TypeId}{z:Value}{size bytes:Nat}(h:(Tryz.prog.info? E).map (fun i=>(i.zero,i.size,i.bytes))=some (some z,size,bytes)):∃i0,Tryz.prog.info? E=some i0/\i0.zero=some z/\i0.size=size/\i0.bytes=bytes:=by
 cases hq:Tryz.prog.info? E with
 |none=>rw[hq]at h;simp at h
 |some i0=>
  rw[hq]at h;simp only[yG,x7,qw]at h;exact⟨i0,rfl,h.1,h.2.1,h.2.2⟩
theorem add_plain(b off j:Nat):(⟨b,off,none⟩:Zd).add j=⟨b,off+j,none⟩:=by unfold zN;split<;>simp_all
theorem zk7{T E:TypeId}{z:Value}{size bytes:Nat}(ht:Tryz.prog.underlying T=some (.slice E))(d_:(Tryz.prog.info? E).map (fun i=>(i.zero,i.size,i.bytes))=some (some z,size,bytes))(Ek:z.cells.size=size)(bW:0<size)
 (w:zi) {ap:Array Oper} {rest:List Oper} {o:Oper} {a:Act} {Q:Exit->Act->zi->Prop}
 (hg:o.guard=none) (s x:Operand) (du:o.op=zI {callee:=zw zx,args:=#[s,x],argTypes:=#[T,T]})
 (base:Nat) (v:Value) (k:Nat) (xs:List Value) (hs:a.eval s=v) (ae:w.ownsRow base E size v k xs) (b off m c:Nat) (ys:List Value) (hx:a.eval x=za (some ⟨b,off,none⟩) m c)
 (hy:ys.length=m*size) (hc:∀j u,ys[j]? =some u->w.cell? ⟨b,off+j,none⟩=some u) (h1:∀u∈ys,u.oneCell'=true) (wR:k+m<=70368744177663) (cK:(k+m)*bytes<=140737488355328) (hb:base<=w.heap.size)
 (hK:∀v' w',w'.ownsRow base E size v' (k+m) (xs++ys)->w.grownBy w' v.ownBlock->(v'.ownBlock=v.ownBlock∨v'.ownBlock=some w.heap.size)->(v'=za none 0 0↔v=za none 0 0/\m=0)->wpList zh ap Q rest (a.put o.dst v') w'):
 wpList zh ap Q (o::rest) a w:=by
 obtain⟨i0,hi,bN,ba,bR⟩:=zq7 d_;have bQ:∀j u,ys[j]? =some u->w.cell? ((⟨b,off,none⟩:Zd).add j)=some u:=fun j u hu=>by rw[add_plain];exact hc j u hu
 obtain⟨v',w',aS,r1,r2,r3⟩:=qy (P:=zh) w base T o.type _ i0 _ size bytes ht hi bN ba bR Ek bW v k xs ae ⟨b,off,none⟩ m c ys hy bQ h1 (by unfold maxLen;omega) cK hb;have r4:=zN9 (P:=zh) w base T o.type _ i0 _ size bytes ht hi bN ba bR v k xs ae ⟨b,off,none⟩ m c ys hy bQ h1 (by unfold maxLen;omega) cK aS;exact zz0 v' hg (y68 s x _ v _ du hs hx aS) (hK v' w' r1 r2 r4 r3)
theorem zd3{T E:TypeId}{z:Value}{size bytes:Nat}(ht:Tryz.prog.underlying T=some (.slice E))(d_:(Tryz.prog.info? E).map (fun i=>(i.zero,i.size,i.bytes))=some (some z,size,bytes))(Ek:z.cells.size=size)(bW:0<size)
 {ap:Array Oper} {o:Oper} {a:Act} {w:zi} {K:Act->zi->Prop} {Q:Exit->Act->zi->Prop} {Ph:Prop}
 (hg:o.guard=none) (s x:Operand) (du:o.op=zI {callee:=zw zx,args:=#[s,x],argTypes:=#[T,T]})
 (base:Nat) (v:Value) (k:Nat) (xs:List Value) (hs:a.eval s=v) (ae:w.ownsRow base E size v k xs) (b off m c:Nat) (ys:List Value) (hx:a.eval x=za (some ⟨b,off,none⟩) m c)
 (hy:ys.length=m*size) (hc:∀j u,ys[j]? =some u->w.cell? ⟨b,off+j,none⟩=some u) (h1:∀u∈ys,u.oneCell'=true) (wR:k+m<=70368744177663) (cK:(k+m)*bytes<=140737488355328) (hb:base<=w.heap.size)
 (hK:∀v' w',w'.ownsRow base E size v' (k+m) (xs++ys)->w.grownBy w' v.ownBlock->(v'.ownBlock=v.ownBlock∨v'.ownBlock=some w.heap.size)->(v'=za none 0 0↔v=za none 0 0/\m=0)->K (a.put o.dst v') w'):
 if zn o (yielded ap a.tmps)=true then zG zh o a w K Q else Ph:=by
 have hw:zn o (yielded ap a.tmps)=true:=by simp[zn,hg]
 rw[z7 hw];obtain⟨i0,hi,bN,ba,bR⟩:=zq7 d_;have bQ:∀j u,ys[j]? =some u->w.cell? ((⟨b,off,none⟩:Zd).add j)=some u:=fun j u hu=>by rw[add_plain];exact hc j u hu
 obtain⟨v',w',aS,r1,r2,r3⟩:=qy (P:=zh) w base T o.type _ i0 _ size bytes ht hi bN ba bR Ek bW v k xs ae ⟨b,off,none⟩ m c ys hy bQ h1 (by unfold maxLen;omega) cK hb;have r4:=zN9 (P:=zh) w base T o.type _ i0 _ size bytes ht hi bN ba bR v k xs ae ⟨b,off,none⟩ m c ys hy bQ h1 (by unfold maxLen;omega) cK aS;unfold zG;simp[execOp,du,resolve,invoke,builtin,hs,hx,aS,zK];exact hK _ _ r1 r2 r4 r3
theorem yl6:(Tryz.prog.info? 103).map (fun i=>(i.zero,i.size,i.bytes))=some (some (.agg #[ze zd 0,ze zd 0,ze zd 0,ze zd 0,ze zd 0,ze zd 0]),6,48):=by kernel_rfl
theorem yd3(w:zi){ap:Array Oper}{rest:List Oper}{o:Oper}{a:Act}{Q:Exit->Act->zi->Prop}
 (hg:o.guard=none) (l c:Operand) (du:o.op=Op.makeSlice 27 l c) (base:Nat)
 (kl kc:IntKind) (C:Int) (n:Nat) (hl:a.eval l=.int kl 0) (hc:a.eval c=.int kc C) (hC:C=(n:Int)) (b2:n<=1048576) (b4:base<=w.heap.size)
 (hK:∀w',w'.ownsRow base 103 6 (za (some ⟨w.heap.size,0,none⟩) 0 n) 0 []->w.grownBy w' none->wpList zh ap Q rest (a.put o.dst (za (some ⟨w.heap.size,0,none⟩) 0 n)) w'):
 wpList zh ap Q (o::rest) a w:=by
 obtain⟨i0,hi,bN,ba,bR⟩:=qx yl6;exact wpList_make_own w hg l c _ du base _ i0 _ 6 Tryz.underlying27 hi bN ba kl kc C n hl hc hC (by rw[bR];omega) (by unfold maxLen;omega) b4 hK
theorem zQ1(w:zi){ap:Array Oper}{rest:List Oper}{o:Oper}{a:Act}{Q:Exit->Act->zi->Prop}
 (hg:o.guard=none) (s x:Operand) (du:o.op=zI {callee:=zw zx,args:=#[s,x],argTypes:=#[27,27]})
 (base:Nat) (g k ac:Nat) (xs:List Value) (hs:a.eval s=za (some ⟨g,0,none⟩) k ac) (ae:w.ownsRow base 103 6 (za (some ⟨g,0,none⟩) k ac) k xs) (ad:Zd) (m c:Nat) (bP:List Value) (hx:a.eval x=za (some ad) m c) (hn:bP.length=m*6)
 (hc:∀j u,bP[j]? =some u->w.cell? (ad.add j)=some u) (jV:∀u∈bP,u.oneCell'=true) (b1:k+m<=ac)
 (hK:∀w',w'.ownsRow base 103 6 (za (some ⟨g,0,none⟩) (k+m) ac) (k+m) (xs++bP)->w.grownBy w' (some g)->wpList zh ap Q rest (a.put o.dst (za (some ⟨g,0,none⟩) (k+m) ac)) w'):
 wpList zh ap Q (o::rest) a w:=by
 obtain⟨i0,hi,bN,ba,bR⟩:=qx yl6;exact wpList_append_fits w hg s x _ du base _ i0 6 Tryz.underlying27 hi ba g k ac xs hs ae ad m c bP hx hn hc jV b1 hK
theorem y42(os:List Int)(ko:Nat)(ids:List Int){k:Nat}{id:Int}(hk:k<ids.length)(cB:ids.getD k 0=id){o0 o1 o2 o3 o4 o5:Int}(h0:zd1 os ko id 0=o0)(h1:zd1 os ko id 1=o1)(h2:zd1 os ko id 2=o2)(h3:zd1 os ko id 3=o3)(h4:zd1 os ko id 4=o4)(h5:zd1 os ko id 5=o5):
 (((zd5 os ko ids).take (k*6)).map (ze zd))++[ze zd o0,ze zd o1,ze zd o2,ze zd o3,ze zd o4,ze zd o5]=((zd5 os ko ids).take ((k+1)*6)).map (ze zd):=by
 have hl:=zj0 os ko ids;have e:(k+1)*6=k*6+1+1+1+1+1+1:=by omega
 have g:∀f,f<6->(zd5 os ko ids).getD (k*6+f) 0=zd1 os ko id f:=fun f hf=>cB▸zj8 os ko ids hk hf;rw[e,zf6 _ _ (by omega),zf6 _ _ (by omega),zf6 _ _ (by omega),zf6 _ _ (by omega),zf6 _ _ (by omega),zf6 _ _ (by omega)];have g0:=g 0 (by omega);have g1:=g 1 (by omega);have g2:=g 2 (by omega);have g3:=g 3 (by omega);have g4:=g 4 (by omega);have g5:=g 5 (by omega);simp only[Nat.add_zero]at g0;simp only[g0,g1,g2,g3,g4,g5,h0,h1,h2,h3,h4,h5];simp
theorem yr2(W:zi)(o0 o1 o2 o3 o4 o5:Value)(T:TypeId)(g:Nat)(hg:W.heap.size=g):∀j u,[o0,o1,o2,o3,o4,o5][j]? =some u->(W.alloc (zg #[o0,o1,o2,o3,o4,o5] T)).cell? ((⟨g,0,none⟩:Zd).add j)=some u:=by
 intro j u hu;subst hg;have dO:(⟨W.heap.size,0,none⟩:Zd).add j=⟨W.heap.size,j,none⟩:=by unfold zN;split<;>simp_all
 rw[dO,zU _ _ j _ _ _ (zS W (zg #[o0,o1,o2,o3,o4,o5] T))];simpa using hu
def yM4(n:Int)(zs ros:List Int)(home am:Int)(k f:Nat):Int:=
 if f=0 then og6 ros k 0 else if f=1 then ym8 n zs ros home am k else if f=2 then zi0 n zs ros home am k else z00 n zs ros home am (k+1)
def y83(n:Int)(zs ros:List Int)(home am:Int)(m:Nat):List Int:=(List.range (m*4)).map fun j=>yM4 n zs ros home am (j / 4) (j % 4)
theorem zG5(n:Int)(zs ros:List Int)(home am:Int)(m:Nat):(y83 n zs ros home am m).length=m*4:=by simp[y83]
theorem zR5(n:Int)(zs ros:List Int)(home am:Int){m k f:Nat}(hk:k<m)(hf:f<4):(y83 n zs ros home am m).getD (k*4+f) 0=yM4 n zs ros home am k f:=by
 unfold y83;have hj:k*4+f<m*4:=by omega
 have e1:(k*4+f) / 4=k:=by omega
 have e2:(k*4+f) % 4=f:=by omega
 rw[zy,yr,List.getElem?_range hj];simp only[yG,yR,e1,e2]
theorem yt4(n:Int)(zs ros:List Int)(home am:Int){m k:Nat}(hk:k<m){x0 x1 x2 x3:Int}(h0:og6 ros k 0=x0)(h1:ym8 n zs ros home am k=x1)(h2:zi0 n zs ros home am k=x2)(h3:z00 n zs ros home am (k+1)=x3):
 (((y83 n zs ros home am m).take (k*4)).map (ze zd))++[ze zd x0,ze zd x1,ze zd x2,ze zd x3]=((y83 n zs ros home am m).take ((k+1)*4)).map (ze zd):=by
 have hl:=zG5 n zs ros home am m;have e:(k+1)*4=k*4+1+1+1+1:=by omega
 have g0:=zR5 n zs ros home am hk (f:=0) (by omega);have g1:=zR5 n zs ros home am hk (f:=1) (by omega);have g2:=zR5 n zs ros home am hk (f:=2) (by omega);have g3:=zR5 n zs ros home am hk (f:=3) (by omega);simp only[Nat.add_zero,yM4]at g0 g1 g2 g3;rw[e,zf6 _ _ (by omega),zf6 _ _ (by omega),zf6 _ _ (by omega),zf6 _ _ (by omega)];simp only[g0,g1,g2,g3];simp[h0,h1,h2,h3]
theorem y62:(Tryz.prog.info? 205).map (fun i=>(i.zero,i.size,i.bytes))=some (some (.agg #[ze zd 0,ze zd 0,ze zd 0,ze zd 0]),4,32):=by kernel_rfl
theorem zQ8(w:zi){ap:Array Oper}{rest:List Oper}{o:Oper}{a:Act}{Q:Exit->Act->zi->Prop}
 (hg:o.guard=none) (s x:Operand) (du:o.op=zI {callee:=zw zx,args:=#[s,x],argTypes:=#[172,172]})
 (base:Nat) (v:Value) (k:Nat) (xs:List Value) (hs:a.eval s=v) (ae:w.ownsRow base 205 4 v k xs) (ad:Zd) (c:Nat) (bP:List Value) (hx:a.eval x=za (some ad) 1 c) (hn:bP.length=4)
 (hc:∀j u,bP[j]? =some u->w.cell? (ad.add j)=some u) (jV:∀u∈bP,u.oneCell'=true) (b1:k<=1000) (hb:base<=w.heap.size)
 (hK:∀v' w',w'.ownsRow base 205 4 v' (k+1) (xs++bP)->w.grownBy w' v.ownBlock->wpList zh ap Q rest (a.put o.dst v') w'):
 wpList zh ap Q (o::rest) a w:=by
 obtain⟨i0,hi,bN,ba,bR⟩:=qx y62;exact wpList_append_own w hg s x _ du base _ i0 _ 4 32 Tryz.underlying172 hi bN ba bR rfl (by decide) v k xs hs ae ad 1 c bP hx (by rw[hn]) hc jV (by unfold maxLen;omega) (by omega) hb (fun v' w' h1 h2 _=>hK v' w' h1 h2)
theorem yq1(W:zi)(o0 o1 o2 o3:Value)(T:TypeId)(g:Nat)(hg:W.heap.size=g):∀j u,[o0,o1,o2,o3][j]? =some u->(W.alloc (zg #[o0,o1,o2,o3] T)).cell? ((⟨g,0,none⟩:Zd).add j)=some u:=by
 intro j u hu;subst hg;have dO:(⟨W.heap.size,0,none⟩:Zd).add j=⟨W.heap.size,j,none⟩:=by unfold zN;split<;>simp_all
 rw[dO,zU _ _ j _ _ _ (zS W (zg #[o0,o1,o2,o3] T))];simpa using hu
theorem y32{w:zi}{base k:Nat}{v:Value}{e:TypeId}{size:Nat}{xs:List Value}(h:w.ownsRow base e size v (k+1) xs):∃g c,v=za (some ⟨g,0,none⟩) (k+1) c/\base<=g:=by
 obtain⟨_,⟨_,h2⟩|⟨g,ac,az,h2,h3,_⟩⟩:=h
 ·omega
 ·exact⟨g,ac,h2,h3⟩
theorem CR.grown{w W W':zi}{cs rs:Array Value}{g:Nat}(h:CR w W cs rs)(hg:W.grownBy W' (some g))(ah:w.heap.size+1<g):CR w W' cs rs:=
 ⟨h.1.grown hg h.1.size (fun k e=>by cases e;omega),(hg.block _ (za2 h.2.1) (fun e=>by cases e;omega)).trans h.2.1,(hg.block _ (za2 h.2.2) (fun e=>by cases e;omega)).trans h.2.2⟩
theorem zy6(n x y:Int)(a:Option Zd)(ac:Nat)(zs:List Int)(w:zi)(d:Int)(hd:tmI n zs x y=d)(hm:zq6 n zs=true)(hx:0<=x/\x<n)(hy:0<=y/\y<n)(hA:za3 w a zs):
 Calls zh 109 #[.agg #[ze zd n,za a zs.length ac],ze zd x,ze zd y] w fun e w'=>e=.returned (ze zd d)/\Za w.heap.size w w':=hd▸y67 n x y a ac zs w hm hx hy hA
theorem zB5(n fine ab:Int)(a ao av bi:Option Zd)(ac ko co kv cv c2:Nat)(zs os vs ids:List Int)(w:zi)(hA:za3 w a zs)(hO:za3 w ao os)(hV:za3 w av vs)(hI:za3 w bi ids)(an:os.length=ko*6)(au:vs.length=kv*5)(aA:ko<=9223372036854775807)(aB:kv<=9223372036854775807)(fe:ids.length<=9223372036854775807)(cw:ids.length<=c2):
 Calls zh 128 #[.agg #[ze zd n,za a zs.length ac,za ao ko co,za av kv cv,ze zd fine],.agg #[ze zd ab,za bi ids.length c2]] w fun e w'=>Za w.heap.size w w'/\((codeV (zd0 n zs os vs ko kv fine) n zs os vs ko kv ab ids≠0/\e=.returned (.tuple #[za none 0 0,ze zd 0,ze zd (codeV (zd0 n zs os vs ko kv fine) n zs os vs ko kv ab ids)]))∨(codeV (zd0 n zs os vs ko kv fine) n zs os vs ko kv ab ids=0/\∃g c,w.heap.size<=g/\e=.returned (.tuple #[za (some ⟨g,0,none⟩) ids.length c,ze zd (homeV n zs (zd5 os ko ids) ids.length (zc4 vs kv ab 1) (zc4 vs kv ab 3)),ze zd 0])/\za3 w' (some ⟨g,0,none⟩) (y83 n zs (zd5 os ko ids) (zc4 vs kv ab 1) (zc4 vs kv ab 3) ids.length))):=by
 have HA:=za4 hA;have HO:=za4 hO;have HV:=za4 hV;have HI:=za4 hI;have aF:Zb _:=an;have aE:Zb _:=au;clear hA hO hV hI an au;have bo:Zb (CR w ((w.alloc (zg #[ze zd n,za a zs.length ac,za ao ko co,za av kv cv,ze zd fine] 30)).alloc (zg #[ze zd ab,za bi ids.length c2] 80)) _ _):=CR.new w _ _;obtain⟨r,HR⟩:=nmd (codeV (zd0 n zs os vs ko kv fine) n zs os vs ko kv ab ids);rw[HR.X];go_enter Tryz.func128,Tryz.ntmps128;obtain⟨c0,c1,bZ,c3,c4⟩:=za7 bo.2.1;obtain⟨d0,d1⟩:=za1 bo.2.2
 go_wp2_with fail
 clear c0 c1 bZ c3 c4 d0 d1;refine(yp5 n fine ab a ao av bi ac ko co kv cv c2 zs os vs ids _ (HA.below bo.1) (HO.below bo.1) (HV.below bo.1) (HI.below bo.1) aF.X aE.X aA aB fe cw).mono ?_;rintro e w1 ⟨rfl,hb⟩;have C1:=za4 (bo.below hb);clear hb bo;obtain⟨fv,eR⟩:=nmd (zm7 (zd0 n zs os vs ko kv fine) vs os kv ko ab ids);rw[eR.X];by_cases oQ:fv=0
 ·subst oQ
  have bA:=(zv0 (n:=n) (zs:=zs) eR.X).symm.trans HR.X;obtain⟨jl,_,n5⟩:=zf2 eR.X;obtain⟨cA,ce,b8,a8,_⟩:=zb2 jl;have eZ:=zr6 b8 a8 ab;have db:Zb _:=cA;have mT:Zb _:=ce;have mB:Zb _:=a8;have bH:=(zg3 n5).1;clear cA ce b8 a8 jl n5;obtain⟨c0,c1,bZ,c3,c4⟩:=za7 C1.2.1;obtain⟨d0,d1⟩:=za1 C1.2.2
  go_wp2_with fail
  clear c0 c1 bZ c3 c4 d0 d1;refine(zG3 n fine ab a ao av _ ac ko co kv cv vs _ (HV.below C1.1) aE.X aB).mono ?_;rintro e w2 ⟨rfl,hb⟩;obtain⟨v0,G0⟩:=nmd (zc4 vs kv ab 0);obtain⟨v1,G1⟩:=nmd (zc4 vs kv ab 1);obtain⟨v2,G2⟩:=nmd (zc4 vs kv ab 2);obtain⟨v3,G3⟩:=nmd (zc4 vs kv ab 3);obtain⟨v4,G4⟩:=nmd (zc4 vs kv ab 4);rw[G1.X,G2.X,G3.X,G4.X]at eZ;rw[G1.X,G3.X,G4.X]at bA;rw[G0.X,G1.X,G2.X,G3.X,G4.X];generalize fnd5T vs kv ab=tv;have cm:Zb _:=bA;have jM:Zb _:=eZ.1;have Gy:Zb _:=eZ.2.2.1;clear eZ bA;have C3:Zb (CR w ((w2.alloc (zg #[ze zd v0,ze zd v1,ze zd v2,ze zd v3,ze zd v4] 107)).alloc (zg #[] 205)) _ _):=CR.alloc (CR.alloc (C1.below hb) _) _;have fC:Zb (((w2.alloc (zg #[ze zd v0,ze zd v1,ze zd v2,ze zd v3,ze zd v4] 107)).alloc (zg #[] 205)).heap[w2.heap.size]? =_):=xm _ _ _;have uZ:Zb (((w2.alloc (zg #[ze zd v0,ze zd v1,ze zd v2,ze zd v3,ze zd v4] 107)).alloc (zg #[] 205)).heap[w2.heap.size+1]? =_):=xh _ _ _;have Kb:Zb _:=za2 (C1.below hb).2.2;clear hb C1;obtain⟨q0,q1,q2,q3,q4⟩:=za7 fC.X
  go_wp2_with fail
  clear q0 q1 q2 q3 q4;generalize(w2.alloc _).alloc _=W2 at*;generalize w2.heap.size=gv at*;have Kh:Zb (W2.ownsRow (gv+1) 205 4 (za (some ⟨gv+1,0,none⟩) 0 0) 0 []):=⟨by simp,.inr ⟨gv+1,0,#[],rfl,zT _,uZ.X,zT _,xi _,by simp,by simp⟩⟩;have dH:Zb (z48 n (zd5 os ko ids) ids.length):=z61 mT.X mB.X ids;go_loopw[10,11,12,13] (fun sl nw pl t wr=>∃k gg cc:Nat,k<=ids.length/\t=ze zd k/\sl=za (some ⟨gg,0,none⟩) k cc/\gv+1<=gg/\wr.ownsRow (gv+1) 205 4 (za (some ⟨gg,0,none⟩) k cc) k (((y83 n zs (zd5 os ko ids) v1 v3 ids.length).take (k*4)).map (ze zd))/\pl=ze zd (plc (zd5 os ko ids) v1 k)/\nw=ze zd (z00 n zs (zd5 os ko ids) v1 v3 k)/\zz3 n zs (zd5 os ko ids) v1 v3 k/\CR w wr #[ze zd n,za a zs.length ac,za ao ko co,za av kv cv,ze zd fine] #[ze zd ab,za bi ids.length c2]/\wr.heap[gv]? =some (zg #[ze zd v0,ze zd v1,ze zd v2,ze zd v3,ze zd v4] 107 (0,0))) (fun _ _ _ t _=>ids.length - (intOf t).toNat)
  case atStart=>exact⟨0,gv+1,0,xi _,rfl,rfl,zT _,by simpa using Kh.X,rfl,rfl,fun j hj=>by omega,C3.X,fC.X⟩
  case round=>
   clear C3 fC uZ Kh;obtain⟨k,gg,cc,hk,rfl,rfl,vK,hw,rfl,rfl,KU,hb,jA⟩:=hrel;have aT:=ya2 dH.X jM.1 jM.2 k hk;have lE:=zR7 (home:=v1) db.X dH.X Gy.X k hk;have wT:=za4 KU;have HB:=za4 hb;have bA:=za4 jA;have HW:=za4 hw;have vg:Zb _:=vK;obtain⟨c0,c1,bZ,c3,c4⟩:=za7 hb.2.1;obtain⟨d0,d1⟩:=za1 hb.2.2;obtain⟨p,bk⟩:=nmd (plc (zd5 os ko ids) v1 k);obtain⟨f,fd⟩:=nmd (z00 n zs (zd5 os ko ids) v1 v3 k);rw[bk.X]at aT;rw[fd.X]at lE;rw[bk.X,fd.X];have mt:Zb _:=aT;clear KU hb jA aT hw vK;by_cases ah:k<ids.length
   ·obtain⟨b,off,rfl,aJ⟩:=za3.some (za3.below HI.X HB.1) ah
    have ct:=aJ k ah;clear aJ;obtain⟨id,bF⟩:=nmd (ids.getD k 0);rw[bF.X]at ct;obtain⟨vF,In,FC,GE,Eu⟩:=zT4 mT.X mB.X id;obtain⟨o0,H0⟩:=nmd (zd1 os ko id 0);obtain⟨o1,H1⟩:=nmd (zd1 os ko id 1);obtain⟨o2,H2⟩:=nmd (zd1 os ko id 2);obtain⟨o3,H3⟩:=nmd (zd1 os ko id 3);obtain⟨o4,H4⟩:=nmd (zd1 os ko id 4);obtain⟨o5,H5⟩:=nmd (zd1 os ko id 5);rw[H1.X]at vF;rw[H3.X]at FC;rw[H4.X]at GE;rw[H5.X]at Eu;have fq:Zb _:=vF;clear vF In;obtain⟨d,HD⟩:=nmd (tmI n zs p o1);have km:=zy1 db.X p o1;rw[HD.X]at km;have K0:Zb (og6 (zd5 os ko ids) k 0=o0):=(zj8 os ko ids ah (by omega)).trans (by rw[bF.X];exact H0.X);have K1:Zb (og6 (zd5 os ko ids) k 1=o1):=(zj8 os ko ids ah (by omega)).trans (by rw[bF.X];exact H1.X);have K3:Zb (og6 (zd5 os ko ids) k 3=o3):=(zj8 os ko ids ah (by omega)).trans (by rw[bF.X];exact H3.X);have K4:Zb (og6 (zd5 os ko ids) k 4=o4):=(zj8 os ko ids ah (by omega)).trans (by rw[bF.X];exact H4.X);have K5:Zb (og6 (zd5 os ko ids) k 5=o5):=(zj8 os ko ids ah (by omega)).trans (by rw[bF.X];exact H5.X);obtain⟨mx,mM⟩:=nmd (max (f+d) o3);have Ag:Zb (ym8 n zs (zd5 os ko ids) v1 v3 k=f+d):=by
     show _=_;unfold ym8;rw[fd.X,bk.X,K1.X,HD.X]
    have iO:Zb (zi0 n zs (zd5 os ko ids) v1 v3 k=mx):=by
     show _=_;unfold zi0;rw[Ag.X,K3.X,mM.X]
    have aZ:Zb (z00 n zs (zd5 os ko ids) v1 v3 (k+1)=mx+o5):=by
     show _=_;rw[zV6,iO.X,K5.X]
    have NT:0<=mx/\mx<=3000000:=by
     have:=mM.X;omega
    obtain⟨tt,eN⟩:=nmd (zl7 os ko id)
    go_wp2_with fail
    have ip:=za4 ct;have gZ:Zb ((wr.alloc (zg #[ze zd 0,ze zd 0,ze zd 0,ze zd 0,ze zd 0,ze zd 0] 103)).cell? ⟨b,off+k,none⟩=_):=(((y5 wr.heap.size wr).alloc (zT _) _).cell (p:=⟨b,off+k,none⟩) (zV ct)).trans ct;have lm:Zb ((wr.alloc (zg #[ze zd 0,ze zd 0,ze zd 0,ze zd 0,ze zd 0,ze zd 0] 103)).heap[gv]? =_):=(xg _ _ (za2 bA.X)).trans bA.X;have cM:=zV ct;simp at cM;have aD:=za2 HB.2.1;have dX:=za2 HB.2.2
    go_region_held3 (fun W=>W.cell? ⟨w.heap.size,0,none⟩=some (ze zd n)/\W.cell? ⟨w.heap.size,1,none⟩=some (za a zs.length ac)/\W.cell? ⟨w.heap.size,2,none⟩=some (za ao ko co)/\W.cell? ⟨w.heap.size,3,none⟩=some (za av kv cv)/\W.cell? ⟨w.heap.size,4,none⟩=some (ze zd fine)/\W.cell? ⟨w.heap.size+1,1,none⟩=some (za (some ⟨b,off,none⟩) ids.length c2)/\W.cell? ⟨b,off+k,none⟩=some (ze zd id)) (first|with_reducible exact kS|with_reducible exact⟨(za5 (za5 (za5 (za5 (za5 (za5 kS.1 (y8 aD)) (y8 aD)) (y8 aD)) (y8 aD)) (y8 aD)) (y8 aD)),(za5 (za5 (za5 (za5 (za5 (za5 kS.2.1 (y8 aD)) (y8 aD)) (y8 aD)) (y8 aD)) (y8 aD)) (y8 aD)),(za5 (za5 (za5 (za5 (za5 (za5 kS.2.2.1 (y8 aD)) (y8 aD)) (y8 aD)) (y8 aD)) (y8 aD)) (y8 aD)),(za5 (za5 (za5 (za5 (za5 (za5 kS.2.2.2.1 (y8 aD)) (y8 aD)) (y8 aD)) (y8 aD)) (y8 aD)) (y8 aD)),(za5 (za5 (za5 (za5 (za5 (za5 kS.2.2.2.2.1 (y8 aD)) (y8 aD)) (y8 aD)) (y8 aD)) (y8 aD)) (y8 aD)),(za5 (za5 (za5 (za5 (za5 (za5 kS.2.2.2.2.2.1 (y8 dX)) (y8 dX)) (y8 dX)) (y8 dX)) (y8 dX)) (y8 dX)),(za5 (za5 (za5 (za5 (za5 (za5 kS.2.2.2.2.2.2 (y8 cM)) (y8 cM)) (y8 cM)) (y8 cM)) (y8 cM)) (y8 cM))⟩|go_keep) ((first
     |(go_at_call 88
       with_reducible refine(zr7 n fine id a ao av _ ac ko co kv cv os wr.drew ?_ aF.X aA).mono ?_
       ·exact HO.below HB.1.drew
       rintro e w2 ⟨rfl,aC⟩;rw[H0.X,H1.X,H2.X,H3.X,H4.X,H5.X,eN.X];have aQ:=CR.below (CR.drew HB.X) aC;obtain⟨k0,k1,k2,k3,k4⟩:=za7 aQ.2.1;have k5:=(za1 aQ.2.2).2;have k6:=(aC.cell (p:=⟨b,off+k,none⟩) (zV ip.X)).trans ip.X;have kS:=xr k0 (xr k1 (xr k2 (xr k3 (xr k4 (xr k5 k6)))));have fB:=za4 aQ;have fm:=za4 (za0 aC (za2 bA.X) bA.X);have B2:Zb (Za wr.heap.size wr w2):=(y5 _ wr).drew.trans aC;clear aC aQ k0 k1 k2 k3 k4 k5 k6)
     |(go_at_call 88
       with_reducible refine(zr7 n fine id a ao av _ ac ko co kv cv os (wr.alloc (zg #[ze zd 0,ze zd 0,ze zd 0,ze zd 0,ze zd 0,ze zd 0] 103)).drew ?_ aF.X aA).mono ?_
       ·exact HO.below (CR.alloc HB.X (zg #[ze zd 0,ze zd 0,ze zd 0,ze zd 0,ze zd 0,ze zd 0] 103)).1.drew
       rintro e w2 ⟨rfl,aC⟩;rw[H0.X,H1.X,H2.X,H3.X,H4.X,H5.X,eN.X];have aQ:=CR.below (CR.drew (CR.alloc HB.X (zg #[ze zd 0,ze zd 0,ze zd 0,ze zd 0,ze zd 0,ze zd 0] 103))) aC;obtain⟨k0,k1,k2,k3,k4⟩:=za7 aQ.2.1;have k5:=(za1 aQ.2.2).2;have k6:=(aC.cell (p:=⟨b,off+k,none⟩) (zV gZ.X)).trans gZ.X;have kS:=xr k0 (xr k1 (xr k2 (xr k3 (xr k4 (xr k5 k6)))));have fB:=za4 aQ;have fm:=za4 (za0 aC (za2 lm.X) lm.X);obtain⟨z0,z1,z2,z3,z4,z5⟩:=zi2 (za0 aC (k:=wr.heap.size) (by simp) (zS wr (zg #[ze zd 0,ze zd 0,ze zd 0,ze zd 0,ze zd 0,ze zd 0] 103)));have zf:=fun i=>yZ _ _ i _ _ (za0 aC (k:=wr.heap.size) (by simp) (zS wr (zg #[ze zd 0,ze zd 0,ze zd 0,ze zd 0,ze zd 0,ze zd 0] 103)))
       have lB:Zb (w2.heap[wr.heap.size]? =_):=za0 aC (k:=wr.heap.size) (by simp) (zS wr (zg #[ze zd 0,ze zd 0,ze zd 0,ze zd 0,ze zd 0,ze zd 0] 103));have B2:Zb _:=((y5 _ wr).alloc (zT _) _).drew.trans (aC.mono (by simp));clear aC aQ k0 k1 k2 k3 k4 k5 k6)))
    all_goals(first
     |(have ed:Zb (CR w (zj (zj (zj (zj (zj (zj w2 ⟨wr.heap.size,0,none⟩ (ze zd o0)) ⟨wr.heap.size,1,none⟩ (ze zd o1)) ⟨wr.heap.size,2,none⟩ (ze zd o2)) ⟨wr.heap.size,3,none⟩ (ze zd o3)) ⟨wr.heap.size,4,none⟩ (ze zd o4)) ⟨wr.heap.size,5,none⟩ (ze zd o5)) _ _):=CR.set (CR.set (CR.set (CR.set (CR.set (CR.set fB.X HB.big) HB.big) HB.big) HB.big) HB.big) HB.big
       have kQ:Zb ((zj (zj (zj (zj (zj (zj w2 ⟨wr.heap.size,0,none⟩ (ze zd o0)) ⟨wr.heap.size,1,none⟩ (ze zd o1)) ⟨wr.heap.size,2,none⟩ (ze zd o2)) ⟨wr.heap.size,3,none⟩ (ze zd o3)) ⟨wr.heap.size,4,none⟩ (ze zd o4)) ⟨wr.heap.size,5,none⟩ (ze zd o5)).heap[gv]? =_):=za8 (za8 (za8 (za8 (za8 (za8 fm.X (y8 (za2 bA.X))) (y8 (za2 bA.X))) (y8 (za2 bA.X))) (y8 (za2 bA.X))) (y8 (za2 bA.X))) (y8 (za2 bA.X));have bE:Zb ((zj (zj (zj (zj (zj (zj w2 ⟨wr.heap.size,0,none⟩ (ze zd o0)) ⟨wr.heap.size,1,none⟩ (ze zd o1)) ⟨wr.heap.size,2,none⟩ (ze zd o2)) ⟨wr.heap.size,3,none⟩ (ze zd o3)) ⟨wr.heap.size,4,none⟩ (ze zd o4)) ⟨wr.heap.size,5,none⟩ (ze zd o5)).heap[wr.heap.size]? =_):=zP7 lB.X;have BW:Zb (∀base e size v n xs,wr.ownsRow base e size v n xs->World.ownsRow (zj (zj (zj (zj (zj (zj w2 ⟨wr.heap.size,0,none⟩ (ze zd o0)) ⟨wr.heap.size,1,none⟩ (ze zd o1)) ⟨wr.heap.size,2,none⟩ (ze zd o2)) ⟨wr.heap.size,3,none⟩ (ze zd o3)) ⟨wr.heap.size,4,none⟩ (ze zd o4)) ⟨wr.heap.size,5,none⟩ (ze zd o5)) base e size v n xs):=fun _ _ _ _ _ _ h=>zb9 h ((((((B2.setCell (zT _) _).setCell (zT _) _).setCell (zT _) _).setCell (zT _) _).setCell (zT _) _).setCell (zT _) _);clear kS fB fm lB ip gZ lm ct z0 z1 z2 z3 z4 z5 zf;generalize(zj (zj (zj (zj (zj (zj w2 ⟨wr.heap.size,0,none⟩ (ze zd o0)) ⟨wr.heap.size,1,none⟩ (ze zd o1)) ⟨wr.heap.size,2,none⟩ (ze zd o2)) ⟨wr.heap.size,3,none⟩ (ze zd o3)) ⟨wr.heap.size,4,none⟩ (ze zd o4)) ⟨wr.heap.size,5,none⟩ (ze zd o5))=W at*;generalize wr.heap.size=g at*)
     |(have ed:Zb (CR w (w2.alloc (zg #[ze zd o0,ze zd o1,ze zd o2,ze zd o3,ze zd o4,ze zd o5] 103)) _ _):=CR.alloc fB.X _
       have kQ:Zb ((w2.alloc (zg #[ze zd o0,ze zd o1,ze zd o2,ze zd o3,ze zd o4,ze zd o5] 103)).heap[gv]? =_):=(xg _ _ (za2 fm.X)).trans fm.X;have bE:Zb ((w2.alloc (zg #[ze zd o0,ze zd o1,ze zd o2,ze zd o3,ze zd o4,ze zd o5] 103)).heap[w2.heap.size]? =_):=zS _ _;have BW:Zb (∀base e size v n xs,wr.ownsRow base e size v n xs->(w2.alloc (zg #[ze zd o0,ze zd o1,ze zd o2,ze zd o3,ze zd o4,ze zd o5] 103)).ownsRow base e size v n xs):=fun _ _ _ _ _ _ h=>zb9 h (B2.alloc B2.size _);clear kS fB fm ip gZ lm ct;generalize w2.alloc _=W at*;generalize w2.heap.size=g at*))
    all_goals
     clear c0 c1 bZ c3 c4 d0 d1 aD dX cM eN;generalize tt=tt';have JH:Zb (W.ownsRow (gv+1) 205 4 _ k _):=BW.X _ _ _ _ _ _ HW.X;obtain⟨c0,c1,bZ,c3,c4⟩:=za7 ed.2.1;obtain⟨p0,p1,p2,p3,p4,p5⟩:=zi2 bE.X
     go_wp2_with fail
     clear c0 c1 bZ c3 c4 p0 p1 p2 p3 p4 p5;refine(zy6 n p o1 _ _ zs _ d HD.X db.X mt.X fq.X (HA.below ed.1)).mono ?_;rintro e W3 ⟨rfl,cJ⟩;have tX:=za4 (ed.below cJ);have fC:=za4 (za0 cJ (za2 kQ.X) kQ.X);have uZ:=za4 (za0 cJ (za2 bE.X) bE.X);have Le:=za4 (zb9 JH.X cJ);clear cJ ed kQ bE JH BW;obtain⟨p0,p1,p2,p3,p4,p5⟩:=zi2 uZ.X;by_cases fL:o4<mx
     ·have HN:Zb _:=cm.symm.trans (zJ4 ah (by rw[K4.X,iO.X];exact fL))
      have BB:(f+d<o3/\mx=o3)∨(o3<=f+d/\mx=f+d):=by
       have:=mM.X;omega
      rcases BB with⟨uY,rfl⟩|⟨uY,rfl⟩
      all_goals
       clear mM;go_wp2;refine xe (v:=.tuple #[za none 0 0,ze zd 0,ze zd 5]) (by simp[results,Tryz.results128,go_sem]) rfl ⟨tX.1,.inl ⟨by rw[HN.X];decide,by rw[HN.X]⟩⟩
     ·have tS:mx<=o4:=by omega
      have rD:=za4 (zQ6 wT.X (by rw[K4.X,iO.X];exact tS));have BB:(f+d<o3/\mx=o3)∨(o3<=f+d/\mx=f+d):=by
       have:=mM.X;omega
      have MT:Zb (gv+1<=W3.heap.size):=za2 fC.X;clear fL;rcases BB with⟨uY,rfl⟩|⟨uY,rfl⟩
      all_goals
       clear mM
       go_wp2_with(first
        |(at_builtin;refine zQ8 _ rfl _ _ rfl (gv+1) _ k _ rfl (Le.alloc _) _ 1 _ rfl rfl (yq1 _ _ _ _ _ _ _ (by simp)) (by simp[zq]) (by omega) (xj MT.X (by simp)) ?_;intro v' w4 hown4 aI;obtain⟨IB,JB,rfl,vX⟩:=y32 hown4))
       replace aI:World.grownBy _ w4 (some gg):=aI;rw[yt4 n zs (zd5 os ko ids) v1 v3 ah K0.X Ag.X iO.X aZ.X]at hown4;go_roundw
       case rel=>exact⟨k+1,IB,JB,by omega,by go_num,rfl,vX,hown4,by rw[<-K1.X];rfl,by rw[aZ.X],rD.X,(tX.alloc _).grown aI (by have:=vg.X;have:=Kb.X;omega),(aI.block _ (xw (za2 fC.X) (by simp)) (fun e=>by have h7:=vg.X;rw[x7]at e;omega)).trans ((xg _ _ (za2 fC.X)).trans fC.X)⟩
       case measure=>simp[intOf];omega
   ·have bu:k=ids.length:=by omega
    obtain⟨q0,q1,q2,q3,q4⟩:=za7 bA.X;have Dq:Zb (homeV n zs (zd5 os ko ids) ids.length v1 v3=f+tmI n zs p v1):=by
     show _=_;unfold homeV;rw[<-bu,fd.X,bk.X]
    have y_:=za4 (bu▸wT.X);have Dr:Zb (za3 wr (some ⟨gg,0,none⟩) (y83 n zs (zd5 os ko ids) v1 v3 ids.length)):=by
     have:=HW.X;rw[xF (by rw[zG5];omega)]at this;exact zd4 this
    obtain⟨d,HD⟩:=nmd (tmI n zs p v1);have km:=zy1 db.X p v1;rw[HD.X]at km Dq;have gY:(k:Int)=ids.length:=by omega
    have Pn:Zb _:=bu;clear bu gY
    go_wp2_with fail
    refine(zy6 n p v1 _ _ zs _ d HD.X db.X mt.X jM.X (HA.below HB.1)).mono ?_;rintro e W3 ⟨rfl,cJ⟩;have tX:=za4 (HB.below cJ);have fC:=za4 (za0 cJ (za2 bA.X) bA.X);have FE:=za4 (Dr.below cJ);clear cJ c0 c1 bZ c3 c4 d0 d1 q0 q1 q2 q3 q4;obtain⟨q0,q1,q2,q3,q4⟩:=za7 fC.X;by_cases gm:v4<f+d
    ·have HN:Zb _:=cm.symm.trans (zG6 y_.X (by rw[Dq.X];exact gm))
     go_wp2;refine xe (v:=.tuple #[za none 0 0,ze zd 0,ze zd 6]) (by simp[results,Tryz.results128,go_sem]) rfl ⟨tX.1,.inl ⟨by rw[HN.X];decide,by rw[HN.X]⟩⟩
    ·have HN:Zb _:=cm.symm.trans (zY8 y_.X (by rw[Dq.X];exact gm))
     go_wp2;refine xe (v:=.tuple #[za (some ⟨gg,0,none⟩) k cc,ze zd (f+d),ze zd 0]) (by simp[results,Tryz.results128,go_sem]) rfl ⟨tX.1,.inr ⟨HN.X,gg,cc,by have:=vg.X;have:=Kb.X;omega,?_,?_⟩⟩
     ·rw[G1.X,G3.X,Dq.X,Pn.X]
     ·rw[G1.X,G3.X]
      exact FE.X
 ·have bA:Zb _:=eR.symm.trans ((z92 (by rw[eR.X];exact oQ)).symm.trans HR.X)
  have mv:(fv !=0)=true:=by simp[oQ]
  have HF:=za4 oQ;clear oQ;go_wp2;refine xe (v:=.tuple #[za none 0 0,ze zd 0,ze zd fv]) (by simp[results,Tryz.results128,go_sem]) rfl ⟨C1.1,.inl ⟨by rw[<-bA.X];exact HF.X,by rw[bA.X]⟩⟩
theorem yj6{W:zi}{g o k i:Nat}{zs:List Int}{v:Value}(h:za3 W (some ⟨g,o,none⟩) zs)(aq:g≠k):za3 (W.setCell ⟨k,i,none⟩ v) (some ⟨g,o,none⟩) zs:=by
 intro j hj;exact⟨g,o,rfl,za5 (zs7 h hj rfl) aq⟩
theorem zk4{w:zi}{k:Nat}{c0 c1 c2 c3 c4 c5 c6 c7:Value}{T:TypeId}(r:w.heap[k]? =some (zg #[c0,c1,c2,c3,c4,c5,c6,c7] T (0,0))):
 w.cell? ⟨k,0,none⟩=some c0/\w.cell? ⟨k,1,none⟩=some c1/\w.cell? ⟨k,2,none⟩=some c2/\w.cell? ⟨k,3,none⟩=some c3/\w.cell? ⟨k,4,none⟩=some c4/\w.cell? ⟨k,5,none⟩=some c5/\w.cell? ⟨k,6,none⟩=some c6/\w.cell? ⟨k,7,none⟩=some c7:=by
 refine⟨?_,?_,?_,?_,?_,?_,?_,?_⟩
 ·rw[zU _ _ 0 _ _ _ r];simp
 ·rw[zU _ _ 1 _ _ _ r];simp
 ·rw[zU _ _ 2 _ _ _ r];simp
 ·rw[zU _ _ 3 _ _ _ r];simp
 ·rw[zU _ _ 4 _ _ _ r];simp
 ·rw[zU _ _ 5 _ _ _ r];simp
 ·rw[zU _ _ 6 _ _ _ r];simp
 ·rw[zU _ _ 7 _ _ _ r];simp
theorem z34(n lo hi:Int)(w:zi)(v:Bool)(hv:inB n lo hi=v):
 Calls zh 32 #[ze zd n,ze zd lo,ze zd hi] w fun e w'=>e=.returned (.bool v)/\w'=w:=hv▸zc3 n lo hi w
end Go.Proofs.YtkchnomkiboihaaGreat
namespace Go.Proofs.YtkchnomkiboihaaGreat
open Q
end Go.Proofs.YtkchnomkiboihaaGreat
namespace Go.Proofs.YtkchnomkiboihaaGreat
open RowKit renaming Below→Za,Hid→Zb
open Go renaming Calls→Zc,Addr→Zd
open Value renaming slice→za,int→ze,ownBlock→zm,oneCell'→zq
open IntKind renaming i64→zd
open Obj renaming cells→zg
open Proofs.Tryz renaming prog→zh
open Go renaming World→zi
open World renaming setCell→zj
open Region renaming wanted→zn
open Callee renaming builtin→zw
open Builtin renaming append→zx
open List renaming getD→zy
open Oper renaming wp→zG
open Op renaming call→zI
open Addr renaming add→zN
open Go.RowKit
open Q
def yh1(w:zi)(ch:Bool)(ab D:Int)(xs:List Int)(e:Ending)(w':zi):Prop:=
 Za w.heap.size w w'/\∃ad c,e=.returned (.tuple #[.agg #[ze zd (chI ch ab),za ad xs.length c],ze zd D,.bool ch])/\w'.ownsRow w.heap.size 2 1 (za ad xs.length c) xs.length (xs.map (ze zd))
def CRR(w W:zi)(cs rs ts:Array Value):Prop:=CR w W cs rs/\W.heap[w.heap.size+2]? =some (.cells ts 80 (0,0))
theorem CRR.new(w:zi)(cs rs ts:Array Value):CRR w (((w.alloc (.cells cs 30)).alloc (.cells rs 80)).alloc (.cells ts 80)) cs rs ts:=
 ⟨(CR.new w cs rs).alloc _,by have:=zS ((w.alloc (.cells cs 30)).alloc (.cells rs 80)) (.cells ts 80);simpa using this⟩
theorem CRR.below{w W W':zi}{cs rs ts:Array Value}(h:CRR w W cs rs ts)(hb:Za W.heap.size W W'):CRR w W' cs rs ts:=
 ⟨h.1.below hb,za0 hb (za2 h.2) h.2⟩
theorem CRR.b{w W:zi}{cs rs ts:Array Value}(h:CRR w W cs rs ts):Za w.heap.size w W:=h.1.1
theorem CRR.alloc{w W:zi}{cs rs ts:Array Value}(h:CRR w W cs rs ts)(o:Obj):CRR w (W.alloc o) cs rs ts:=h.below (zP _)
theorem CRR.big{w W:zi}{cs rs ts:Array Value}(h:CRR w W cs rs ts):w.heap.size+2<W.heap.size:=za2 h.2
theorem CRR.set{w W:zi}{cs rs ts:Array Value}(h:CRR w W cs rs ts)(u1 u2:Value):CR w ((W.setCell ⟨w.heap.size+1+1,0,none⟩ u1).setCell ⟨w.heap.size+1+1,1,none⟩ u2) cs rs:=(h.1.set (by omega)).set (by omega)
theorem cr7{w W:zi}{c0 c1 c2 c3 c4 r0 r1:Value}(h:CR w W #[c0,c1,c2,c3,c4] #[r0,r1]):
 W.cell? ⟨w.heap.size,0,none⟩=some c0/\W.cell? ⟨w.heap.size,1,none⟩=some c1/\W.cell? ⟨w.heap.size,2,none⟩=some c2/\W.cell? ⟨w.heap.size,3,none⟩=some c3/\W.cell? ⟨w.heap.size,4,none⟩=some c4/\W.cell? ⟨w.heap.size+1,0,none⟩=some r0/\W.cell? ⟨w.heap.size+1,1,none⟩=some r1:=by
 obtain⟨k0,k1,k2,k3,k4⟩:=za7 h.2.1;obtain⟨k5,k6⟩:=za1 h.2.2;exact⟨k0,k1,k2,k3,k4,k5,k6⟩
theorem yK0:(Tryz.prog.info? 2).map (fun i=>(i.zero,i.size,i.bytes))=some (some (ze zd 0),1,8):=by kernel_rfl
theorem zs0:∃i0,Tryz.prog.info? 2=some i0/\i0.zero=some (ze zd 0)/\i0.size=1/\i0.bytes=8:=by
 have h:=yK0;cases hq:Tryz.prog.info? 2 with
 |none=>rw[hq]at h;simp at h
 |some i0=>
  rw[hq]at h;simp only[yG,x7,qw]at h;exact⟨i0,rfl,h.1,h.2.1,h.2.2⟩
theorem yx8{W:zi}{b off:Nat}{ys:List Int}(h:za3 W (some ⟨b,off,none⟩) ys):∀j u,(ys.map (ze zd))[j]? =some u->W.cell? ((⟨b,off,none⟩:Zd).add j)=some u:=by
 intro j u hu;have hj:j<ys.length:=by
  rcases qp j ys.length with h'|h'
  ·exact h'
  ·simp[yg (by simpa using h':(ys.map (ze zd)).length<=j)]at hu
 obtain⟨b',aR,e,hc⟩:=h j hj;simp at e;obtain⟨rfl,rfl⟩:=e;have dO:(⟨b,off,none⟩:Zd).add j=⟨b,off+j,none⟩:=by unfold zN;split<;>simp_all
 rw[dO,hc,<-hu];simp[zy,hj]
theorem zd7{ap:Array Oper}{o:Oper}{a:Act}{w:zi}{K:Act->zi->Prop}{Q:Exit->Act->zi->Prop}{E:Prop}
 (hg:o.guard=none) (s x:Operand) (du:o.op=zI {callee:=zw zx,args:=#[s,x],argTypes:=#[24,24]})
 (base:Nat) (v:Value) (xs:List Int) (k:Nat) (hs:a.eval s=v) (ae:w.ownsRow base 2 1 v k (xs.map (ze zd))) (b off m c:Nat) (ys:List Int) (hx:a.eval x=za (some ⟨b,off,none⟩) m c)
 (hy:ys.length=m) (hc:za3 w (some ⟨b,off,none⟩) ys) (b1:k<=1000) (b2:m<=1000) (hb:base<=w.heap.size)
 (hK:∀v' w',w'.ownsRow base 2 1 v' (k+m) ((xs++ys).map (ze zd))->w.grownBy w' v.ownBlock->(v'=za none 0 0↔v=za none 0 0/\m=0)->K (a.put o.dst v') w'):
 if zn o (yielded ap a.tmps)=true then zG zh o a w K Q else E:=by
 have hw:zn o (yielded ap a.tmps)=true:=by simp[zn,hg]
 rw[z7 hw];obtain⟨i0,hi,bN,ba,bR⟩:=zs0;obtain⟨v',w',aS,r1,r2,r3⟩:=qy (P:=zh) w base 24 o.type _ i0 _ 1 8 qb hi bN ba bR rfl (by decide) v k (xs.map (ze zd)) ae ⟨b,off,none⟩ m c (ys.map (ze zd)) (by simp[hy]) (yx8 hc) (by simp[zq]) (by unfold maxLen;omega) (by omega) hb;unfold zG;simp[execOp,du,resolve,invoke,builtin,hs,hx,aS,Result.andThen];exact hK _ _ (by rw[x8];exact r1) r2 r3
theorem z09{ap:Array Oper}{o:Oper}{a:Act}{w:zi}{K:Act->zi->Prop}{Q:Exit->Act->zi->Prop}{E:Prop}
 (hg:o.guard=none) (s x:Operand) (du:o.op=zI {callee:=zw zx,args:=#[s,x],argTypes:=#[24,24]})
 (base:Nat) (v:Value) (xs:List Int) (k:Nat) (hs:a.eval s=v) (ae:w.ownsRow base 2 1 v k (xs.map (ze zd))) (ad:Option Zd) (m c:Nat) (ys:List Int) (hx:a.eval x=za ad m c)
 (me:∃b off,ad=some ⟨b,off,none⟩) (hy:ys.length=m) (hc:za3 w ad ys) (b1:k<=1000) (b2:m<=1000) (hb:base<=w.heap.size)
 (hK:∀v' w',w'.ownsRow base 2 1 v' (k+m) ((xs++ys).map (ze zd))->w.grownBy w' v.ownBlock->(v'=za none 0 0↔v=za none 0 0/\m=0)->K (a.put o.dst v') w'):
 if zn o (yielded ap a.tmps)=true then zG zh o a w K Q else E:=by
 obtain⟨b,off,rfl⟩:=me;exact zd7 hg s x du base v xs k hs ae b off m c ys hx hy hc b1 b2 hb hK
theorem CRR.grown{w W W':zi}{cs rs ts:Array Value}{row:Option Nat}(h:CRR w W cs rs ts)(hg:W.grownBy W' row)(ah:∀g,row=some g->w.heap.size+2<g):CRR w W' cs rs ts:=
 ⟨⟨h.1.1.grown hg h.1.1.size (fun k e=>by have:=ah k e;omega),(hg.block _ (za2 h.1.2.1) (fun e=>by have:=ah _ e.symm;omega)).trans h.1.2.1,(hg.block _ (za2 h.1.2.2) (fun e=>by have:=ah _ e.symm;omega)).trans h.1.2.2⟩,(hg.block _ (za2 h.2) (fun e=>by have:=ah _ e.symm;omega)).trans h.2⟩
theorem CRR.put{w W:zi}{cs rs ts:Array Value}(h:CRR w W cs rs ts){k i:Nat}{v:Value}(hk:w.heap.size+2<k):CRR w (W.setCell ⟨k,i,none⟩ v) cs rs ts:=
 ⟨h.1.set (by omega),za8 h.2 (by omega)⟩
theorem CRR.drew{w W:zi}{cs rs ts:Array Value}(h:CRR w W cs rs ts):CRR w W.drew cs rs ts:=h.below (y5 _ _).drew
def OX(w W:zi)(B ko:Nat)(cs rs ts:Array Value)(ab:Int)(sl:Value)(ys:List Int):Prop:=
 CRR w W cs rs ts/\W.heap[ko]? =some (zg #[ze zd ab,sl] 80 (0,0))/\B<=ko/\w.heap.size+2<B/\W.ownsRow B 2 1 sl ys.length (ys.map (ze zd))
theorem OX.c{w W:zi}{B ko:Nat}{cs rs ts:Array Value}{ab:Int}{sl:Value}{ys:List Int}(h:OX w W B ko cs rs ts ab sl ys):CRR w W cs rs ts:=h.1
theorem OX.b{w W:zi}{B ko:Nat}{cs rs ts:Array Value}{ab:Int}{sl:Value}{ys:List Int}(h:OX w W B ko cs rs ts ab sl ys):Za w.heap.size w W:=h.1.1.1
theorem OX.o{w W:zi}{B ko:Nat}{cs rs ts:Array Value}{ab:Int}{sl:Value}{ys:List Int}(h:OX w W B ko cs rs ts ab sl ys):W.ownsRow B 2 1 sl ys.length (ys.map (ze zd)):=h.2.2.2.2
theorem OX.below{w W W':zi}{B ko:Nat}{cs rs ts:Array Value}{ab:Int}{sl:Value}{ys:List Int}(h:OX w W B ko cs rs ts ab sl ys)(hb:Za W.heap.size W W'):OX w W' B ko cs rs ts ab sl ys:=
 ⟨h.1.below hb,za0 hb (za2 h.2.1) h.2.1,h.2.2.1,h.2.2.2.1,zb9 h.2.2.2.2 hb⟩
theorem OX.drew{w W:zi}{B ko:Nat}{cs rs ts:Array Value}{ab:Int}{sl:Value}{ys:List Int}(h:OX w W B ko cs rs ts ab sl ys):OX w W.drew B ko cs rs ts ab sl ys:=h.below (y5 _ _).drew
theorem zI4{w:zi}{base k ko:Nat}{v:Value}{size:Nat}{xs:List Value}{cs:Array Value}(h:w.ownsRow base 2 size v k xs)(hk:w.heap[ko]? =some (.cells cs 80 (0,0))):v.ownBlock≠some ko:=by
 intro e;obtain⟨_,⟨rfl,_⟩|⟨g,ac,az,rfl,_,h4,_⟩⟩:=h
 ·cases e
 ·have:g=ko:=by simpa[zm]using e
  subst this;rw[h4]at hk;simp at hk
theorem OX.grow{w W W':zi}{B ko:Nat}{cs rs ts:Array Value}{ab:Int}{sl df:Value}{ys Ha:List Int}(h:OX w W B ko cs rs ts ab sl ys)(hg:W.grownBy W' sl.ownBlock)(ho:W'.ownsRow B 2 1 df Ha.length (Ha.map (ze zd))):
 OX w ((W'.setCell ⟨ko,1,none⟩ df)) B ko cs rs ts ab df Ha:=by
 have hk:=(hg.block _ (za2 h.2.1) (fun e=>zI4 h.2.2.2.2 h.2.1 e.symm)).trans h.2.1;refine⟨(h.1.grown hg (fun g e=> ?_)).put ?_,?_,h.2.2.1,h.2.2.2.1,?_⟩
 ·have:=(h.2.2.2.2.lt g e).1;have:=h.2.2.2.1;omega
 ·have:=h.2.2.1;have:=h.2.2.2.1;omega
 ·have:=xb W' ko 1 _ _ df hk
  simpa using this
 ·exact qm ho (zI4 ho hk) df
theorem yI8(w1:zi):((w1.alloc (zg #[] 2)).drew).ownsRow w1.heap.size 2 1 (za (some ⟨w1.heap.size,0,none⟩) 0 0) 0 (([]:List Int).map (ze zd)):=
 zb9 (qo w1 #[] 0 (zT _) (by unfold maxLen;omega) (by simp)) (y5 _ _).drew
theorem yK3(w1:zi)(o:Obj):(((w1.alloc (zg #[] 2)).alloc o).drew).ownsRow w1.heap.size 2 1 (za (some ⟨w1.heap.size,0,none⟩) 0 0) 0 (([]:List Int).map (ze zd)):=
 zb9 (qo w1 #[] 0 (zT _) (by unfold maxLen;omega) (by simp)) (zP _).drew
theorem yI7(w1:zi)(o:Obj):(((w1.alloc o).alloc (zg #[] 2)).drew).ownsRow w1.heap.size 2 1 (za (some ⟨w1.heap.size+1,0,none⟩) 0 0) 0 (([]:List Int).map (ze zd)):=by
 have:=zb9 (qo (base:=w1.heap.size) (e:=2) (size:=1) (w1.alloc o) #[] 0 (by simp) (by unfold maxLen;omega) (by simp)) (y5 _ _).drew;simpa using this
theorem z93(w1:zi)(o:Obj):(w1.alloc o).heap.size=w1.heap.size+1:=by simp
theorem OX.newa{w w1 w':zi}{cs rs ts:Array Value}{ab:Int}{sl:Value}{ys:List Int}{o:Obj}(h:CRR w w1 cs rs ts)(hg:((w1.alloc o).drew).grownBy w' (some w1.heap.size))(ho:w'.ownsRow w1.heap.size 2 1 sl ys.length (ys.map (ze zd))):
 OX w (w'.alloc (zg #[ze zd ab,sl] 80)) w1.heap.size w'.heap.size cs rs ts ab sl ys:=
 ⟨(((h.alloc o).drew).grown hg (fun g e=>by cases e;exact h.big)).alloc _,zS _ _,by have:=hg.size;have e:=z93 w1 o;have:(w1.alloc o).drew.heap.size=w1.heap.size+1:=e;omega,h.big,ho.alloc _⟩
theorem OX.newb{w w1 w':zi}{cs rs ts:Array Value}{ab:Int}{sl z0 z1:Value}{ys:List Int}{o:Obj}(h:CRR w w1 cs rs ts)(hg:(((w1.alloc o).alloc (zg #[z0,z1] 80)).drew).grownBy w' (some w1.heap.size))(ho:w'.ownsRow w1.heap.size 2 1 sl ys.length (ys.map (ze zd))):
 OX w ((w'.setCell ⟨w1.heap.size+1,0,none⟩ (ze zd ab)).setCell ⟨w1.heap.size+1,1,none⟩ sl) w1.heap.size (w1.heap.size+1) cs rs ts ab sl ys:=by
 have eC:(((w1.alloc o).alloc (zg #[z0,z1] 80)).drew).heap[w1.heap.size+1]? =some (zg #[z0,z1] 80 (0,0)):=by
  have:=zS (w1.alloc o) (zg #[z0,z1] 80);rw[z93]at this;exact this
 have hk:w'.heap[w1.heap.size+1]? =some (zg #[z0,z1] 80 (0,0)):=(hg.block _ (za2 eC) (fun e=>by simp at e)).trans eC;have hb:=h.big;have s1:=xb w' (w1.heap.size+1) 0 _ _ (ze zd ab) hk;have s2:=xb _ (w1.heap.size+1) 1 _ _ sl s1;refine⟨((((h.alloc o).alloc _).drew.grown hg (fun g e=>by cases e;exact hb)).put (by omega)).put (by omega),by simpa using s2,by omega,hb,?_⟩;exact qm (qm ho (zI4 ho hk) _) (zI4 ho hk) _
theorem OX.newc{w w1 w':zi}{cs rs ts:Array Value}{ab:Int}{sl z0 z1:Value}{ys:List Int}{o:Obj}(h:CRR w w1 cs rs ts)(hg:(((w1.alloc (zg #[z0,z1] 80)).alloc o).drew).grownBy w' (some (w1.heap.size+1)))(ho:w'.ownsRow w1.heap.size 2 1 sl ys.length (ys.map (ze zd))):
 OX w ((w'.setCell ⟨w1.heap.size,0,none⟩ (ze zd ab)).setCell ⟨w1.heap.size,1,none⟩ sl) w1.heap.size w1.heap.size cs rs ts ab sl ys:=by
 have eC:(((w1.alloc (zg #[z0,z1] 80)).alloc o).drew).heap[w1.heap.size]? =some (zg #[z0,z1] 80 (0,0)):=xm _ _ _;have hk:w'.heap[w1.heap.size]? =some (zg #[z0,z1] 80 (0,0)):=(hg.block _ (za2 eC) (fun e=>by simp at e)).trans eC;have hb:=h.big;have s1:=xb w' w1.heap.size 0 _ _ (ze zd ab) hk;have s2:=xb _ w1.heap.size 1 _ _ sl s1;refine⟨((((h.alloc _).alloc o).drew.grown hg (fun g e=>by cases e;omega)).put (by omega)).put (by omega),by simpa using s2,by omega,hb,?_⟩;exact qm (qm ho (zI4 ho hk) _) (zI4 ho hk) _
theorem yK8{w1 w2:zi}{o:Obj}{cs:Array Value}{T:TypeId}(hg:(((w1.alloc o).alloc (.cells cs T)).drew).grownBy w2 (some w1.heap.size)):w2.heap[w1.heap.size+1]? =some (.cells cs T (0,0)):=by
 have eC:(((w1.alloc o).alloc (.cells cs T)).drew).heap[w1.heap.size+1]? =some (.cells cs T (0,0)):=by
  have:=zS (w1.alloc o) (.cells cs T);rw[z93]at this;exact this
 exact(hg.block _ (za2 eC) (fun e=>by simp at e)).trans eC
theorem yK9{w1 w2:zi}{o:Obj}{cs:Array Value}{T:TypeId}(hg:(((w1.alloc (.cells cs T)).alloc o).drew).grownBy w2 (some (w1.heap.size+1))):w2.heap[w1.heap.size]? =some (.cells cs T (0,0)):=by
 have eC:(((w1.alloc (.cells cs T)).alloc o).drew).heap[w1.heap.size]? =some (.cells cs T (0,0)):=xm _ _ _;exact(hg.block _ (za2 eC) (fun e=>by simp at e)).trans eC
theorem ye1{w:zi}{base n:Nat}{v:Value}{e:TypeId}{xs:List Int}(h:w.ownsRow base e 1 v (0+n) (([]++xs).map (ze zd)))(hl:xs.length=n):w.ownsRow base e 1 v xs.length (xs.map (ze zd)):=by
 rw[yb]at h;rw[hl];exact h
theorem zD7{w:zi}{base n m:Nat}{v:Value}{e:TypeId}{xs ys:List Int}(h:w.ownsRow base e 1 v (n+m) ((xs++ys).map (ze zd)))(hx:xs.length=n)(hy:ys.length=m):w.ownsRow base e 1 v (xs++ys).length ((xs++ys).map (ze zd)):=by
 rw[xY,hx,hy];exact h
theorem yr7{w:zi}{base n:Nat}{v:Value}{e:TypeId}{xs:List Int}(h:w.ownsRow base e 1 v xs.length (xs.map (ze zd)))(hl:xs.length=n):w.ownsRow base e 1 v n (xs.map (ze zd)):=by
 rw[<-hl];exact h
theorem yt5{w:zi}{base k g c:Nat}{e:TypeId}{size:Nat}{xs:List Value}(h:w.ownsRow base e size (za (some ⟨g,0,none⟩) k c) k xs):k<=c/\k<=9223372036854775807:=by
 obtain⟨_,⟨h1,_⟩|⟨g',ac,az,h2,_,_,h5,h6,_⟩⟩:=h
 ·cases h1
 ·simp at h2
  obtain⟨rfl,rfl⟩:=h2;unfold maxLen at h6;exact⟨h5,by omega⟩
theorem yJ1{c:Bool}{n:Int}{zs os vs:List Int}{ko kv:Nat}{ab:Int}{ids:List Int}(h:codeV c n zs os vs ko kv ab ids=0):rcV n zs os vs ko kv ab ids=zq5 n zs (zd5 os ko ids) ids.length (zc4 vs kv ab 1):=by
 have hc:=zJ6 h;rw[hc]at h;exact z24 h
theorem yu7{ch c:Bool}{n:Int}{zs os vs:List Int}{ko kv:Nat}{ab:Int}{ids aK:List Int}(h:ch=true)(h1:codeV c n zs os vs ko kv ab ids=0)(h2:codeV c n zs os vs ko kv ab aK=0):
 chD ch n zs os vs ko kv ab ids aK=zq5 n zs (zd5 os ko aK) aK.length (zc4 vs kv ab 1) - zq5 n zs (zd5 os ko ids) ids.length (zc4 vs kv ab 1):=by
 subst h;unfold chD;rw[z7 rfl,yJ1 h1,yJ1 h2]
theorem zZ5{w1 X:zi}{b o:Nat}{v:Value}(hc:w1.cell? ⟨b,o,none⟩=some v)(hb:Za w1.heap.size w1 X):X.cell? ⟨b,o,none⟩=some v:=by
 rw[hb.cell (p:=⟨b,o,none⟩) (zV hc)];exact hc
theorem zV3{W:zi}{a:Option Zd}{ids:List Int}(h:za3 W a ids)(i:Nat):za3 W a (ids.take i):=by
 intro j hj;simp at hj;obtain⟨b,off,e,hc⟩:=h j (by omega);refine⟨b,off,e,hc.trans ?_⟩;simp only[zy,yL];rw[z7 (by omega)]
theorem y06{W:zi}{b off:Nat}{ids:List Int}(h:za3 W (some ⟨b,off,none⟩) ids)(i:Nat):za3 W (some ⟨b,off+i,none⟩) (ids.drop i):=by
 intro j hj;simp at hj;obtain⟨b',aR,e,hc⟩:=h (i+j) (by omega);simp at e;obtain⟨rfl,rfl⟩:=e;refine⟨b,off+i,rfl,?_⟩;rw[yz,hc];simp[zy,qr]
theorem yi4{W:zi}{b off:Nat}{ids:List Int}(h:za3 W (some ⟨b,off,none⟩) ids)(i c2:Nat)(hc:ids.length<=c2):za3 W (if c2=i then some ⟨b,off,none⟩else some ⟨b,off+i,none⟩) (ids.drop i):=by
 by_cases e:c2=i
 ·rw[z7 e,List.drop_eq_nil_of_le (by omega)]
  intro j hj;simp at hj
 ·rw[ye e]
  exact y06 h i
theorem yl3(b off i c2:Nat):∃b' aR,(if c2=i then some (⟨b,off,none⟩:Zd)else some ⟨b,off+i,none⟩)=some ⟨b',aR,none⟩:=by
 split
 ·exact⟨_,_,rfl⟩
 ·exact⟨_,_,rfl⟩
theorem OX.keep{w W W':zi}{B ko:Nat}{cs ts:Array Value}{r0 r1:Value}{ab:Int}{sl:Value}{ys:List Int}(h:OX w W B ko cs #[r0,r1] ts ab sl ys)(hg:W.grownBy W' sl.ownBlock):
 W'.cell? ⟨w.heap.size+1,1,none⟩=some r1/\W'.cell? ⟨ko,1,none⟩=some sl/\(∀i,W'.frozen? ⟨ko,i,none⟩=false):=by
 have hk:=(hg.block _ (za2 h.2.1) (fun e=>zI4 h.2.2.2.2 h.2.1 e.symm)).trans h.2.1;have hc:=(h.1.grown hg (fun g e=>by have:=(h.2.2.2.2.lt g e).1;have:=h.2.2.2.1;omega)).1.2.2;exact⟨(za1 hc).2,(za1 hk).2,fun i=>yZ _ _ i _ _ hk⟩
theorem OX.size{w W:zi}{B ko:Nat}{cs rs ts:Array Value}{ab:Int}{sl:Value}{ys:List Int}(h:OX w W B ko cs rs ts ab sl ys):B<=W.heap.size:=by
 have:=h.2.2.1;have:=za2 h.2.1;omega
theorem ox9{w W:zi}{B ko:Nat}{c0 c1 c2 c3 c4 r0 r1:Value}{ts:Array Value}{ab:Int}{sl:Value}{ys:List Int}(h:OX w W B ko #[c0,c1,c2,c3,c4] #[r0,r1] ts ab sl ys):
 W.cell? ⟨w.heap.size,0,none⟩=some c0/\W.cell? ⟨w.heap.size,1,none⟩=some c1/\W.cell? ⟨w.heap.size,2,none⟩=some c2/\W.cell? ⟨w.heap.size,3,none⟩=some c3/\W.cell? ⟨w.heap.size,4,none⟩=some c4/\W.cell? ⟨w.heap.size+1,0,none⟩=some r0/\W.cell? ⟨w.heap.size+1,1,none⟩=some r1/\W.cell? ⟨ko,0,none⟩=some (ze zd ab)/\W.cell? ⟨ko,1,none⟩=some sl:=by
 obtain⟨k0,k1,k2,k3,k4⟩:=za7 h.1.1.2.1;obtain⟨k5,k6⟩:=za1 h.1.1.2.2;obtain⟨k7,k8⟩:=za1 h.2.1;exact⟨k0,k1,k2,k3,k4,k5,k6,k7,k8⟩
theorem yM7{w W:zi}{B ko:Nat}{c0 c1 c2 c3 c4 r0 r1:Value}{ts:Array Value}{ab:Int}{sl:Value}{ys:List Int}(h:OX w W B ko #[c0,c1,c2,c3,c4] #[r0,r1] ts ab sl ys)(u1 u2:Value):
 (fun X:zi=>X.cell? ⟨w.heap.size,0,none⟩=some c0/\X.cell? ⟨w.heap.size,1,none⟩=some c1/\X.cell? ⟨w.heap.size,2,none⟩=some c2/\X.cell? ⟨w.heap.size,3,none⟩=some c3/\X.cell? ⟨w.heap.size,4,none⟩=some c4/\X.cell? ⟨w.heap.size+1,0,none⟩=some r0/\X.cell? ⟨w.heap.size+1,1,none⟩=some r1/\X.cell? ⟨ko,0,none⟩=some (ze zd ab)/\X.cell? ⟨ko,1,none⟩=some sl) ((W.setCell ⟨w.heap.size+1+1,0,none⟩ u1).setCell ⟨w.heap.size+1+1,1,none⟩ u2):=by
 have hc:=h.1.set u1 u2;obtain⟨k0,k1,k2,k3,k4,k5,k6⟩:=cr7 hc;obtain⟨k7,k8⟩:=za1 h.2.1;have aq:ko≠w.heap.size+1+1:=by have:=h.2.2.1;have:=h.2.2.2.1;omega
 exact⟨k0,k1,k2,k3,k4,k5,k6,za5 (za5 k7 aq) aq,za5 (za5 k8 aq) aq⟩
theorem zA9{w:zi}{base k n:Nat}{v:Value}{e:TypeId}{size:Nat}{xs:List Value}(h:w.ownsRow base e size v k xs)(aq:v≠za none 0 0)(hk:k=n):∃g c,v=za (some ⟨g,0,none⟩) n c:=by
 subst hk;rcases zm3 h with h1|h1
 ·exact absurd h1 aq
 ·exact h1
theorem zn5{w W w2:zi}{row:Option Nat}{cs ts:Array Value}{r0 r1:Value}(hg:W.grownBy w2 row)(h:CRR w W cs #[r0,r1] ts)(hr:∀g,row=some g->w.heap.size+2<g):w2.cell? ⟨w.heap.size+1,0,none⟩=some r0/\w2.cell? ⟨w.heap.size+1,1,none⟩=some r1:=za1 (h.grown hg hr).1.2.2
def zm1(L:List Int)(x:Int):List Int:=L.filter (fun y=>decide (y≠x))
theorem yx9{L:List Int}{x:Int}{k:Nat}(hk:k<L.length)(h:L.getD k 0≠x):zm1 (L.take (k+1)) x=zm1 (L.take k) x++[L.getD k 0]:=by
 have e:L.take (k+1)=L.take k++[L.getD k 0]:=by
  rw[yI,zQ,zR hk];rfl
 unfold zm1;rw[e,yP];clear e;generalize L.getD k 0=y at*;simp[h]
theorem yy4{L:List Int}{x:Int}{k:Nat}(hk:k<L.length)(h:L.getD k 0=x):zm1 (L.take (k+1)) x=zm1 (L.take k) x:=by
 have e:L.take (k+1)=L.take k++[L.getD k 0]:=by
  rw[yI,zQ,zR hk];rfl
 unfold zm1;rw[e,yP];clear e;generalize L.getD k 0=y at*;simp[h]
theorem zH8(L:List Int)(x:Int):(zm1 L x).length<=L.length:=yp _ _
theorem yu2(L:List Int)(x:Int)(k:Nat):(zm1 (L.take k) x).length<=k:=xj (zH8 _ _) (List.length_take_le _ _)
theorem y77{L:List Int}{x y:Int}(h:y∈zm1 L x):y∈L:=(qi.1 h).1
theorem zJ3(bi:Option Zd)(c m:Nat)(L:List Int)(x:Int)(w:zi)(hA:za3 w bi L)(hm:L.length=m)(hl:m<=900):
 Zc zh 73 #[za bi m c,ze zd x] w fun e w'=>∃g cc,e=.returned (za (some ⟨g,0,none⟩) (zm1 L x).length cc)/\Za w.heap.size w w'/\w'.ownsRow w.heap.size 2 1 (za (some ⟨g,0,none⟩) (zm1 L x).length cc) (zm1 L x).length ((zm1 L x).map (ze zd)):=by
 have HA:=za4 hA;have HM:=za4 hm;clear hA hm;have B1:Zb (Za w.heap.size w (w.alloc (zg #[] 2))):=zP _;have O1:Zb ((w.alloc (zg #[] 2)).ownsRow w.heap.size 2 1 (za (some ⟨w.heap.size,0,none⟩) 0 0) 0 (([]:List Int).map (ze zd))):=qo w #[] 0 (zT _) (by unfold maxLen;omega) (by simp);go_enter Tryz.func73,Tryz.ntmps73
 go_wp2_with fail
 go_loopw[5,6] (fun ts t wr=>∃(k g cc:Nat),k<=m/\t=ze zd k/\ts=za (some ⟨g,0,none⟩) (zm1 (L.take k) x).length cc/\Za w.heap.size w wr/\wr.ownsRow w.heap.size 2 1 (za (some ⟨g,0,none⟩) (zm1 (L.take k) x).length cc) (zm1 (L.take k) x).length ((zm1 (L.take k) x).map (ze zd))) (fun _ t _=>m - (intOf t).toNat)
 case atStart=>exact⟨0,w.heap.size,0,xi _,rfl,rfl,B1.X,O1.X⟩
 case round=>
  clear B1 O1;obtain⟨k,g,cc,hk,rfl,rfl,hb,ho⟩:=hrel;have B2:Zb _:=hb;have O2:=za4 ho;have jv:=yu2 L x k;clear hb ho;by_cases ah:k<m
  ·have gY:(k:Int)<(m:Int):=by omega
   have Gm:k<L.length:=by rw[HM.X];exact ah
   obtain⟨b,off,e,c1⟩:=(HA.below B2.X) k Gm;subst e;by_cases hx:L.getD k 0=x
   ·have HE:Zb _:=yy4 Gm hx
    rw[hx]at c1;have Qr:(x !=x)=false:=by simp
    clear hx;obtain⟨n,HN⟩:=nmd ((zm1 (L.take k) x).length);rw[HN.X]at O2 jv⊢;go_wp2
    first
     |exact⟨⟨k+1,g,cc,by omega,by first|rfl|go_num,by rw[HE.X,HN.X],B2.X,by rw[HE.X,HN.X];exact O2.X⟩,by simp[intOf];omega⟩
     |(go_roundw
       case rel=>exact⟨k+1,g,cc,by omega,by first|rfl|go_num,by rw[HE.X,HN.X],B2.X,by rw[HE.X,HN.X];exact O2.X⟩
       case measure=>simp[intOf];omega)
   ·have HE:Zb _:=yx9 Gm hx
    obtain⟨y,HY⟩:=nmd (L.getD k 0);rw[HY.X]at c1 hx HE;have gj:(y !=x)=true:=by simp[hx]
    obtain⟨n,HN⟩:=nmd ((zm1 (L.take k) x).length);rw[HN.X]at O2 jv⊢;have B3:Zb (Za w.heap.size w (wr.alloc (zg #[ze zd y] 2))):=B2.alloc B2.size _
    go_wp2_with(first
     |(at_builtin
       refine zc9 _ rfl (.tmp 20) (.tmp 25) rfl w.heap.size _ n (zm1 (L.take k) x) rfl (O2.alloc _) wr.heap.size 0 1 1 [y] rfl rfl (ze2 wr y) (by omega) (by omega) B3.size ?_;intro v4 w4 ae hg a_ aW;have dR:=(O2.lt g rfl).1;have B4:Zb _:=B3.grown hg B3.size (fun k e=>xj dR (z39 e));obtain⟨g4,c4,rfl⟩:=zq1 ae (zn2 aW ⟨_,_,_,rfl⟩);have O4:=za4 ae;clear ae hg a_ aW dR))
    have vD:Zb ((zm1 (L.take k) x++[y]).length=n+1):=by show _=_;rw[xY,HN.X];rfl
    first
     |exact⟨⟨k+1,g4,c4,by omega,by first|rfl|go_num,by rw[HE.X,vD.X],B4.X,by rw[HE.X,vD.X];exact O4.X⟩,by simp[intOf];omega⟩
     |(go_roundw
       case rel=>exact⟨k+1,g4,c4,by omega,by first|rfl|go_num,by rw[HE.X,vD.X],B4.X,by rw[HE.X,vD.X];exact O4.X⟩
       case measure=>simp[intOf];omega)
  ·have gY:¬((k:Int)<(m:Int)):=by omega
   have cU:k=m:=by omega
   have O3:Zb (wr.ownsRow w.heap.size 2 1 (za (some ⟨g,0,none⟩) (zm1 L x).length cc) (zm1 L x).length ((zm1 L x).map (ze zd))):=by
    have:=O2.X;rw[cU,<-HM.X,ym]at this;exact this
   have HE:Zb ((zm1 (L.take k) x).length=(zm1 L x).length):=by show _=_;rw[cU,<-HM.X,ym]
   rw[HE.X];obtain⟨n,HN⟩:=nmd ((zm1 L x).length);rw[HN.X]at O3⊢;clear cU;go_wp2;go_ret;exact⟨g,cc,by rw[HN.X];rfl,B2.X,by rw[HN.X];exact O3.X⟩
def y01(os:List Int)(k:Nat):List Int:=(List.range k).map fun i=>og6 os i 0
theorem yz9(os:List Int)(k:Nat):y01 os (k+1)=y01 os k++[og6 os k 0]:=by simp[y01,yN]
def EP(w W:zi)(cs:Array Value):Prop:=Za w.heap.size w W/\W.heap[w.heap.size]? =some (.cells cs 30 (0,0))/\W.heap[w.heap.size+1]? =some (zg #[za none 0 0,za none 0 0] 33 (0,0))
theorem EP.new(w:zi)(cs:Array Value):EP w ((w.alloc (.cells cs 30)).alloc (zg #[za none 0 0,za none 0 0] 33)) cs:=
 ⟨(zP _).alloc (by simp) _,xm _ _ _,xh _ _ _⟩
theorem EP.below{w W W':zi}{cs:Array Value}(h:EP w W cs)(hb:Za W.heap.size W W'):EP w W' cs:=
 ⟨h.1.trans (hb.mono h.1.size),za0 hb (za2 h.2.1) h.2.1,za0 hb (za2 h.2.2) h.2.2⟩
theorem EP.alloc{w W:zi}{cs:Array Value}(h:EP w W cs)(o:Obj):EP w (W.alloc o) cs:=h.below (zP _)
theorem EP.b{w W:zi}{cs:Array Value}(h:EP w W cs):Za w.heap.size w W:=h.1
theorem EP.grown{w W W':zi}{cs:Array Value}{row:Option Nat}(h:EP w W cs)(hg:W.grownBy W' row)(hr:∀g,row=some g->w.heap.size+1<g):EP w W' cs:=
 ⟨h.1.grown hg h.1.size (fun k e=>by have:=hr k e;omega),(hg.block _ (za2 h.2.1) (fun e=>by have:=hr _ e.symm;omega)).trans h.2.1,(hg.block _ (za2 h.2.2) (fun e=>by have:=hr _ e.symm;omega)).trans h.2.2⟩
theorem EP.set{w W:zi}{cs:Array Value}(h:EP w W cs){k i:Nat}{v:Value}(hk:w.heap.size+1<k):EP w (W.setCell ⟨k,i,none⟩ v) cs:=
 ⟨h.1.setCell (by simp;omega) _,za8 h.2.1 (by omega),za8 h.2.2 (by omega)⟩
theorem zP3(n fine:Int)(a ao av:Option Zd)(ac ko co kv cv:Nat)(zs os vs:List Int)(w:zi)(hA:za3 w a zs)(hO:za3 w ao os)(hV:za3 w av vs)(an:os.length=ko*6)(au:vs.length=kv*5)(aA:ko<=9223372036854775807)(aB:kv<=9223372036854775807)(cb:Bool)(K:Nat)(X:List Int)(jl:zd0 n zs os vs ko kv fine=cb)(hK:(if cb=true then ko else 0)=K)(hX:(if cb=true then y01 os ko else [])=X):
 Zc zh 69 #[.agg #[ze zd n,za a zs.length ac,za ao ko co,za av kv cv,ze zd fine]] w fun e w'=>∃sl,e=.returned (.tuple #[.agg #[za none 0 0,sl],.bool cb])/\Za w.heap.size w w'/\w'.ownsRow w.heap.size 2 1 sl K (X.map (ze zd)):=by
 have HA:=za4 hA;have HO:=za4 hO;have HV:=za4 hV;have aF:Zb _:=an;have aE:Zb _:=au;clear hA hO hV an au;have JZ:Zb _:=hK;have lR:Zb _:=hX;have cW:Zb _:=jl;clear hK hX jl;have uO:Zb (EP w ((w.alloc (zg #[ze zd n,za a zs.length ac,za ao ko co,za av kv cv,ze zd fine] 30)).alloc (zg #[za none 0 0,za none 0 0] 33)) _):=EP.new w _;go_enter Tryz.func69,Tryz.ntmps69;obtain⟨c0,c1,bZ,c3,c4⟩:=za7 uO.X.2.1
 go_wp2_with fail
 clear c0 c1 bZ c3 c4;refine(zy0 n fine a ao av ac ko co kv cv zs os vs _ (HA.X.below uO.X.1) (HO.X.below uO.X.1) (HV.X.below uO.X.1) aF.X aE.X aA aB).mono ?_;rintro e w1 ⟨rfl,hb⟩;have E1:=za4 (uO.X.below hb);clear hb uO;rw[cW.X];cases cb
 ·have eC:K=0:=JZ.X.symm.trans (ye (by simp))
  have dv:X=[]:=lR.X.symm.trans (ye (by simp));subst eC dv;obtain⟨p0,p1⟩:=za1 E1.X.2.2;have pf:=fun i=>yZ _ _ i _ _ E1.X.2.2;go_wp2;refine xe (v:=.tuple #[.agg #[za none 0 0,za none 0 0],.bool false]) (by simp[results,Tryz.results69,go_sem,p0,p1]) rfl ⟨za none 0 0,rfl,?_,xZ _ _ _ _⟩
  repeat(first|with_reducible exact E1.X.b|refine xq ?_ (by simp<;>omega) _)
 ·have eB:K=ko:=JZ.X.symm.trans (z7 rfl)
  have ci:X=y01 os ko:=lR.X.symm.trans (z7 rfl);subst eB ci;have bH:K<=12:=(zd8 (zM9 cW.X)).1;have E2:Zb (EP w (w1.alloc (zg #[za none 0 0,za none 0 0] 33)) _):=E1.X.alloc _;have Kz:Zb ((w1.alloc (zg #[za none 0 0,za none 0 0] 33)).heap[w1.heap.size]? =_):=zS _ _;have pM:Zb _:=za2 E1.X.2.2;obtain⟨c0,c1,bZ,c3,c4⟩:=za7 E2.X.2.1;clear E1
  go_wp2_with fail
  clear c0 c1 bZ c3 c4;generalize w1.alloc _=W1 at*;generalize w1.heap.size=bp at*;go_loopw[5] (fun t wr=>∃(k:Nat) (sl:Value),k<=K/\t=ze zd k/\EP w wr #[ze zd n,za a zs.length ac,za ao K co,za av kv cv,ze zd fine]/\wr.heap[bp]? =some (zg #[za none 0 0,sl] 33 (0,0))/\wr.ownsRow (bp+1) 2 1 sl k ((y01 os k).map (ze zd))) (fun t _=>K - (intOf t).toNat)
  case atStart=>exact⟨0,za none 0 0,xi _,rfl,E2.X,Kz.X,xZ _ _ _ _⟩
  case round=>
   clear E2 Kz;obtain⟨k,sl,hk,rfl,he,hp,ho⟩:=hrel;have HE:=za4 he;have HP:=za4 hp;have HW:=za4 ho;obtain⟨c0,c1,bZ,c3,c4⟩:=za7 he.2.1;obtain⟨p0,p1⟩:=za1 hp;have pf:=fun i=>yZ _ _ i _ _ hp;clear he hp ho;by_cases ah:k<K
   ·obtain⟨b,off,rfl,aJ⟩:=za3.some (za3.below HO.X HE.X.1) (j:=k*6) (by rw[aF.X];omega)
    obtain⟨r0,r1,r2,r3,r4,r5⟩:=zt9 aJ aF.X k ah;clear aJ;have aZ:Zb _:=yz9 os k;have cM:=zV r0;simp at cM;obtain⟨o0,H0⟩:=nmd (og6 os k 0);obtain⟨o1,H1⟩:=nmd (og6 os k 1);obtain⟨o2,H2⟩:=nmd (og6 os k 2);obtain⟨o3,H3⟩:=nmd (og6 os k 3);obtain⟨o4,H4⟩:=nmd (og6 os k 4);obtain⟨o5,H5⟩:=nmd (og6 os k 5);rw[H0.X]at aZ;rw[H0.X]at r0;rw[H1.X]at r1;rw[H2.X]at r2;rw[H3.X]at r3;rw[H4.X]at r4;rw[H5.X]at r5;have o6:Zb (bp+1<=wr.heap.size):=za2 HP.X
    go_wp2_with fail
    obtain⟨s0,s1⟩:=za1 ((xg wr (zg #[ze zd o0] 2) (za2 HP.X)).trans HP.X)
    go_region_law ((
     refine zF8 rfl (.tmp 19) (.tmp 26) rfl (bp+1) sl k _ (by simp[Act.eval]) (HW.X.drew.alloc _) ⟨wr.heap.size,0,none⟩ 1 (ze zd o0) (by simp[Act.eval]) (zq4 _ _ _ _ (by simp)) rfl (by omega) (xj o6.X (by simp)) ?_;intro v' w4 hown4 aI;obtain⟨IB,JB,rfl,vX⟩:=zo4 hown4;have aq:∀q,sl.ownBlock=some q->bp<q:=fun q e=>(HW.X.lt _ e).1;have gM:w4.heap[bp]? =some (zg #[za none 0 0,sl] 33 (0,0)):=(aI.block _ (xw (za2 HP.X) (by simp;try omega)) (fun e=>by have:=aq _ e.symm;omega)).trans ((xg _ _ (za2 HP.X)).trans HP.X);have Ld:=za4 gM;obtain⟨u0,u1⟩:=za1 gM;have uf:=fun i=>yZ _ _ i _ _ gM;have LK:Zb (EP w w4 _):=EP.grown (EP.below (HE.X.alloc _) (y5 _ _).drew) aI (fun q e=>by have:=aq q e;have:=pM.X;omega);have ME:=za4 hown4;clear gM hown4 aI aq))
    all_goals
     go_wp2;go_roundw
     case rel=>
      refine⟨k+1,_,by omega,by go_num,LK.X.set (by have:=pM.X;omega),xb _ _ _ _ _ _ Ld.X,?_⟩;rw[aZ.X,x8];exact zg1 ME.X (by omega)
     case measure=>simp[intOf];omega
   ·have bu:k=K:=by omega
    subst bu;obtain⟨q0,q1⟩:=za1 HE.X.2.2;have qf:=fun i=>yZ _ _ i _ _ HE.X.2.2;have iK:Zb (w.heap.size+1≠bp):=y8 pM.X;rcases zm3 HW.X with rfl|⟨gq,cq,rfl⟩
    ·go_wp2
     refine xe (v:=.tuple #[.agg #[za none 0 0,za none 0 0],.bool true]) (by simp[results,Tryz.results69,go_sem,q0,q1]) rfl ⟨_,rfl,?_,?_⟩
     ·repeat(first|with_reducible exact HE.X.b|refine xq ?_ (by simp<;>omega) _)
     ·exact zb5 (qu (qu HW.X (by simp;have:=pM.X;omega) _) (by simp;have:=pM.X;omega) _) (by have:=pM.X;omega)
    ·go_wp2
     refine xe (v:=.tuple #[.agg #[za none 0 0,za (some ⟨gq,0,none⟩) k cq],.bool true]) (by simp[results,Tryz.results69,go_sem,q0,q1]) rfl ⟨_,rfl,?_,?_⟩
     ·repeat(first|with_reducible exact HE.X.b|refine xq ?_ (by simp<;>omega) _)
     ·exact zb5 (qu (qu HW.X (by simp;have:=pM.X;omega) _) (by simp;have:=pM.X;omega) _) (by have:=pM.X;omega)
theorem yt1{w:zi}{base n g c k:Nat}{e:TypeId}{xs:List Int}(v:Int)(h:w.ownsRow base e 1 (za (some ⟨g,0,none⟩) n c) n (xs.map (ze zd)))(QV:k<n):(w.setCell ⟨g,k,none⟩ (ze zd v)).ownsRow base e 1 (za (some ⟨g,0,none⟩) n c) n ((xs.set k v).map (ze zd)):=by
 obtain⟨h0,⟨h1,_⟩|⟨g',ac,az,h2,h3,h4,h5,h6,h7,h8⟩⟩:=h
 ·cases h1
 ·simp at h2
  obtain⟨rfl,rfl⟩:=h2;refine⟨by simpa using h0,.inr ⟨g,c,az.setIfInBounds k (ze zd v),rfl,h3,xb w g k az e _ h4,h5,h6,by simpa using h7,?_⟩⟩;rw[Array.toList_setIfInBounds,List.take_set,h8,List.map_set]
theorem zC6{w:zi}{base n g c k:Nat}{e:TypeId}{xs:List Int}(h:w.ownsRow base e 1 (za (some ⟨g,0,none⟩) n c) n (xs.map (ze zd)))(hk:k<xs.length):w.cell? ⟨g,k,none⟩=some (ze zd (xs.getD k 0))/\w.frozen? ⟨g,k,none⟩=false:=by
 refine⟨?_,?_⟩
 ·obtain⟨_,_,e1,h1⟩:=zd4 h k hk
  simp at e1;obtain⟨rfl,rfl⟩:=e1;rw[yb]at h1;exact h1
 ·obtain⟨h0,⟨h1,_⟩|⟨g',ac,az,h2,h3,h4,h5⟩⟩:=h
  ·cases h1
  ·simp at h2
   obtain⟨rfl,rfl⟩:=h2;exact yZ _ _ k _ _ h4
theorem RD.kept2{w W W':zi}{q c p p0:Nat}{a:Option Zd}{bs:List Int}{row:Option Nat}(h0:RD w q a bs c p0)(h:RD W q a bs c p)(hg:W.grownBy W' row)(hr:∀g,row=some g->w.heap.size<=g):RD W' q a bs c p:=by
 have hq:=za2 h0.1;refine⟨za6 hg h.1 (fun e=>by have:=hr q e.symm;omega),h.2.1,fun j hj=> ?_,h.2.2.2⟩;obtain⟨b,off,e,aq,hc,hv⟩:=h.2.2.1 j hj;obtain⟨b',aR,e',_,Ol,_⟩:=h0.2.2.1 j hj;have hb:b<w.heap.size:=by
  have:=zV Ol;rw[e]at e';simp at e';obtain⟨rfl,rfl⟩:=e';exact this
 exact⟨b,off,e,aq,hg.cell hc (fun e2=>by have:=hr b e2.symm;omega),hv⟩
theorem zd2{w W W':zi}{q:Nat}{row:Option Nat}(h:w.grownBy W (some q))(hg:W.grownBy W' row)(hr:∀g,row=some g->w.heap.size<=g):w.grownBy W' (some q):=
 ⟨hg.os.trans h.os,hg.tape.trans h.tape,hg.output.trans h.output,xj h.size hg.size,fun k hk aq=>(hg.block k (xw hk h.size) (fun e=>by have:=hr k e.symm;omega)).trans (h.block k hk aq)⟩
theorem zW8(W:zi)(o:Obj):W.grownBy (W.alloc o) none:=⟨rfl,rfl,rfl,by simp,fun k hk _=>xg _ _ hk⟩
structure CL(w W:zi)(q:Nat)(a:Option Zd)(bs:List Int)(c:Nat)(ov:Value)(O:List Int):Prop where
 g:w.grownBy W (some q)
 r0:∃p,RD w q a bs c p
 r:∃p,RD W q a bs c p
 o:W.ownsRow w.heap.size 2 1 ov O.length (O.map (ze zd))
 so:∃g cg,ov=za (some ⟨g,0,none⟩) O.length cg
theorem zH7(W:zi)(x0 x1 x2 x3:Int)(T:TypeId)(y:Nat)(hy:y<4):(W.alloc (zg #[ze zd x0,ze zd x1,ze zd x2,ze zd x3] T)).cell? ⟨W.heap.size,y,none⟩=some (ze zd ([x0,x1,x2,x3].getD y 0)):=by
 have h:=zS W (zg #[ze zd x0,ze zd x1,ze zd x2,ze zd x3] T);rw[zU _ _ y _ _ _ h];rcases(show y=0∨y=1∨y=2∨y=3 from by omega)with rfl|rfl|rfl|rfl<;>rfl
def yI1(w:zi)(q:Nat)(a:Option Zd)(bs:List Int)(c:Nat)(e:Ending)(w':zi):Prop:=∃(x y:Int) (p':Nat),e=.returned (.tuple #[ze zd x,ze zd y])/\RD w' q a bs c p'/\w.grownBy w' (some q)
set_option maxRecDepth 10000 in
theorem yi6(q p c:Nat)(a:Option Zd)(bs:List Int)(w:zi)(h:RD w q a bs c p):
 Zc zh 68 #[.pointer (some ⟨q,0,none⟩)] w (yI1 w q a bs c):=by
 have H:=za4 h;clear h;go_enter Tryz.func68,Tryz.ntmps68
 go_wp2_with fail
 refine(zc5 q p c 40 a bs w H.X (by omega)).mono ?_;rintro e w1 ⟨x,p1,rfl,dv,ci,hr,hg⟩;have R1:=za4 hr;have G1:Zb _:=hg;clear hr hg
 go_wp2_with fail
 refine(zk6 q p1 c 2 a bs w1 R1.X (by omega) (by omega)).mono ?_;rintro e w2 ⟨v,p2,rfl,hr,hg⟩;have R2:=za4 hr;have G2:Zb _:=zb4 G1.X hg;clear hr hg R1 G1;have HQ:Zb _:=za2 R2.X.1;cases v
 all_goals
  go_wp2_with fail
  go_region_with (first
   |(go_at_call 31
     with_reducible refine(zc5 q p2 c 4 a bs w2.drew (R2.X.below (y5 _ _).drew) (by omega)).mono ?_
     rintro e w3 ⟨y,p3,rfl,bV,cD,hr,hg⟩;obtain⟨y,rfl⟩:=xp bV;have uN:y<4:=by omega
     have R3:=za4 hr;have G3:Zb _:=zb4 (zt5 G2.X) hg;have n3:=zH7 w3 200 60 30 500 2 y uN;obtain⟨z,HZ⟩:=nmd ([(200:Int),60,30,500].getD y 0);rw[HZ.X]at n3;clear hr hg bV cD)
   |(go_at_call 31
     with_reducible refine(zc5 q p2 c 4 a bs (w2.alloc (zg #[ze zd 200,ze zd 60,ze zd 30,ze zd 500] 2)).drew (R2.X.below (zP _).drew) (by omega)).mono ?_
     rintro e w3 ⟨y,p3,rfl,bV,cD,hr,hg⟩;obtain⟨y,rfl⟩:=xp bV;have uN:y<4:=by omega
     have R3:=za4 hr;have G3:Zb _:=zb4 (zt5 (zb4 G2.X (zq9 w2 _ q))) hg;have n3:=hg.cell (zH7 w2.drew 200 60 30 500 2 y uN) (fun e=>by have:=HQ.X;simp at e;omega);obtain⟨z,HZ⟩:=nmd ([(200:Int),60,30,500].getD y 0);rw[HZ.X]at n3;simp at n3;clear hr hg bV cD))
  all_goals
   go_wp2;refine xe (results_tmp2 rfl _ _ _) rfl ?_
   first
    |exact⟨_,_,p3,rfl,R3.X,G3.X⟩
    |exact⟨_,_,p3,rfl,R3.X.below (zP _),zb4 G3.X (zq9 w3 _ q)⟩
theorem y14:(Tryz.prog.info? 103).map (fun i=>(i.zero,i.size,i.bytes))=some (some (.agg #[ze zd 0,ze zd 0,ze zd 0,ze zd 0,ze zd 0,ze zd 0]),6,48):=by kernel_rfl
theorem yv6:(Tryz.prog.info? 107).map (fun i=>(i.zero,i.size,i.bytes))=some (some (.agg #[ze zd 0,ze zd 0,ze zd 0,ze zd 0,ze zd 0]),5,40):=by kernel_rfl
theorem zO0(t e:TypeId)(z:Value)(size bytes:Nat)(x_:(Tryz.prog.info? e).map (fun i=>(i.zero,i.size,i.bytes))=some (some z,size,bytes))(At:Tryz.prog.underlying t=some (.slice e))(tT:z.cells.size=size)(jQ:0<size)(BK:bytes<=100)
 (w:zi) {ap:Array Oper} {rest:List Oper} {o:Oper} {a:Act} {Q:Exit->Act->zi->Prop}
 (hg:o.guard=none) (s x:Operand) (du:o.op=zI {callee:=zw zx,args:=#[s,x],argTypes:=#[t,t]})
 (base:Nat) (v:Value) (k:Nat) (xs:List Int) (hs:a.eval s=v) (ae:w.ownsRow base e size v k (xs.map (ze zd))) (b c:Nat) (ys:List Int) (hx:a.eval x=za (some ⟨b,0,none⟩) 1 c)
 (hy:ys.length=size) (hc:za3 w (some ⟨b,0,none⟩) ys) (b1:k<=1000) (hb:base<=w.heap.size)
 (hK:∀v' w',w'.ownsRow base e size v' (k+1) ((xs++ys).map (ze zd))->w.grownBy w' v.ownBlock->(v'.ownBlock=v.ownBlock∨v'.ownBlock=some w.heap.size)->v'≠za none 0 0->wpList zh ap Q rest (a.put o.dst v') w'):
 wpList zh ap Q (o::rest) a w:=by
 obtain⟨i0,hi,bN,ba,bR⟩:=qx x_;have bQ:∀j u,(ys.map (ze zd))[j]? =some u->w.cell? ((⟨b,0,none⟩:Zd).add j)=some u:=by
  intro j u hu;have hj:j<ys.length:=by
   rcases qp j ys.length with h'|h'
   ·exact h'
   ·simp[yg (by simpa using h':(ys.map (ze zd)).length<=j)]at hu
  obtain⟨b',aR,e,fJ⟩:=hc j hj;simp at e;obtain⟨rfl,rfl⟩:=e;have dO:(⟨b,0,none⟩:Zd).add j=⟨b,0+j,none⟩:=by unfold zN;split<;>simp_all
  rw[dO,fJ,<-hu];simp[zy,hj]
 have jV:∀u∈ys.map (ze zd),u.oneCell'=true:=by simp[zq]
 have Jw:(k+1)*bytes<=140737488355328:=by
  have:(k+1)*bytes<=1001*100:=Nat.mul_le_mul (by omega) BK;omega
 obtain⟨v',w',aS,r1,r2,r3⟩:=qy (P:=zh) w base t o.type _ i0 _ size bytes At hi bN ba bR tT jQ v k (xs.map (ze zd)) ae ⟨b,0,none⟩ 1 c (ys.map (ze zd)) (by simp[hy]) bQ jV (by unfold maxLen;omega) Jw hb;have r4:=zA7 (P:=zh) w base t o.type _ i0 _ size bytes At hi bN ba bR v k (xs.map (ze zd)) ae ⟨b,0,none⟩ 1 c (ys.map (ze zd)) (by simp[hy]) bQ jV (by unfold maxLen;omega) Jw aS;refine zz0 v' hg (zx5 s x _ v _ du hs hx aS) (hK v' w' (by rw[x8];exact r1) r2 r4 ?_);intro e;exact absurd (r3.1 e).2 (by omega)
theorem yl2{w:zi}{base n g c k size:Nat}{e:TypeId}{xs:List Int}(v:Int)(h:w.ownsRow base e size (za (some ⟨g,0,none⟩) n c) n (xs.map (ze zd))):(w.setCell ⟨g,k,none⟩ (ze zd v)).ownsRow base e size (za (some ⟨g,0,none⟩) n c) n ((xs.set k v).map (ze zd)):=by
 obtain⟨h0,⟨h1,_⟩|⟨g',ac,az,h2,h3,h4,h5,h6,h7,h8⟩⟩:=h
 ·cases h1
 ·simp at h2
  obtain⟨rfl,rfl⟩:=h2;refine⟨by simpa using h0,.inr ⟨g,c,az.setIfInBounds k (ze zd v),rfl,h3,xb w g k az e _ h4,h5,h6,by simpa using h7,?_⟩⟩;rw[Array.toList_setIfInBounds,List.take_set,h8,List.map_set]
theorem zY9{w:zi}{base n g c k size:Nat}{e:TypeId}{xs:List Int}(h:w.ownsRow base e size (za (some ⟨g,0,none⟩) n c) n (xs.map (ze zd)))(hk:k<xs.length):w.cell? ⟨g,k,none⟩=some (ze zd (xs.getD k 0))/\w.frozen? ⟨g,k,none⟩=false:=by
 refine⟨?_,?_⟩
 ·obtain⟨_,_,e1,h1⟩:=zd4 h k hk
  simp at e1;obtain⟨rfl,rfl⟩:=e1;rw[yb]at h1;exact h1
 ·obtain⟨h0,⟨h1,_⟩|⟨g',ac,az,h2,h3,h4,h5⟩⟩:=h
  ·cases h1
  ·simp at h2
   obtain⟨rfl,rfl⟩:=h2;exact yZ _ _ k _ _ h4
structure CD(w W:zi)(q:Nat)(a:Option Zd)(bs:List Int)(c k:Nat)(n:Int)(g zl cg:Nat)(zs:List Int)(oo:Value)(ko:Nat)(O:List Int)(ov:Value)(kv:Nat)(V:List Int)(fi:Int):Prop where
 gr:w.grownBy W (some q)
 r0:∃p,RD w q a bs c p
 r:∃p,RD W q a bs c p
 b0:W.heap[w.heap.size]? =some (zg #[ze zd 0,za none 0 0,za none 0 0,za none 0 0,ze zd 0] 30 (0,0))
 b1:W.heap[k]? =some (zg #[ze zd n,za (some ⟨g,0,none⟩) zl cg,oo,ov,ze zd fi] 30 (0,0))
 h:w.heap.size<k/\w.heap.size<g/\k≠g/\0<zs.length
 i:za3 W (some ⟨g,0,none⟩) zs
 o:W.ownsRow (w.heap.size+1) 103 6 oo ko (O.map (ze zd))
 v:W.ownsRow (w.heap.size+1) 107 5 ov kv (V.map (ze zd))
 d1:∀b,oo.ownBlock=some b->b≠k/\b≠g
 d2:∀b,ov.ownBlock=some b->b≠k/\b≠g
 d3:∀b,oo.ownBlock=some b->ov.ownBlock≠some b
section
variable {w W W' w4:zi} {q:Nat} {a:Option Zd} {bs:List Int} {c k:Nat} {n:Int} {g zl cg:Nat} {zs:List Int} {oo rW:Value} {ko:Nat} {O:List Int} {ov dQ:Value} {kv:Nat} {V:List Int} {fi:Int}
theorem CD.lt(h:CD w W q a bs c k n g zl cg zs oo ko O ov kv V fi):q<w.heap.size:=by
 obtain⟨p,hr⟩:=h.r0;exact za2 hr.1
theorem CD.size(h:CD w W q a bs c k n g zl cg zs oo ko O ov kv V fi):w.heap.size+1<=W.heap.size:=za2 h.b0
theorem zj9{X X':zi}{g:Nat}{xs:List Int}{row:Option Nat}(h:za3 X (some ⟨g,0,none⟩) xs)(hg:X.grownBy X' row)(aq:some g≠row):za3 X' (some ⟨g,0,none⟩) xs:=by
 intro j hj;obtain⟨b,off,e,hc⟩:=h j hj;simp at e;obtain⟨rfl,rfl⟩:=e;exact⟨g,0,rfl,hg.cell hc aq⟩
theorem CD.read{p:Nat}(h:CD w W q a bs c k n g zl cg zs oo ko O ov kv V fi)(hr:RD W' q a bs c p)(hg:W.grownBy W' (some q)):CD w W' q a bs c k n g zl cg zs oo ko O ov kv V fi:=by
 have hl:=h.lt;obtain⟨h1,h2,h3,h4⟩:=h.h;exact⟨zb4 h.gr hg,h.r0,⟨p,hr⟩,za6 hg h.b0 (fun e=>by injection e with e;omega),za6 hg h.b1 (fun e=>by injection e with e;omega),h.h,zj9 h.i hg (fun e=>by injection e with e;omega),h.o.kept hg (.inr fun e=>by have:=(h.o.lt q e).1;omega),h.v.kept hg (.inr fun e=>by have:=(h.v.lt q e).1;omega),h.d1,h.d2,h.d3⟩
theorem zq0{w W W':zi}{q:Nat}(h:w.grownBy W (some q))(hb:Za W.heap.size W W'):w.grownBy W' (some q):=
 ⟨hb.os.trans h.os,hb.tape.trans h.tape,hb.output.trans h.output,xj h.size hb.size,fun k hk aq=>(hb.block k (xw hk h.size)).trans (h.block k hk aq)⟩
theorem CD.below(h:CD w W q a bs c k n g zl cg zs oo ko O ov kv V fi)(hb:Za W.heap.size W W'):CD w W' q a bs c k n g zl cg zs oo ko O ov kv V fi:=by
 obtain⟨p,hr⟩:=h.r;exact⟨zq0 h.gr hb,h.r0,⟨p,hr.below hb⟩,za0 hb (za2 h.b0) h.b0,za0 hb (za2 h.b1) h.b1,h.h,h.i.below hb,zb9 h.o hb,zb9 h.v hb,h.d1,h.d2,h.d3⟩
theorem CD.cells(h:CD w W q a bs c k n g zl cg zs oo ko O ov kv V fi):(W.cell? ⟨k,0,none⟩=some (ze zd n)/\W.cell? ⟨k,1,none⟩=some (za (some ⟨g,0,none⟩) zl cg)/\W.cell? ⟨k,2,none⟩=some oo/\W.cell? ⟨k,3,none⟩=some ov/\W.cell? ⟨k,4,none⟩=some (ze zd fi))/\∀i,W.frozen? ⟨k,i,none⟩=false:=by
 have h0:=zU _ _ 0 _ _ _ h.b1;have h1:=zU _ _ 1 _ _ _ h.b1;have h2:=zU _ _ 2 _ _ _ h.b1;have h3:=zU _ _ 3 _ _ _ h.b1;have h4:=zU _ _ 4 _ _ _ h.b1;simp at h0 h1 h2 h3 h4;exact⟨⟨h0,h1,h2,h3,h4⟩,fun i=>yZ _ _ i _ _ h.b1⟩
theorem zi3{v:Value}{row:Option Nat}(h:∀b,row=some b->v.ownBlock≠some b):v.ownBlock=none∨v.ownBlock≠row:=by
 cases hv:v.ownBlock with
 |none=>exact .inl rfl
 |some x=>exact .inr fun e=>h x e.symm hv
theorem CD.aside{row:Option Nat}(h:CD w W q a bs c k n g zl cg zs oo ko O ov kv V fi)(hg:W.grownBy W' row)(hr:∀b,row=some b->w.heap.size+1<=b/\b≠k/\b≠g/\oo.ownBlock≠some b/\ov.ownBlock≠some b):CD w W' q a bs c k n g zl cg zs oo ko O ov kv V fi:=by
 obtain⟨p,lZ⟩:=h.r;obtain⟨p0,cO⟩:=h.r0;have kK:∀b,row=some b->w.heap.size<=b:=fun b e=>by have:=(hr b e).1;omega
 exact⟨zd2 h.gr hg kK,h.r0,⟨p,RD.kept2 cO lZ hg kK⟩,za6 hg h.b0 (fun e=>by have:=(hr _ e.symm).1;omega),za6 hg h.b1 (fun e=>(hr _ e.symm).2.1 rfl),h.h,zj9 h.i hg (fun e=>(hr _ e.symm).2.2.1 rfl),h.o.kept hg (zi3 fun b e=>(hr b e).2.2.2.1),h.v.kept hg (zi3 fun b e=>(hr b e).2.2.2.2),h.d1,h.d2,h.d3⟩
theorem ze1{X:zi}{k i:Nat}{cs:Array Value}{T:TypeId}(v:Value)(h:X.heap[k]? =some (.cells cs T (0,0))):(X.setCell ⟨k,i,none⟩ v).heap[k]? =some (.cells (cs.setIfInBounds i v) T (0,0)):=xb X k i cs T v h
theorem CD.glt(h:CD w W q a bs c k n g zl cg zs oo ko O ov kv V fi):g<W.heap.size:=by
 obtain⟨b,off,e,hc⟩:=h.i 0 h.h.2.2.2;simp at e;obtain⟨rfl,rfl⟩:=e;exact zV hc
theorem CD.putO{ob:Obj}{xs:List Int}(h:CD w W q a bs c k n g zl cg zs oo ko O ov kv V fi)(ho:w4.ownsRow (w.heap.size+1) 103 6 rW (ko+1) ((O++xs).map (ze zd)))(hg:(W.alloc ob).grownBy w4 oo.ownBlock)(hn:rW.ownBlock=oo.ownBlock∨rW.ownBlock=some (W.alloc ob).heap.size):CD w (w4.setCell ⟨k,2,none⟩ rW) q a bs c k n g zl cg zs rW (ko+1) (O++xs) ov kv V fi:=by
 obtain⟨h1,h2,h3,h4⟩:=h.h;have hk:=za2 h.b1;have hA:CD w (W.alloc ob) q a bs c k n g zl cg zs oo ko O ov kv V fi:=h.below (zP _);obtain⟨p,lZ⟩:=hA.r;obtain⟨p0,cO⟩:=h.r0;have kK:∀b,oo.ownBlock=some b->w.heap.size<=b:=fun b e=>by have:=(h.o.lt b e).1;omega
 have li:∀b,some k=some b->w.heap.size<=b:=fun b e=>by injection e with e;omega
 have hs:=zb3 w4 k 2 rW;have Lv:=h.glt;have sF:=RD.kept2 cO lZ hg kK;have tq:=hA.v.kept hg (zi3 fun b e=>h.d3 b e);have bW:(W.alloc ob).heap.size=W.heap.size+1:=by simp
 refine⟨zd2 (zd2 hA.gr hg kK) hs li,h.r0,⟨p,RD.kept2 cO sF hs li⟩,?_,?_,h.h,?_,?_,?_,?_,h.d2,?_⟩
 ·exact za6 hs (za6 hg hA.b0 (fun e=>by have:=(h.o.lt _ e.symm).1;omega)) (fun e=>by injection e with e;omega)
 ·have:=ze1 (i:=2) rW (za6 hg hA.b1 (fun e=>(h.d1 _ e.symm).1 rfl))
  simpa using this
 ·exact zj9 (zj9 hA.i hg (fun e=>(h.d1 _ e.symm).2 rfl)) hs (fun e=>by injection e with e;omega)
 ·refine ho.kept hs (zi3 fun b e=> ?_)
  injection e with e
  subst e;intro e2;rcases hn with hn|hn
  ·rw[hn]at e2;exact(h.d1 _ e2).1 rfl
  ·rw[hn,bW]at e2;injection e2 with e2;omega
 ·refine tq.kept hs (zi3 fun b e=> ?_)
  injection e with e
  subst e;intro e2;exact(h.d2 _ e2).1 rfl
 ·intro b e2
  rcases hn with hn|hn
  ·rw[hn]at e2;exact h.d1 _ e2
  ·rw[hn,bW]at e2
   injection e2 with e2
   refine⟨by omega,?_⟩;omega
 ·intro b e2 e3
  rcases hn with hn|hn
  ·rw[hn]at e2;exact h.d3 _ e2 e3
  ·rw[hn,bW]at e2
   injection e2 with e2
   have:=(h.v.lt _ e3).2;omega
theorem CD.putV{ob:Obj}{xs:List Int}(h:CD w W q a bs c k n g zl cg zs oo ko O ov kv V fi)(ho:w4.ownsRow (w.heap.size+1) 107 5 dQ (kv+1) ((V++xs).map (ze zd)))(hg:(W.alloc ob).grownBy w4 ov.ownBlock)(hn:dQ.ownBlock=ov.ownBlock∨dQ.ownBlock=some (W.alloc ob).heap.size):CD w (w4.setCell ⟨k,3,none⟩ dQ) q a bs c k n g zl cg zs oo ko O dQ (kv+1) (V++xs) fi:=by
 obtain⟨h1,h2,h3,h4⟩:=h.h;have hk:=za2 h.b1;have hA:CD w (W.alloc ob) q a bs c k n g zl cg zs oo ko O ov kv V fi:=h.below (zP _);obtain⟨p,lZ⟩:=hA.r;obtain⟨p0,cO⟩:=h.r0;have kK:∀b,ov.ownBlock=some b->w.heap.size<=b:=fun b e=>by have:=(h.v.lt b e).1;omega
 have li:∀b,some k=some b->w.heap.size<=b:=fun b e=>by injection e with e;omega
 have hs:=zb3 w4 k 3 dQ;have Lv:=h.glt;have sF:=RD.kept2 cO lZ hg kK;have tq:=hA.o.kept hg (zi3 fun b e e2=>h.d3 b e2 e);have bW:(W.alloc ob).heap.size=W.heap.size+1:=by simp
 refine⟨zd2 (zd2 hA.gr hg kK) hs li,h.r0,⟨p,RD.kept2 cO sF hs li⟩,?_,?_,h.h,?_,?_,?_,h.d1,?_,?_⟩
 ·exact za6 hs (za6 hg hA.b0 (fun e=>by have:=(h.v.lt _ e.symm).1;omega)) (fun e=>by injection e with e;omega)
 ·have:=ze1 (i:=3) dQ (za6 hg hA.b1 (fun e=>(h.d2 _ e.symm).1 rfl))
  simpa using this
 ·exact zj9 (zj9 hA.i hg (fun e=>(h.d2 _ e.symm).2 rfl)) hs (fun e=>by injection e with e;omega)
 ·refine tq.kept hs (zi3 fun b e=> ?_)
  injection e with e
  subst e;intro e2;exact(h.d1 _ e2).1 rfl
 ·refine ho.kept hs (zi3 fun b e=> ?_)
  injection e with e
  subst e;intro e2;rcases hn with hn|hn
  ·rw[hn]at e2;exact(h.d2 _ e2).1 rfl
  ·rw[hn,bW]at e2;injection e2 with e2;omega
 ·intro b e2
  rcases hn with hn|hn
  ·rw[hn]at e2;exact h.d2 _ e2
  ·rw[hn,bW]at e2
   injection e2 with e2
   refine⟨by omega,?_⟩;omega
 ·intro b e3 e2
  rcases hn with hn|hn
  ·rw[hn]at e2;exact h.d3 _ e3 e2
  ·rw[hn,bW]at e2
   injection e2 with e2
   have:=(h.o.lt _ e3).2;omega
theorem CD.setF(x:Int)(h:CD w W q a bs c k n g zl cg zs oo ko O ov kv V fi):CD w (W.setCell ⟨k,4,none⟩ (ze zd x)) q a bs c k n g zl cg zs oo ko O ov kv V x:=by
 obtain⟨h1,h2,h3,h4⟩:=h.h;obtain⟨p,lZ⟩:=h.r;obtain⟨p0,cO⟩:=h.r0;have hs:=zb3 W k 4 (ze zd x);have li:∀b,some k=some b->w.heap.size<=b:=fun b e=>by injection e with e;omega
 refine⟨zd2 h.gr hs li,h.r0,⟨p,RD.kept2 cO lZ hs li⟩,za6 hs h.b0 (fun e=>by injection e with e;omega),?_,h.h,zj9 h.i hs (fun e=>by injection e with e;omega),h.o.kept hs (zi3 fun b e e2=>by injection e with e;subst e;exact(h.d1 _ e2).1 rfl),h.v.kept hs (zi3 fun b e e2=>by injection e with e;subst e;exact(h.d2 _ e2).1 rfl),h.d1,h.d2,h.d3⟩;have:=ze1 (i:=4) (ze zd x) h.b1;simpa using this
theorem CD.setO{go co:Nat}(j:Nat)(x:Int)(h:CD w W q a bs c k n g zl cg zs (za (some ⟨go,0,none⟩) ko co) ko O ov kv V fi):CD w (W.setCell ⟨go,j,none⟩ (ze zd x)) q a bs c k n g zl cg zs (za (some ⟨go,0,none⟩) ko co) ko (O.set j x) ov kv V fi:=by
 obtain⟨h1,h2,h3,h4⟩:=h.h;obtain⟨p,lZ⟩:=h.r;obtain⟨p0,cO⟩:=h.r0;have lK:=(h.o.lt go rfl).1;have hd:=h.d1 go rfl;have hs:=zb3 W go j (ze zd x);have li:∀b,some go=some b->w.heap.size<=b:=fun b e=>by injection e with e;omega
 refine⟨zd2 h.gr hs li,h.r0,⟨p,RD.kept2 cO lZ hs li⟩,za6 hs h.b0 (fun e=>by injection e with e;omega),za6 hs h.b1 (fun e=>by injection e with e;omega),h.h,zj9 h.i hs (fun e=>by injection e with e;omega),yl2 x h.o,h.v.kept hs (zi3 fun b e e2=>by injection e with e;subst e;exact h.d3 _ rfl e2),h.d1,h.d2,h.d3⟩
theorem CD.setV{gv cv:Nat}(j:Nat)(x:Int)(h:CD w W q a bs c k n g zl cg zs oo ko O (za (some ⟨gv,0,none⟩) kv cv) kv V fi):CD w (W.setCell ⟨gv,j,none⟩ (ze zd x)) q a bs c k n g zl cg zs oo ko O (za (some ⟨gv,0,none⟩) kv cv) kv (V.set j x) fi:=by
 obtain⟨h1,h2,h3,h4⟩:=h.h;obtain⟨p,lZ⟩:=h.r;obtain⟨p0,cO⟩:=h.r0;have lK:=(h.v.lt gv rfl).1;have hd:=h.d2 gv rfl;have hs:=zb3 W gv j (ze zd x);have li:∀b,some gv=some b->w.heap.size<=b:=fun b e=>by injection e with e;omega
 refine⟨zd2 h.gr hs li,h.r0,⟨p,RD.kept2 cO lZ hs li⟩,za6 hs h.b0 (fun e=>by injection e with e;omega),za6 hs h.b1 (fun e=>by injection e with e;omega),h.h,zj9 h.i hs (fun e=>by injection e with e;omega),h.o.kept hs (zi3 fun b e e2=>by injection e with e;subst e;exact h.d3 _ e2 rfl),yl2 x h.v,h.d1,h.d2,h.d3⟩
end
theorem zG0(w:zi){ap:Array Oper}{rest:List Oper}{o:Oper}{a:Act}{Q:Exit->Act->zi->Prop}
 (hg:o.guard=none) (s x:Operand) (du:o.op=zI {callee:=zw zx,args:=#[s,x],argTypes:=#[24,24]})
 (base:Nat) (v:Value) (k:Nat) (xs:List Int) (hs:a.eval s=v) (ae:w.ownsRow base 2 1 v k (xs.map (ze zd))) (b c:Nat) (id:Int) (hx:a.eval x=za (some ⟨b,0,none⟩) 1 c)
 (hc:w.cell? ⟨b,0,none⟩=some (ze zd id)) (b1:k<=1000) (hb:base<=w.heap.size)
 (hK:∀v' w',w'.ownsRow base 2 1 v' (k+1) ((xs++[id]).map (ze zd))->w.grownBy w' v.ownBlock->(v'=za none 0 0↔v=za none 0 0/\1=0)->wpList zh ap Q rest (a.put o.dst v') w'):
 wpList zh ap Q (o::rest) a w:=by
 obtain⟨i0,hi,bN,ba,bR⟩:=zs0;refine wpList_append_own w hg s x _ du base _ i0 _ 1 8 qb hi bN ba bR rfl (by decide) v k _ hs ae ⟨b,0,none⟩ 1 c [ze zd id] hx rfl ?_ (by simp[zq]) (by unfold maxLen;omega) (by omega) hb (fun v' w' h1 h2 h3=>hK v' w' (by rw[x8];exact h1) h2 h3);intro j u hu;have hj:j=0:=by
  rcases j with _|j
  ·rfl
  ·simp at hu
 subst hj;have dO:(⟨b,0,none⟩:Zd).add 0=⟨b,0,none⟩:=by unfold zN;split<;>simp_all
 rw[dO,hc];simpa using hu
theorem z36(n fine ab:Int)(a ao av bi:Option Zd)(ac ko co kv cv c2:Nat)(zs os vs ids:List Int)(w:zi)(hA:za3 w a zs)(hO:za3 w ao os)(hV:za3 w av vs)(hI:za3 w bi ids)(an:os.length=ko*6)(au:vs.length=kv*5)(aA:ko<=9223372036854775807)(aB:kv<=9223372036854775807)(fe:ids.length<=9223372036854775807)(cw:ids.length<=c2)(v:Bool)(hv:decide (codeV (zd0 n zs os vs ko kv fine) n zs os vs ko kv ab ids=0)=v):
 Zc zh 86 #[.agg #[ze zd n,za a zs.length ac,za ao ko co,za av kv cv,ze zd fine],.agg #[ze zd ab,za bi ids.length c2]] w fun e w'=>e=.returned (.bool v)/\Za w.heap.size w w':=by
 have HA:=za4 hA;have HO:=za4 hO;have HV:=za4 hV;have HI:=za4 hI;have aF:Zb _:=an;have aE:Zb _:=au;clear hA hO hV hI an au;have ez:Zb _:=hv;clear hv;have bo:Zb (CR w ((w.alloc (zg #[ze zd n,za a zs.length ac,za ao ko co,za av kv cv,ze zd fine] 30)).alloc (zg #[ze zd ab,za bi ids.length c2] 80)) _ _):=CR.new w _ _;go_enter Tryz.func86,Tryz.ntmps86;obtain⟨c0,c1,bZ,c3,c4⟩:=za7 bo.2.1;obtain⟨d0,d1⟩:=za1 bo.2.2
 go_wp2_with fail
 clear c0 c1 bZ c3 c4 d0 d1;refine(zB5 n fine ab a ao av bi ac ko co kv cv c2 zs os vs ids _ (HA.below bo.1) (HO.below bo.1) (HV.below bo.1) (HI.below bo.1) aF.X aE.X aA aB fe cw).mono ?_;rintro e w2 ⟨hb,⟨hf,rfl⟩|⟨hf,g,c,_,rfl,_⟩⟩
 ·have gh:Zb _:=bo.1.trans (hb.mono bo.1.size)
  have Hl:Zb _:=ez.symm.trans (zX hf);generalize codeV (zd0 n zs os vs ko kv fine) n zs os vs ko kv ab ids=r at*;have KE:(r==0)=false:=by simp[hf]
  clear hb hf bo ez;go_wp2;go_ret;exact⟨zb6 Hl.symm,gh.X⟩
 ·have gh:Zb _:=bo.1.trans (hb.mono bo.1.size)
  have Hl:Zb _:=ez.symm.trans (zW hf);clear hb hf bo ez;generalize homeV n zs (zd5 os ko ids) ids.length (zc4 vs kv ab 1) (zc4 vs kv ab 3)=hm;go_wp2;go_ret;exact⟨zb6 Hl.symm,gh.X⟩
theorem zt2(n fine ab:Int)(a ao av bi:Option Zd)(ac ko co kv cv c2:Nat)(zs os vs ids:List Int)(w:zi)(hA:za3 w a zs)(hO:za3 w ao os)(hV:za3 w av vs)(hI:za3 w bi ids)(an:os.length=ko*6)(au:vs.length=kv*5)(aA:ko<=9223372036854775807)(aB:kv<=9223372036854775807)(fe:ids.length<=9223372036854775807)(aG:codeV (zd0 n zs os vs ko kv fine) n zs os vs ko kv ab ids=0):
 Zc zh 89 #[.agg #[ze zd n,za a zs.length ac,za ao ko co,za av kv cv,ze zd fine],.agg #[ze zd ab,za bi ids.length c2]] w fun e w'=>e=.returned (ze zd (zq5 n zs (zd5 os ko ids) ids.length (zc4 vs kv ab 1)))/\Za w.heap.size w w':=by
 have HA:=za4 hA;have HO:=za4 hO;have HV:=za4 hV;have HI:=za4 hI;have aF:Zb _:=an;have aE:Zb _:=au;clear hA hO hV hI an au;have bo:Zb (CR w ((w.alloc (zg #[ze zd n,za a zs.length ac,za ao ko co,za av kv cv,ze zd fine] 30)).alloc (zg #[ze zd ab,za bi ids.length c2] 80)) _ _):=CR.new w _ _;obtain⟨jl,_,n5⟩:=zf2 (zg7 aG).1;obtain⟨cA,ce,b8,a8,_⟩:=zb2 jl;have eZ:=zr6 b8 a8 ab;have db:Zb _:=cA;have mT:Zb _:=ce;have mB:=za4 a8;have bH:=(zg3 n5).1;clear cA ce b8 a8 jl n5 aG;obtain⟨r,cm⟩:=nmd (zq5 n zs (zd5 os ko ids) ids.length (zc4 vs kv ab 1));rw[cm.X];go_enter Tryz.func89,Tryz.ntmps89;obtain⟨c0,c1,bZ,c3,c4⟩:=za7 bo.2.1;obtain⟨d0,d1⟩:=za1 bo.2.2
 go_wp2_with fail
 clear c0 c1 bZ c3 c4 d0 d1;refine(zG3 n fine ab a ao av _ ac ko co kv cv vs _ (HV.below bo.1) aE.X aB).mono ?_;rintro e w2 ⟨rfl,hb⟩;obtain⟨v0,G0⟩:=nmd (zc4 vs kv ab 0);obtain⟨v1,G1⟩:=nmd (zc4 vs kv ab 1);obtain⟨v2,G2⟩:=nmd (zc4 vs kv ab 2);obtain⟨v3,G3⟩:=nmd (zc4 vs kv ab 3);obtain⟨v4,G4⟩:=nmd (zc4 vs kv ab 4);rw[G1.X,G2.X,G3.X,G4.X]at eZ;rw[G1.X]at cm;rw[G0.X,G1.X,G2.X,G3.X,G4.X];generalize fnd5T vs kv ab=tv;have jM:Zb _:=eZ.1;clear eZ;have C3:Zb (CR w (w2.alloc (zg #[ze zd v0,ze zd v1,ze zd v2,ze zd v3,ze zd v4] 107)) _ _):=CR.alloc (bo.below hb) _;have fC:Zb ((w2.alloc (zg #[ze zd v0,ze zd v1,ze zd v2,ze zd v3,ze zd v4] 107)).heap[w2.heap.size]? =_):=zS _ _;clear hb bo;obtain⟨q0,q1,q2,q3,q4⟩:=za7 fC.X
 go_wp2_with fail
 clear q0 q1 q2 q3 q4;generalize w2.alloc _=W2 at*;generalize w2.heap.size=gv at*;have dH:Zb (z48 n (zd5 os ko ids) ids.length):=z61 mT.X mB.X ids;go_loopw[7,8,9] (fun pl sm t wr=>∃k:Nat,k<=ids.length/\t=ze zd k/\pl=ze zd (plc (zd5 os ko ids) v1 k)/\sm=ze zd (zq8 n zs (zd5 os ko ids) v1 k)/\CR w wr #[ze zd n,za a zs.length ac,za ao ko co,za av kv cv,ze zd fine] #[ze zd ab,za bi ids.length c2]/\wr.heap[gv]? =some (zg #[ze zd v0,ze zd v1,ze zd v2,ze zd v3,ze zd v4] 107 (0,0))) (fun _ _ t _=>ids.length - (intOf t).toNat)
 case atStart=>exact⟨0,xi _,rfl,rfl,rfl,C3.X,fC.X⟩
 case round=>
  clear C3 fC;obtain⟨k,hk,rfl,rfl,rfl,hb,jA⟩:=hrel;have aT:=ya2 dH.X jM.1 jM.2 k hk;have jl:=z46 (ros:=(zd5 os ko ids)) (home:=v1) db.X k;have HB:=za4 hb;have bA:=za4 jA;obtain⟨c0,c1,bZ,c3,c4⟩:=za7 hb.2.1;obtain⟨d0,d1⟩:=za1 hb.2.2;obtain⟨p,bk⟩:=nmd (plc (zd5 os ko ids) v1 k);obtain⟨f,fd⟩:=nmd (zq8 n zs (zd5 os ko ids) v1 k);rw[bk.X]at aT;rw[fd.X]at jl;rw[bk.X,fd.X];have mt:Zb _:=aT;clear hb jA aT;by_cases ah:k<ids.length
  ·obtain⟨b,off,rfl,aJ⟩:=za3.some (za3.below HI.X HB.1) ah
   have ct:=aJ k ah;clear aJ;obtain⟨id,bF⟩:=nmd (ids.getD k 0);rw[bF.X]at ct;have fq:=(zT4 mT.X mB.X id).1;obtain⟨o0,H0⟩:=nmd (zd1 os ko id 0);obtain⟨o1,H1⟩:=nmd (zd1 os ko id 1);obtain⟨o2,H2⟩:=nmd (zd1 os ko id 2);obtain⟨o3,H3⟩:=nmd (zd1 os ko id 3);obtain⟨o4,H4⟩:=nmd (zd1 os ko id 4);obtain⟨o5,H5⟩:=nmd (zd1 os ko id 5);rw[H1.X]at fq;have fq:Zb _:=fq;obtain⟨d,HD⟩:=nmd (tmI n zs p o1);have km:=zy1 db.X p o1;rw[HD.X]at km;have K1:Zb (og6 (zd5 os ko ids) k 1=o1):=(zj8 os ko ids ah (by omega)).trans (by rw[bF.X];exact H1.X);have aZ:Zb (zq8 n zs (zd5 os ko ids) v1 (k+1)=f+d):=by
    show _=_;simp only[zq8];rw[fd.X,bk.X,K1.X,HD.X]
   obtain⟨tt,eN⟩:=nmd (zl7 os ko id)
   go_wp2_with fail
   have ip:=za4 ct;have gZ:Zb ((wr.alloc (zg #[ze zd 0,ze zd 0,ze zd 0,ze zd 0,ze zd 0,ze zd 0] 103)).cell? ⟨b,off+k,none⟩=_):=(((y5 wr.heap.size wr).alloc (zT _) _).cell (p:=⟨b,off+k,none⟩) (zV ct)).trans ct;have lm:Zb ((wr.alloc (zg #[ze zd 0,ze zd 0,ze zd 0,ze zd 0,ze zd 0,ze zd 0] 103)).heap[gv]? =_):=(xg _ _ (za2 bA.X)).trans bA.X;have cM:=zV ct;simp at cM;have aD:=za2 HB.2.1;have dX:=za2 HB.2.2
   go_region_held3 (fun W=>W.cell? ⟨w.heap.size,0,none⟩=some (ze zd n)/\W.cell? ⟨w.heap.size,1,none⟩=some (za a zs.length ac)/\W.cell? ⟨w.heap.size,2,none⟩=some (za ao ko co)/\W.cell? ⟨w.heap.size,3,none⟩=some (za av kv cv)/\W.cell? ⟨w.heap.size,4,none⟩=some (ze zd fine)/\W.cell? ⟨w.heap.size+1,1,none⟩=some (za (some ⟨b,off,none⟩) ids.length c2)/\W.cell? ⟨b,off+k,none⟩=some (ze zd id)) (first|with_reducible exact kS|with_reducible exact⟨(za5 (za5 (za5 (za5 (za5 (za5 kS.1 (y8 aD)) (y8 aD)) (y8 aD)) (y8 aD)) (y8 aD)) (y8 aD)),(za5 (za5 (za5 (za5 (za5 (za5 kS.2.1 (y8 aD)) (y8 aD)) (y8 aD)) (y8 aD)) (y8 aD)) (y8 aD)),(za5 (za5 (za5 (za5 (za5 (za5 kS.2.2.1 (y8 aD)) (y8 aD)) (y8 aD)) (y8 aD)) (y8 aD)) (y8 aD)),(za5 (za5 (za5 (za5 (za5 (za5 kS.2.2.2.1 (y8 aD)) (y8 aD)) (y8 aD)) (y8 aD)) (y8 aD)) (y8 aD)),(za5 (za5 (za5 (za5 (za5 (za5 kS.2.2.2.2.1 (y8 aD)) (y8 aD)) (y8 aD)) (y8 aD)) (y8 aD)) (y8 aD)),(za5 (za5 (za5 (za5 (za5 (za5 kS.2.2.2.2.2.1 (y8 dX)) (y8 dX)) (y8 dX)) (y8 dX)) (y8 dX)) (y8 dX)),(za5 (za5 (za5 (za5 (za5 (za5 kS.2.2.2.2.2.2 (y8 cM)) (y8 cM)) (y8 cM)) (y8 cM)) (y8 cM)) (y8 cM))⟩|go_keep) ((first
    |(go_at_call 88
      with_reducible refine(zr7 n fine id a ao av _ ac ko co kv cv os wr.drew ?_ aF.X aA).mono ?_
      ·exact HO.below HB.1.drew
      rintro e w2 ⟨rfl,aC⟩;rw[H0.X,H1.X,H2.X,H3.X,H4.X,H5.X,eN.X];have aQ:=CR.below (CR.drew HB.X) aC;obtain⟨k0,k1,k2,k3,k4⟩:=za7 aQ.2.1;have k5:=(za1 aQ.2.2).2;have k6:=(aC.cell (p:=⟨b,off+k,none⟩) (zV ip.X)).trans ip.X;have kS:=xr k0 (xr k1 (xr k2 (xr k3 (xr k4 (xr k5 k6)))));have fB:=za4 aQ;have fm:=za4 (za0 aC (za2 bA.X) bA.X);clear aC aQ k0 k1 k2 k3 k4 k5 k6)
    |(go_at_call 88
      with_reducible refine(zr7 n fine id a ao av _ ac ko co kv cv os (wr.alloc (zg #[ze zd 0,ze zd 0,ze zd 0,ze zd 0,ze zd 0,ze zd 0] 103)).drew ?_ aF.X aA).mono ?_
      ·exact HO.below (CR.alloc HB.X (zg #[ze zd 0,ze zd 0,ze zd 0,ze zd 0,ze zd 0,ze zd 0] 103)).1.drew
      rintro e w2 ⟨rfl,aC⟩;rw[H0.X,H1.X,H2.X,H3.X,H4.X,H5.X,eN.X];have aQ:=CR.below (CR.drew (CR.alloc HB.X (zg #[ze zd 0,ze zd 0,ze zd 0,ze zd 0,ze zd 0,ze zd 0] 103))) aC;obtain⟨k0,k1,k2,k3,k4⟩:=za7 aQ.2.1;have k5:=(za1 aQ.2.2).2;have k6:=(aC.cell (p:=⟨b,off+k,none⟩) (zV gZ.X)).trans gZ.X;have kS:=xr k0 (xr k1 (xr k2 (xr k3 (xr k4 (xr k5 k6)))));have fB:=za4 aQ;have fm:=za4 (za0 aC (za2 lm.X) lm.X);obtain⟨z0,z1,z2,z3,z4,z5⟩:=zi2 (za0 aC (k:=wr.heap.size) (by simp) (zS wr (zg #[ze zd 0,ze zd 0,ze zd 0,ze zd 0,ze zd 0,ze zd 0] 103)));have zf:=fun i=>yZ _ _ i _ _ (za0 aC (k:=wr.heap.size) (by simp) (zS wr (zg #[ze zd 0,ze zd 0,ze zd 0,ze zd 0,ze zd 0,ze zd 0] 103)))
      have lB:Zb (w2.heap[wr.heap.size]? =_):=za0 aC (k:=wr.heap.size) (by simp) (zS wr (zg #[ze zd 0,ze zd 0,ze zd 0,ze zd 0,ze zd 0,ze zd 0] 103));clear aC aQ k0 k1 k2 k3 k4 k5 k6)))
   all_goals(first
    |(have ed:Zb (CR w (zj (zj (zj (zj (zj (zj w2 ⟨wr.heap.size,0,none⟩ (ze zd o0)) ⟨wr.heap.size,1,none⟩ (ze zd o1)) ⟨wr.heap.size,2,none⟩ (ze zd o2)) ⟨wr.heap.size,3,none⟩ (ze zd o3)) ⟨wr.heap.size,4,none⟩ (ze zd o4)) ⟨wr.heap.size,5,none⟩ (ze zd o5)) _ _):=CR.set (CR.set (CR.set (CR.set (CR.set (CR.set fB.X HB.big) HB.big) HB.big) HB.big) HB.big) HB.big
      have kQ:Zb ((zj (zj (zj (zj (zj (zj w2 ⟨wr.heap.size,0,none⟩ (ze zd o0)) ⟨wr.heap.size,1,none⟩ (ze zd o1)) ⟨wr.heap.size,2,none⟩ (ze zd o2)) ⟨wr.heap.size,3,none⟩ (ze zd o3)) ⟨wr.heap.size,4,none⟩ (ze zd o4)) ⟨wr.heap.size,5,none⟩ (ze zd o5)).heap[gv]? =_):=za8 (za8 (za8 (za8 (za8 (za8 fm.X (y8 (za2 bA.X))) (y8 (za2 bA.X))) (y8 (za2 bA.X))) (y8 (za2 bA.X))) (y8 (za2 bA.X))) (y8 (za2 bA.X));have bE:Zb ((zj (zj (zj (zj (zj (zj w2 ⟨wr.heap.size,0,none⟩ (ze zd o0)) ⟨wr.heap.size,1,none⟩ (ze zd o1)) ⟨wr.heap.size,2,none⟩ (ze zd o2)) ⟨wr.heap.size,3,none⟩ (ze zd o3)) ⟨wr.heap.size,4,none⟩ (ze zd o4)) ⟨wr.heap.size,5,none⟩ (ze zd o5)).heap[wr.heap.size]? =_):=zP7 lB.X;clear kS fB fm lB ip gZ lm ct z0 z1 z2 z3 z4 z5 zf;generalize(zj (zj (zj (zj (zj (zj w2 ⟨wr.heap.size,0,none⟩ (ze zd o0)) ⟨wr.heap.size,1,none⟩ (ze zd o1)) ⟨wr.heap.size,2,none⟩ (ze zd o2)) ⟨wr.heap.size,3,none⟩ (ze zd o3)) ⟨wr.heap.size,4,none⟩ (ze zd o4)) ⟨wr.heap.size,5,none⟩ (ze zd o5))=W at*;generalize wr.heap.size=g at*)
    |(have ed:Zb (CR w (w2.alloc (zg #[ze zd o0,ze zd o1,ze zd o2,ze zd o3,ze zd o4,ze zd o5] 103)) _ _):=CR.alloc fB.X _
      have kQ:Zb ((w2.alloc (zg #[ze zd o0,ze zd o1,ze zd o2,ze zd o3,ze zd o4,ze zd o5] 103)).heap[gv]? =_):=(xg _ _ (za2 fm.X)).trans fm.X;have bE:Zb ((w2.alloc (zg #[ze zd o0,ze zd o1,ze zd o2,ze zd o3,ze zd o4,ze zd o5] 103)).heap[w2.heap.size]? =_):=zS _ _;clear kS fB fm ip gZ lm ct;generalize w2.alloc _=W at*;generalize w2.heap.size=g at*))
   all_goals
    clear c0 c1 bZ c3 c4 d0 d1 aD dX cM eN;generalize tt=tt';obtain⟨c0,c1,bZ,c3,c4⟩:=za7 ed.2.1;obtain⟨p0,p1,p2,p3,p4,p5⟩:=zi2 bE.X
    go_wp2_with fail
    clear c0 c1 bZ c3 c4 p0 p1 p2 p3 p4 p5;refine(zy6 n p o1 _ _ zs _ d HD.X db.X mt.X fq.X (HA.below ed.1)).mono ?_;rintro e W3 ⟨rfl,cJ⟩;have tX:=za4 (ed.below cJ);have fC:=za4 (za0 cJ (za2 kQ.X) kQ.X);have uZ:=za4 (za0 cJ (za2 bE.X) bE.X);clear cJ ed kQ bE;obtain⟨p0,p1,p2,p3,p4,p5⟩:=zi2 uZ.X;go_wp2;go_roundw
    case rel=>exact⟨k+1,by omega,by go_num,by rw[<-K1.X];rfl,by rw[aZ.X],tX.X,fC.X⟩
    case measure=>simp[intOf];omega
  ·have bu:k=ids.length:=by omega
   obtain⟨q0,q1,q2,q3,q4⟩:=za7 bA.X;have HE:Zb (r=f+tmI n zs p v1):=by
    have:=cm.X;unfold zq5 at this;rw[<-bu,fd.X,bk.X]at this;exact this.symm
   clear bu;obtain⟨d,HD⟩:=nmd (tmI n zs p v1);have km:=zy1 db.X p v1;rw[HD.X]at km HE
   go_wp2_with fail
   refine(zy6 n p v1 _ _ zs _ d HD.X db.X mt.X jM.X (HA.below HB.1)).mono ?_;rintro e W3 ⟨rfl,cJ⟩;have lP:Zb _:=HB.1.trans (cJ.mono HB.1.size);clear cJ;go_wp2;go_ret;exact⟨zl0 HE.symm,lP.X⟩
theorem yr8{n fi:Int}{zs O V:List Int}{ko kv:Nat}(h:zd0 n zs O V ko kv fi=true):∀x∈y01 O ko,-9223372036854775808<=x/\x<9223372036854775808:=fun x hx=>by
 unfold zd0 at h;simp only[zY]at h;obtain⟨_,ht⟩:=zd8 h.1.1.2;unfold y01 at hx;obtain⟨i,hi,rfl⟩:=yF.1 hx;have:=(ht i (List.mem_range.1 hi)).1;unfold zI0 inB at this;simp only[zY,qh]at this;omega
theorem yh3(n fine:Int)(a ao av bi:Option Zd)(ac ko co kv cv c2:Nat)(zs os ids:List Int)(w:zi)(hO:za3 w ao os)(hI:za3 w bi ids)(an:os.length=ko*6)(aA:ko<=9223372036854775807)(fe:ids.length<=9223372036854775807)(cw:ids.length<=c2):
 Zc zh 149 #[.agg #[ze zd n,za a zs.length ac,za ao ko co,za av kv cv,ze zd fine],za bi ids.length c2] w fun e w'=>Za w.heap.size w w'/\((zp2 os ko ids=false/\e=.returned (.tuple #[za none 0 0,.bool false]))∨(zp2 os ko ids=true/\e=.returned (.tuple #[za (some ⟨w.heap.size+1,0,none⟩) ids.length ids.length,.bool true])/\za3 w' (some ⟨w.heap.size+1,0,none⟩) (zd5 os ko ids))):=by
 have HO:=za4 hO;have HI:=za4 hI;have aF:Zb _:=an;clear hO hI an;have aU:Zb (Za w.heap.size w (w.alloc (zg #[ze zd n,za a zs.length ac,za ao ko co,za av kv cv,ze zd fine] 30))):=zP _;have jT:Zb ((w.alloc (zg #[ze zd n,za a zs.length ac,za ao ko co,za av kv cv,ze zd fine] 30)).heap[w.heap.size]? =_):=zS _ _;by_cases bH:ids.length<=12
 ·go_enter Tryz.func149,Tryz.ntmps149
  go_wp2_with(first
   |(at_make;refine yd3 _ rfl _ _ rfl (w.heap.size+1) zd zd _ ids.length rfl rfl rfl (by omega) (by simp) ?_;intro w1 hown0 hgrow0))
  have eG:Zb _:=aU.grown hgrow0 aU.size (fun k e=>by cases e);have ry:Zb (w1.heap[w.heap.size]? =_):=za6 hgrow0 jT.X (by simp);have JJ:Zb (w1.ownsRow (w.heap.size+1) 103 6 (za (some ⟨w.heap.size+1,0,none⟩) 0 ids.length) 0 []):=by
   show w1.ownsRow _ _ _ _ _ _;simpa using hown0
  clear hown0 hgrow0 aU jT;go_loopw[6,19] (fun sl t wr=>∃k:Nat,k<=ids.length/\t=ze zd k/\sl=za (some ⟨w.heap.size+1,0,none⟩) k ids.length/\zv1 os ko ids k/\Za w.heap.size w wr/\wr.heap[w.heap.size]? =some (zg #[ze zd n,za a zs.length ac,za ao ko co,za av kv cv,ze zd fine] 30 (0,0))/\wr.ownsRow (w.heap.size+1) 103 6 (za (some ⟨w.heap.size+1,0,none⟩) k ids.length) k (((zd5 os ko ids).take (k*6)).map (ze zd))) (fun _ t _=>ids.length - (intOf t).toNat)
  case atStart=>exact⟨0,xi _,rfl,rfl,zA6 _ _ _,eG.X,ry.X,by simpa using JJ.X⟩
  case round=>
   clear eG ry JJ;obtain⟨k,hk,rfl,rfl,wS,hb,hp,hw⟩:=hrel;have HT:=za4 wS;have HB:Zb _:=hb;have HP:=za4 hp;have HW:=za4 hw;obtain⟨c0,c1,bZ,c3,c4⟩:=za7 hp;clear wS hb hp hw;by_cases ah:k<ids.length
   ·obtain⟨b,off,rfl,aJ⟩:=za3.some (za3.below HI.X HB.X) ah
    have ct:=aJ k ah;clear aJ;obtain⟨id,bF⟩:=nmd (ids.getD k 0);rw[bF.X]at ct;have oF:k<=c2:=by omega
    obtain⟨o0,H0⟩:=nmd (zd1 os ko id 0);obtain⟨o1,H1⟩:=nmd (zd1 os ko id 1);obtain⟨o2,H2⟩:=nmd (zd1 os ko id 2);obtain⟨o3,H3⟩:=nmd (zd1 os ko id 3);obtain⟨o4,H4⟩:=nmd (zd1 os ko id 4);obtain⟨o5,H5⟩:=nmd (zd1 os ko id 5);obtain⟨tt,eN⟩:=nmd (zl7 os ko id)
    go_wp2_with fail
    refine(z45 n fine id a ao av _ ac ko co kv cv os _ (HO.below HB.X) aF.X aA).mono ?_;rintro e w2 ⟨rfl,aC⟩;rw[H0.X,H1.X,H2.X,H3.X,H4.X,H5.X,eN.X];have gh:Zb (Za w.heap.size w (w2.alloc (zg #[ze zd o0,ze zd o1,ze zd o2,ze zd o3,ze zd o4,ze zd o5] 103))):=(HB.trans (aC.mono HB.size)).alloc (xj HB.size aC.size) _;have eP:Zb ((w2.alloc (zg #[ze zd o0,ze zd o1,ze zd o2,ze zd o3,ze zd o4,ze zd o5] 103)).heap[w.heap.size]? =_):=(xg _ _ (za2 (za0 aC (za2 HP.X) HP.X))).trans (za0 aC (za2 HP.X) HP.X);have Lw:Zb ((w2.alloc (zg #[ze zd o0,ze zd o1,ze zd o2,ze zd o3,ze zd o4,ze zd o5] 103)).ownsRow _ _ _ _ _ _):=(zb9 HW.X aC).alloc _;have i8:Zb ((w2.alloc (zg #[ze zd o0,ze zd o1,ze zd o2,ze zd o3,ze zd o4,ze zd o5] 103)).heap[w2.heap.size]? =_):=zS _ _;obtain⟨p0,p1,p2,p3,p4,p5⟩:=zi2 i8.X;clear aC c0 c1 bZ c3 c4 ct;cases tt
    ·have HN:Zb _:=zy8 ah (zy5 bF.X eN.X rfl)
     go_wp2;go_ret2;exact⟨gh.X,.inl ⟨HN.X,rfl⟩⟩
    ·obtain⟨hh,HH⟩:=nmd (z02 ids k id)
     cases hh
     ·have d9:Zb (zv1 os ko ids (k+1)):=zB3 HT.X (zy5 bF.X eN.X HH.X)
      go_wp2_with(first
       |(go_at_call 178;refine(zA0 _ k _ id ids _ (HI.below gh.X) hk (by omega)).mono ?_;rintro e w3 ⟨rfl,rfl⟩;rw[HH.X])
       |(at_builtin;refine zQ1 _ rfl _ _ rfl (w.heap.size+1) (w.heap.size+1) k ids.length _ rfl (Lw.alloc _) _ 1 1 [ze zd o0,ze zd o1,ze zd o2,ze zd o3,ze zd o4,ze zd o5] rfl rfl (yr2 _ _ _ _ _ _ _ _ _ (by simp)) (by simp[zq]) (by omega) ?_;intro w4 hown4 aI))
      have aq:some w.heap.size≠some (w.heap.size+1):=by simp
      refine⟨⟨k+1,by omega,by go_num,rfl,d9.X,(gh.alloc gh.size _).grown aI (xj gh.size (by simp)) (fun j e=>by cases e;omega),za6 aI ((xg _ _ (za2 eP.X)).trans eP.X) (by simp),?_⟩,by simp[intOf];omega⟩;rw[y42 os ko ids ah bF.X H0.X H1.X H2.X H3.X H4.X H5.X]at hown4;exact hown4
     ·have HN:Zb _:=zy8 ah (zy5 bF.X eN.X HH.X)
      go_wp2_with(first
       |(go_at_call 178;refine(zA0 _ k _ id ids _ (HI.below gh.X) hk (by omega)).mono ?_;rintro e w3 ⟨rfl,rfl⟩;rw[HH.X]))
      go_ret2;exact⟨gh.X,.inl ⟨HN.X,rfl⟩⟩
   ·have bu:k=ids.length:=by omega
    have HN:Zb _:=z86 bH (bu▸HT.X);subst bu;go_wp2;go_ret2;refine⟨HB.X,.inr ⟨HN.X,rfl,?_⟩⟩;have:=HW.X;rw[xF (by rw[zj0];omega)]at this;exact zd4 this
 ·have HN:Zb (zp2 os ko ids=false):=zF6 bH
  go_enter Tryz.func149,Tryz.ntmps149;go_wp2;go_ret2;exact⟨aU.X,.inl ⟨HN.X,rfl⟩⟩
def CRT(w W:zi)(cs rs ts:Array Value):Prop:=CR w W cs rs/\W.heap[w.heap.size+2]? =some (.cells ts 119 (0,0))
theorem CRT.new(w:zi)(cs rs ts:Array Value):CRT w (((w.alloc (.cells cs 30)).alloc (.cells rs 80)).alloc (.cells ts 119)) cs rs ts:=by
 refine⟨(CR.new w cs rs).alloc _,?_⟩;have:=zS ((w.alloc (.cells cs 30)).alloc (.cells rs 80)) (.cells ts 119);simpa using this
theorem CRT.below{w W W':zi}{cs rs ts:Array Value}(h:CRT w W cs rs ts)(hb:Za W.heap.size W W'):CRT w W' cs rs ts:=
 ⟨h.1.below hb,za0 hb (za2 h.2) h.2⟩
theorem CRT.b{w W:zi}{cs rs ts:Array Value}(h:CRT w W cs rs ts):Za w.heap.size w W:=h.1.1
theorem CRT.alloc{w W:zi}{cs rs ts:Array Value}(h:CRT w W cs rs ts)(o:Obj):CRT w (W.alloc o) cs rs ts:=h.below (zP _)
theorem zJ7(n fine ab:Int)(a ao av bi:Option Zd)(ac ko co kv cv c2:Nat)(zs os vs ids:List Int)(w:zi)(hA:za3 w a zs)(hO:za3 w ao os)(hV:za3 w av vs)(hI:za3 w bi ids)(an:os.length=ko*6)(au:vs.length=kv*5)(aA:ko<=9223372036854775807)(aB:kv<=9223372036854775807)(fe:ids.length<=9223372036854775807)(cw:ids.length<=c2)(bT:zd0 n zs os vs ko kv fine=true):
 Zc zh 116 #[.agg #[ze zd n,za a zs.length ac,za ao ko co,za av kv cv,ze zd fine],.agg #[ze zd ab,za bi ids.length c2]] w fun e w'=>Za w.heap.size w w'/\((zm7 true vs os kv ko ab ids≠0/\e=.returned (.tuple #[.agg #[ze zd 0,za none 0 0,ze zd 0,ze zd 0,ze zd 0,ze zd 0,ze zd 0,za none 0 0],ze zd (zm7 true vs os kv ko ab ids)]))∨(zm7 true vs os kv ko ab ids=0/\∃g,w.heap.size<=g/\e=.returned (.tuple #[.agg #[ze zd n,za a zs.length ac,ze zd (zc4 vs kv ab 0),ze zd (zc4 vs kv ab 1),ze zd (zc4 vs kv ab 2),ze zd (zc4 vs kv ab 3),ze zd (zc4 vs kv ab 4),za (some ⟨g,0,none⟩) ids.length ids.length],ze zd 0])/\za3 w' (some ⟨g,0,none⟩) (zd5 os ko ids))):=by
 have HA:=za4 hA;have HO:=za4 hO;have HV:=za4 hV;have HI:=za4 hI;have aF:Zb _:=an;have aE:Zb _:=au;clear hA hO hV hI an au;have HC:Zb _:=bT;clear bT;have bo:Zb (CRT w (((w.alloc (zg #[ze zd n,za a zs.length ac,za ao ko co,za av kv cv,ze zd fine] 30)).alloc (zg #[ze zd ab,za bi ids.length c2] 80)).alloc (zg #[ze zd 0,za none 0 0,ze zd 0,ze zd 0,ze zd 0,ze zd 0,ze zd 0,za none 0 0] 119)) _ _ _):=CRT.new w _ _ _;obtain⟨r,HR⟩:=nmd (zm7 true vs os kv ko ab ids);rw[HR.X];go_enter Tryz.func116,Tryz.ntmps116;obtain⟨c0,c1,bZ,c3,c4⟩:=za7 bo.X.1.2.1;obtain⟨d0,d1⟩:=za1 bo.X.1.2.2
 go_wp2_with fail
 clear c0 c1 bZ c3 c4 d0 d1;refine(zF7 n fine ab a ao av _ ac ko co kv cv vs _ (HV.X.below bo.X.1.1) aE.X aB).mono ?_;rintro e w2 ⟨rfl,hb⟩;obtain⟨v0,G0⟩:=nmd (zc4 vs kv ab 0);obtain⟨v1,G1⟩:=nmd (zc4 vs kv ab 1);obtain⟨v2,G2⟩:=nmd (zc4 vs kv ab 2);obtain⟨v3,G3⟩:=nmd (zc4 vs kv ab 3);obtain⟨v4,G4⟩:=nmd (zc4 vs kv ab 4);rw[G0.X,G1.X,G2.X,G3.X,G4.X];have C2:Zb (CRT w (w2.alloc (zg #[ze zd v0,ze zd v1,ze zd v2,ze zd v3,ze zd v4] 107)) _ _ _):=(bo.X.below hb).alloc _;have fm:Zb ((w2.alloc (zg #[ze zd v0,ze zd v1,ze zd v2,ze zd v3,ze zd v4] 107)).heap[w2.heap.size]? =_):=zS _ _;clear hb bo;obtain⟨t0,t1,t2,t3,t4,t5,t6,t7⟩:=zk4 C2.X.2;have tf:=fun i=>yZ _ _ i _ _ C2.X.2;cases ht:fnd5T vs kv ab
 ·have cm:Zb _:=HR.X.symm.trans (y10 rfl ht)
  go_wp2;refine xe (v:=.tuple #[.agg #[ze zd 0,za none 0 0,ze zd 0,ze zd 0,ze zd 0,ze zd 0,ze zd 0,za none 0 0],ze zd 2]) (by simp[results,Tryz.results116,go_sem,t0,t1,t2,t3,t4,t5,t6,t7]) rfl ⟨?_,.inl ⟨by rw[cm.X];decide,by rw[cm.X]⟩⟩
  repeat(first|with_reducible exact C2.X.b|refine xq ?_ (by simp<;>omega) _)
 ·have ns:Zb _:=ht
  clear ht;obtain⟨c0,c1,bZ,c3,c4⟩:=za7 C2.X.1.2.1;obtain⟨d0,d1⟩:=za1 C2.X.1.2.2
  go_wp2_with fail
  clear c0 c1 bZ c3 c4 d0 d1 t0 t1 t2 t3 t4 t5 t6 t7 tf;generalize w2.alloc _=W2 at*;generalize w2.heap.size=gv at*;refine(yh3 n fine a ao av bi ac ko co kv cv c2 zs os ids W2 (HO.X.below C2.X.1.1) (HI.X.below C2.X.1.1) aF.X aA fe cw).mono ?_;rintro e w3 ⟨hb,⟨bz,rfl⟩|⟨bz,rfl,ex⟩⟩
  ·have C3:Zb (CRT w w3 _ _ _):=C2.X.below hb
   have cm:Zb _:=HR.X.symm.trans (zS8 rfl ns.X bz);obtain⟨t0,t1,t2,t3,t4,t5,t6,t7⟩:=zk4 C3.X.2;have tf:=fun i=>yZ _ _ i _ _ C3.X.2;clear hb bz;go_wp2;refine xe (v:=.tuple #[.agg #[ze zd 0,za none 0 0,ze zd 0,ze zd 0,ze zd 0,ze zd 0,ze zd 0,za none 0 0],ze zd 3]) (by simp[results,Tryz.results116,go_sem,t0,t1,t2,t3,t4,t5,t6,t7]) rfl ⟨?_,.inl ⟨by rw[cm.X];decide,by rw[cm.X]⟩⟩
   repeat(first|with_reducible exact C3.X.b|refine xq ?_ (by simp<;>omega) _)
  ·have dD:Zb _:=bz
   have C3:=za4 (C2.X.below hb);have fC:=za4 (za0 hb (za2 fm.X) fm.X);have fh:=za4 ex;have cC:Zb (w.heap.size+2<W2.heap.size+1):=Nat.lt_succ_of_lt (za2 C2.X.2);clear hb bz ex C2 fm;generalize W2.heap.size+1=gr at*;obtain⟨q0,q1,q2,q3,q4⟩:=za7 fC.X;obtain⟨cA,ce,b8,a8,_⟩:=zb2 HC.X;have bB:=(zr6 b8 a8 ab).2.1;rw[G2.X]at bB;have mT:Zb _:=ce;have mB:Zb _:=a8;clear cA ce b8 a8;have bH:=(zg3 dD.X).1
   go_wp2_with fail
   clear q0 q1 q2 q3 q4;go_loopw[9,36] (fun rm t wr=>∃k:Nat,k<=ids.length/\t=ze zd k/\rm=ze zd (v2 - zm9 os ko ids k)/\CRT w wr #[ze zd n,za a zs.length ac,za ao ko co,za av kv cv,ze zd fine] #[ze zd ab,za bi ids.length c2] #[ze zd 0,za none 0 0,ze zd 0,ze zd 0,ze zd 0,ze zd 0,ze zd 0,za none 0 0]/\wr.heap[gv]? =some (zg #[ze zd v0,ze zd v1,ze zd v2,ze zd v3,ze zd v4] 107 (0,0))/\za3 wr (some ⟨gr,0,none⟩) (zd5 os ko ids)) (fun _ t _=>ids.length - (intOf t).toNat)
   case atStart=>exact⟨0,xi _,rfl,by simp[zm9],C3.X,fC.X,fh.X⟩
   case round=>
    clear C3 fC fh;obtain⟨k,hk,rfl,rfl,hb,jA,ex⟩:=hrel;have dm:=zI1 mT.X ids k;have HB:=za4 hb;have bA:=za4 jA;have fh:=za4 ex;obtain⟨s0,gH⟩:=nmd (zm9 os ko ids k);rw[gH.X]at dm⊢;clear hb jA ex;by_cases ah:k<ids.length
    ·obtain⟨b',aR,e,aJ⟩:=za3.some fh.X (j:=k*6) (by rw[zj0];omega)
     simp at e;obtain⟨rfl,rfl⟩:=e;obtain⟨r0,r1,r2,r3,r4,r5⟩:=zt9 aJ (zj0 os ko ids) k ah;clear aJ;simp only[yb]at r0 r1 r2 r3 r4 r5;obtain⟨id,bF⟩:=nmd (ids.getD k 0);rw[zj8 os ko ids ah (by omega),bF.X]at r0 r1 r2 r3 r4 r5;have gu:=z69 mT.X id;obtain⟨o0,H0⟩:=nmd (zd1 os ko id 0);obtain⟨o1,H1⟩:=nmd (zd1 os ko id 1);obtain⟨o2,H2⟩:=nmd (zd1 os ko id 2);obtain⟨o3,H3⟩:=nmd (zd1 os ko id 3);obtain⟨o4,H4⟩:=nmd (zd1 os ko id 4);obtain⟨o5,H5⟩:=nmd (zd1 os ko id 5);rw[H2.X]at gu;rw[H0.X]at r0;rw[H1.X]at r1;rw[H2.X]at r2;rw[H3.X]at r3;rw[H4.X]at r4;rw[H5.X]at r5;have kL:Zb (zm9 os ko ids (k+1)=s0+o2):=by
      show _=_;unfold zm9;rw[gH.X,bF.X,H2.X]
     go_wp2;exact⟨⟨k+1,by omega,by go_num,by rw[kL.X];go_num,HB.X.alloc _,(xg _ _ (za2 bA.X)).trans bA.X,fh.X.below (zP _)⟩,by simp[intOf];omega⟩
    ·have bu:k=ids.length:=by omega
     have nL:Zb _:=bu▸gH.X;obtain⟨t0,t1,t2,t3,t4,t5,t6,t7⟩:=zk4 HB.X.2;have tf:=fun i=>yZ _ _ i _ _ HB.X.2;clear bu;by_cases hroom2:v2<s0
     ·have cm:Zb _:=HR.X.symm.trans (ys6 rfl ns.X dD.X (by rw[nL.X,G2.X];exact hroom2))
      go_wp2;refine xe (v:=.tuple #[.agg #[ze zd 0,za none 0 0,ze zd 0,ze zd 0,ze zd 0,ze zd 0,ze zd 0,za none 0 0],ze zd 4]) (by simp[results,Tryz.results116,go_sem,t0,t1,t2,t3,t4,t5,t6,t7]) rfl ⟨?_,.inl ⟨by rw[cm.X];decide,by rw[cm.X]⟩⟩
      repeat(first|with_reducible exact HB.X.b|refine xq ?_ (by simp<;>omega) _)
     ·have cm:Zb _:=HR.X.symm.trans (yy6 rfl ns.X dD.X (by rw[nL.X,G2.X];exact hroom2))
      obtain⟨q0,q1,q2,q3,q4⟩:=za7 bA.X;obtain⟨c0,c1,bZ,c3,c4⟩:=za7 HB.X.1.2.1;go_wp2;refine xe (v:=.tuple #[.agg #[ze zd n,za a zs.length ac,ze zd v0,ze zd v1,ze zd v2,ze zd v3,ze zd v4,za (some ⟨gr,0,none⟩) ids.length ids.length],ze zd 0]) (by simp[results,Tryz.results116,go_sem,t0,t1,t2,t3,t4,t5,t6,t7]) rfl ⟨?_,.inr ⟨cm.X,gr,by have:=cC.X;omega,?_,?_⟩⟩
      ·repeat(first|with_reducible exact HB.X.b|refine xq ?_ (by simp<;>omega) _)
      ·rw[G0.X,G1.X,G2.X,G3.X,G4.X]
      ·repeat(first|with_reducible exact fh.X|with_reducible refine yj6 ?_ (by have:=cC.X;omega))
theorem zC9(n x y:Int)(v0 v1 v2 v3 v4:Int)(a ar:Option Zd)(ac kr cr:Nat)(zs:List Int)(w:zi)(d:Int)(hd:tmI n zs x y=d)(hm:zq6 n zs=true)(hx:0<=x/\x<n)(hy:0<=y/\y<n)(hA:za3 w a zs):
 Zc zh 118 #[.agg #[ze zd n,za a zs.length ac,ze zd v0,ze zd v1,ze zd v2,ze zd v3,ze zd v4,za ar kr cr],ze zd x,ze zd y] w fun e w'=>e=.returned (ze zd d)/\Za w.heap.size w w':=hd▸yC5 n x y v0 v1 v2 v3 v4 a ar ac kr cr zs w hm hx hy hA
theorem yz2(L:List Int)(k:Nat)(x:Int):L.take k++[x]++L.drop k=insL L k x:=by
 unfold insL;rw[yi];rfl
theorem zY6(b off c:Nat)(L:List Int)(x:Int)(w:zi)(hA:za3 w (some ⟨b,off,none⟩) L)(hl:L.length<=100)(hc:L.length<=c):
 Zc zh 92 #[za (some ⟨b,off,none⟩) L.length c,ze zd x] w fun e w'=>∃g cc,e=.returned (za (some ⟨g,0,none⟩) (L.length+1) cc)/\Za w.heap.size w w'/\w'.ownsRow w.heap.size 2 1 (za (some ⟨g,0,none⟩) (L.length+1) cc) (L.length+1) ((zz5 L x).map (ze zd)):=by
 have HA:=za4 hA;clear hA;obtain⟨m,HM⟩:=nmd L.length;rw[HM.X]at hl hc⊢;have B1:Zb (Za w.heap.size w (w.alloc (zg #[] 2))):=zP _;go_enter Tryz.func92,Tryz.ntmps92
 go_wp2_with fail
 go_loop [5] (fun t=>∃k:Nat,k<=m/\t=ze zd k/\∀j,j<k->L.getD j 0<x) (fun t=>m - (intOf t).toNat)
 case atStart=>exact⟨0,xi _,rfl,fun j hj=>by omega⟩
 case round=>
  obtain⟨k,hk,rfl,hj⟩:=hrel;have HJ:Zb _:=hj;clear hj;by_cases hcont:k<m/\L.getD k 0<x
  ·obtain⟨ah,hx⟩:=hcont
   have et:(k:Int)<(m:Int):=by omega
   obtain⟨_,_,e,c1⟩:=HA.X k (by rw[HM.X];exact ah);simp only[x7,qg,qt]at e;obtain⟨rfl,rfl⟩:=e;have Ea:Zb (∀j,j<k+1->L.getD j 0<x):=fun j hj=>by
    by_cases e:j=k
    ·rw[e];exact hx
    ·exact HJ.X j (by omega)
   obtain⟨y,HY⟩:=nmd (L.getD k 0);rw[HY.X]at c1 hx;go_wp2
   go_round
   case rel=>exact⟨k+1,by omega,by go_num,Ea.X⟩
   case measure=>simp[intOf];omega
  ·have HE:Zb (L.take k++[x]++L.drop k=zz5 L x):=by
    show _=_;rw[yz2];exact zP9 L x k (by rw[HM.X];exact hk) HJ.X (fun h h2=>hcont ⟨by rw[<-HM.X];exact h,h2⟩)
   have cx:∀y,L.getD k 0=y->k<m->w.cell? ⟨b,off+k,none⟩=some (ze zd y):=fun y hy ah=>by
    obtain⟨_,_,e,c1⟩:=HA.X k (by rw[HM.X];exact ah);simp only[x7,qg,qt]at e;obtain⟨rfl,rfl⟩:=e;rw[<-hy];exact c1
   obtain⟨y,HY⟩:=nmd (L.getD k 0);have cy:=cx y HY.X;rw[HY.X]at hcont;have HC:=za4 hcont;clear cx hcont;by_cases ah:k<m
   all_goals
    first
     |(have et:(k:Int)<(m:Int):=by omega
       have c1:=cy ah;have Fd:¬y<x:=fun h=>HC.X ⟨ah,h⟩)
     |have et:¬((k:Int)<(m:Int)):=by omega
    clear cy;have oF:k<=c:=by omega
    go_wp2_with(first
     |(at_builtin
       refine zc9 _ rfl (.tmp 21) (.tmp 24) rfl w.heap.size _ 0 [] rfl (qo w #[] 0 (zT _) (by unfold maxLen;omega) (by simp)) b off k c (L.take k) rfl (by rw[yh,HM.X];omega) (yo5 (HA.below B1.X) k) (by omega) (by omega) (by simp) ?_;intro v2 w2 ae hg a_ aW;have B2:Zb _:=B1.grown hg B1.size (fun k e=>z39 e);rw[yb,yw]at ae;obtain⟨g2,c2,rfl⟩:=zq1 ae (zn2 aW ⟨_,_,_,rfl⟩);have O2:=za4 ae;have B3:Zb (Za w.heap.size w (w2.alloc (zg #[ze zd x] 2))):=B2.alloc B2.size _;clear ae hg a_ aW)
     |(at_builtin
       refine zc9 _ rfl (.tmp 26) (.tmp 28) rfl w.heap.size _ k (L.take k) rfl (O2.alloc _) w2.heap.size 0 1 1 [x] rfl rfl (ze2 w2 x) (by omega) (by omega) B3.size ?_;intro v4 w4 ae hg a_ aW;have dR:=(O2.lt g2 rfl).1;have B4:Zb _:=B3.grown hg B3.size (fun k e=>xj dR (z39 e));obtain⟨g4,c4,rfl⟩:=zq1 ae (zn2 aW ⟨_,_,_,rfl⟩);have O4:=za4 ae;clear ae hg a_ aW dR)
     |(at_builtin
       refine zF4 _ rfl (.tmp 30) (.tmp 33) rfl w.heap.size _ (k+1) (L.take k++[x]) rfl O4.X _ (m - k) _ (L.drop k) rfl (by first|exact⟨_,_,rfl⟩|exact yz5 b off k c) (by rw[qj,HM.X]) (by first|exact zO2 (HA.below B4.X) k|exact yz0 (HA.below B4.X) k c (by rw[HM.X];exact hc)) (by omega) (by omega) B4.size ?_;intro v5 w5 ae hg a_ aW;have dR:=(O4.lt g4 rfl).1;have B5:Zb _:=B4.grown hg B4.size (fun k e=>xj dR (z39 e));rw[show k+1+(m - k)=m+1 by omega,HE.X]at ae;obtain⟨g5,c5,rfl⟩:=zq1 ae (zn2 aW ⟨_,_,_,rfl⟩);have O5:=za4 ae;clear ae hg a_ aW dR))
    all_goals
     go_ret;exact⟨g5,c5,rfl,B5.X,O5.X⟩
structure PW(w W:zi)(B:Nat)(lv ov:Value)(L O:List Int):Prop where
 b:Za w.heap.size w W
 hB:w.heap.size<=B/\B<=W.heap.size
 l:W.ownsRow B 2 1 lv L.length (L.map (ze zd))
 o:W.ownsRow B 2 1 ov O.length (O.map (ze zd))
 ne:lv.ownBlock≠ov.ownBlock
 sl:∃g c,lv=za (some ⟨g,0,none⟩) L.length c
 so:∃g c,ov=za (some ⟨g,0,none⟩) O.length c
theorem PW.put{w W w4:zi}{B:Nat}{lv ov dQ:Value}{L O:List Int}{x:Int}{o:Obj}(h:PW w W B lv ov L O)(ae:w4.ownsRow B 2 1 dQ (O.length+1) ((O++[x]).map (ze zd)))(hg:(W.alloc o).grownBy w4 ov.ownBlock)(a_:dQ.ownBlock=ov.ownBlock∨dQ.ownBlock=some (W.alloc o).heap.size)(hn:dQ=za none 0 0↔ov=za none 0 0/\1=0):PW w w4 B lv dQ L (O++[x]):=by
 have hA:Za w.heap.size w (W.alloc o):=h.b.alloc h.b.size _;have ah:∀g,lv.ownBlock=some g->g<W.heap.size:=fun g e=>(h.l.lt g e).2;refine⟨hA.grown hg hA.size (fun k e=>by have:=(h.o.lt k e).1;have:=h.hB.1;omega),⟨h.hB.1,xj h.hB.2 (xj (by simp) hg.size)⟩,(h.l.alloc o).kept hg (.inr h.ne),?_,?_,h.sl,?_⟩
 ·rw[xY];exact ae
 ·rcases a_ with e|e
  ·rw[e];exact h.ne
  ·rw[e]
   intro e2;have:=ah _ e2;simp at this;omega
 ·rw[xY]
  obtain⟨g,c,e⟩:=h.so;exact zq1 ae (zn2 hn ⟨g,_,c,e⟩)
theorem zQ0(W:zi):(W.alloc (zg #[] 2)).ownsRow W.heap.size 2 1 (za (some ⟨W.heap.size,0,none⟩) 0 0) ([]:List Int).length (([]:List Int).map (ze zd)):=qo W #[] 0 (zT _) (by unfold maxLen;omega) (by simp)
theorem z80(b off c:Nat)(L:List Int)(v:Int)(w:zi)(hA:za3 w (some ⟨b,off,none⟩) L)(hl:L.length<=1000):
 Zc zh 73 #[za (some ⟨b,off,none⟩) L.length c,ze zd v] w fun e w'=>∃g cg,e=.returned (za (some ⟨g,0,none⟩) (cutP L v).length cg)/\Za w.heap.size w w'/\w'.ownsRow w.heap.size 2 1 (za (some ⟨g,0,none⟩) (cutP L v).length cg) (cutP L v).length ((cutP L v).map (ze zd)):=by
 have HA:=za4 hA;clear hA;obtain⟨n,HN⟩:=nmd L.length;obtain⟨R,HR⟩:=nmd (cutP L v);rw[HN.X]at hl⊢;rw[HR.X];have OB:Zb (Za w.heap.size w (w.alloc (zg #[] 2))):=zP _;go_enter Tryz.func73,Tryz.ntmps73
 go_wp2_with fail
 go_loopw[5,6] (fun av t wr=>∃k:Nat,k<=n/\t=ze zd k/\wr.ownsRow w.heap.size 2 1 av (cutP (L.take k) v).length ((cutP (L.take k) v).map (ze zd))/\Za w.heap.size w wr/\av≠za none 0 0) (fun _ t _=>n - (intOf t).toNat)
 case atStart=>exact⟨0,xi _,rfl,zQ0 w,OB.X,by simp⟩
 case round=>
  clear OB;obtain⟨k,hk,rfl,ho,hb,hn⟩:=hrel;have jv:(cutP (L.take k) v).length<=1000:=xj (yw2 _ _) (by rw[yh];omega);obtain⟨C,HC⟩:=nmd (cutP (L.take k) v);rw[HC.X]at ho jv;obtain⟨g,cg,rfl⟩:=zq1 ho hn;obtain⟨m,HM⟩:=nmd C.length;rw[HM.X]at ho jv⊢;have O1:=za4 ho;have B1:Zb _:=hb;clear ho hb hn;by_cases ah:k<n
  ·have hs:=zK1 L v k (by rw[HN.X];exact ah)
   have cx:wr.cell? ⟨b,off+k,none⟩=some (ze zd (L.getD k 0)):=by
    obtain⟨_,_,e,h⟩:=(HA.below B1.X) k (by rw[HN.X];exact ah);simp at e;obtain⟨rfl,rfl⟩:=e;exact h
   obtain⟨x,HX⟩:=nmd (L.getD k 0);rw[HX.X]at cx hs;rw[HC.X]at hs;by_cases hxv:x=v
   ·rw[z7 hxv]at hs
    have HS:Zb _:=hs;clear hs;go_wp2;go_roundw
    case rel=>exact⟨k+1,by omega,by first|rfl|go_num,by rw[HS.X,HM.X];exact O1.X,B1.X,by simp⟩
    case measure=>simp[intOf];omega
   ·rw[ye hxv]at hs
    have HS:Zb _:=hs;clear hs;have BA:Zb (Za w.heap.size w (wr.alloc (zg #[ze zd x] 2))):=B1.alloc B1.size _
    go_wp2_with(
     at_builtin;refine zc9 _ rfl _ _ rfl w.heap.size _ m C rfl (O1.alloc _) wr.heap.size 0 1 1 [x] rfl rfl (ze2 wr x) (by omega) (by omega) (xj B1.size (by simp)) ?_;intro v' w4 ae hg _ aW;have O4:=za4 ae;have B4:Zb _:=BA.grown hg BA.size (fun k e=>(O1.lt k e).1);have N4:Zb (v'≠za none 0 0):=zn2 aW ⟨_,_,_,rfl⟩;clear ae hg aW)
    go_roundw
    case rel=>exact⟨k+1,by omega,by first|rfl|go_num,by rw[HS.X,xY,HM.X];exact O4.X,B4.X,N4.X⟩
    case measure=>simp[intOf];omega
  ·have cL:k=n:=by omega
   have HE:Zb (C=R):=by
    have:=HC.X;rw[cL,<-HN.X,ym,HR.X]at this;exact this.symm
   have Kj:Zb (R.length=m):=by show _=_;rw[<-HE.X];exact HM.X
   rw[HE.X]at O1;go_wp2;go_ret;refine⟨g,cg,by rw[Kj.X];rfl,B1.X,by rw[Kj.X];exact O1.X⟩
theorem PW.cut{w W w4:zi}{lv ov:Value}{L O C:List Int}{g c:Nat}(h:PW w W w.heap.size lv ov L O)(hb:Za W.heap.size W w4)(ho:w4.ownsRow W.heap.size 2 1 (za (some ⟨g,0,none⟩) C.length c) C.length (C.map (ze zd))):PW w w4 w.heap.size (za (some ⟨g,0,none⟩) C.length c) ov C O:=by
 refine⟨h.b.trans (hb.mono h.b.size),⟨zT _,xj h.hB.2 hb.size⟩,zb5 ho h.hB.2,zb9 h.o hb,?_,⟨g,c,rfl⟩,h.so⟩;intro e;have h1:=(ho.lt g rfl).1;have h2:=(h.o.lt g (by rw[<-e];rfl)).2;omega
theorem PW.lput{w W w4:zi}{B:Nat}{lv ov wH:Value}{L O:List Int}{x:Int}{o:Obj}(h:PW w W B lv ov L O)(ae:w4.ownsRow B 2 1 wH (L.length+1) ((L++[x]).map (ze zd)))(hg:(W.alloc o).grownBy w4 lv.ownBlock)(a_:wH.ownBlock=lv.ownBlock∨wH.ownBlock=some (W.alloc o).heap.size)(hn:wH=za none 0 0↔lv=za none 0 0/\1=0):PW w w4 B wH ov (L++[x]) O:=by
 have hA:Za w.heap.size w (W.alloc o):=h.b.alloc h.b.size _;have ah:∀g,ov.ownBlock=some g->g<W.heap.size:=fun g e=>(h.o.lt g e).2;refine⟨hA.grown hg hA.size (fun k e=>by have:=(h.l.lt k e).1;have:=h.hB.1;omega),⟨h.hB.1,xj h.hB.2 (xj (by simp) hg.size)⟩,?_,(h.o.alloc o).kept hg (.inr h.ne.symm),?_,?_,h.so⟩
 ·rw[xY];exact ae
 ·rcases a_ with e|e
  ·rw[e];exact h.ne
  ·rw[e]
   intro e2;have:=ah _ e2.symm;simp at this;omega
 ·rw[xY]
  obtain⟨g,c,e⟩:=h.sl;exact zq1 ae (zn2 hn ⟨g,_,c,e⟩)
theorem zV0{K i:Nat}{L:List Int}{s:Int}(h:i<K):pkL (K - i) L s=(L.getD (pkAt (zm6 s) L.length) 0::(pkL (K - (i+1)) (zl2 L (pkAt (zm6 s) L.length)) (zm6 s)).1,(pkL (K - (i+1)) (zl2 L (pkAt (zm6 s) L.length)) (zm6 s)).2):=by
 rw[show K - i=(K - (i+1))+1 by omega];rfl
theorem zX8(s:Int){D:Nat}(h:0<D):∃S:Nat,zm6 s=S/\S<=2147483647/\(S:Int) / 65536 % (D:Int)=(pkAt (zm6 s) D:Nat)/\pkAt (zm6 s) D<D:=by
 have h1:=zc8 (zO6 s);refine⟨(zm6 s).toNat,by omega,by omega,?_,yb7 h⟩;rw[<-yC1 h]
 congr 2
 omega
theorem PW.new2{w W:zi}{lv ov:Value}{L:List Int}(ho:W.ownsRow w.heap.size 2 1 lv L.length (L.map (ze zd)))(hb:Za w.heap.size w W)(hn:lv≠za none 0 0)(hx:W.ownsRow w.heap.size 2 1 ov 0 (([]:List Int).map (ze zd)))(hm:ov≠za none 0 0)(aq:lv.ownBlock≠ov.ownBlock):PW w W w.heap.size lv ov L []:=
 ⟨hb,⟨zT _,hb.size⟩,ho,hx,aq,zq1 ho hn,zq1 hx hm⟩
theorem zK5(s n k:Int)(w:zi):
 Zc zh 91 #[ze zd s,ze zd n,ze zd k] w fun e w'=>∃sl,e=.returned (.tuple #[sl,ze zd (z87 s n k)])/\Za w.heap.size w w'/\w'.ownsRow w.heap.size 2 1 sl (zs4 s n k).length ((zs4 s n k).map (ze zd)):=by
 have OB:Zb (Za w.heap.size w (w.alloc (zg #[] 2))):=zP _;have ON:=za4 (zQ0 w);obtain⟨R,HR⟩:=nmd (zs4 s n k);obtain⟨V,HV⟩:=nmd (z87 s n k);rw[HR.X,HV.X];cases hp:zv7 s n k
 ·have HE:Zb (R=[]/\V= -1):=by
   have:=yz7 hp;rw[HR.X,HV.X]at this;exact this
  unfold zv7 at hp;rcases qv (inB n 0 64)with h1|h1<;>rcases qv (inB k 0 n)with h2|h2<;>rcases qv (inB s 0 2147483647)with h3|h3
  ·rw[h1,h2,h3]at hp;simp at hp
  all_goals
   clear hp;go_enter Tryz.func91,Tryz.ntmps91
   go_wp2_with(go_at_call 39;refine(zc0 _ _ _ _).mono ?_;rintro e w' ⟨rfl,dx⟩;subst w';first|rw[h1]|rw[h2]|rw[h3])
   refine xe (v:=.tuple #[za (some ⟨w.heap.size,0,none⟩) 0 0,ze zd (-1)]) (by simp[results,Tryz.results91,go_sem]) rfl ⟨_,by rw[HE.X.2],OB.X,by rw[HE.X.1];exact ON.X⟩
 ·obtain⟨N,K,rfl,rfl,hN,hK,jQ,d8⟩:=zI3 hp
  obtain⟨e1,e2⟩:=zt8 hp;have jt:Zb ((pkL K (z32 N) s).1=R/\(pkL K (z32 N) s).2=V):=⟨e1.symm.trans HR.X,e2.symm.trans HV.X⟩;have h1:inB (N:Int) 0 64=true:=zf0 (by omega);have h2:inB (K:Int) 0 N=true:=zf0 (by omega);have h3:inB s 0 2147483647=true:=zf0 (by omega);clear e1 e2 hp HR HV;have O2:Zb (((w.alloc (zg #[] 2)).alloc (zg #[] 2)).ownsRow w.heap.size 2 1 (za (some ⟨w.heap.size+1,0,none⟩) 0 0) 0 (([]:List Int).map (ze zd))):=by
   have:=zb5 (zQ0 (w.alloc (zg #[] 2))) OB.X.size;rw[show(w.alloc (zg #[] 2)).heap.size=w.heap.size+1 by simp]at this;exact this
  have X2:Zb (((w.alloc (zg #[] 2)).alloc (zg #[] 2)).ownsRow w.heap.size 2 1 (za (some ⟨w.heap.size,0,none⟩) 0 0) 0 (([]:List Int).map (ze zd))):=ON.X.alloc _;have B2:Zb (Za w.heap.size w ((w.alloc (zg #[] 2)).alloc (zg #[] 2))):=OB.X.alloc OB.X.size _;go_enter Tryz.func91,Tryz.ntmps91
  go_wp2_with(go_at_call 39;refine(zc0 _ _ _ _).mono ?_;rintro e w' ⟨rfl,dx⟩;subst w';first|rw[h1]|rw[h2]|rw[h3])
  clear OB ON h1 h2 h3;go_loopw[9,10] (fun av t wr=>∃i:Nat,i<=N/\t=ze zd i/\PW w wr w.heap.size av (za (some ⟨w.heap.size,0,none⟩) 0 0) (z32 i) []) (fun _ t _=>N - (intOf t).toNat)
  case atStart=>exact⟨0,xi _,rfl,PW.new2 O2.X B2.X (by simp) X2.X (by simp) (by simp[zm])⟩
  case round=>
   clear O2 X2 B2;obtain⟨i,hi,rfl,fQ⟩:=hrel;obtain⟨gl,cl,rfl⟩:=fQ.sl;rw[zh5]at fQ⊢;have P1:=za4 fQ;clear fQ;by_cases ah:i<N
   ·go_wp2_with(
     at_builtin;refine zc9 _ rfl _ _ rfl w.heap.size _ i (z32 i) rfl (by have:=P1.X.l;rw[zh5]at this;exact this.alloc _) wr.heap.size 0 1 1 [(i:Int)] rfl rfl (ze2 wr i) (by omega) (by omega) (xj P1.X.hB.2 (by simp)) ?_;intro v' w4 ae hg a_ aW;have P4:Zb (PW w w4 w.heap.size v' (za (some ⟨w.heap.size,0,none⟩) 0 0) (z32 (i+1)) []):=by
      show PW _ _ _ _ _ _ _;rw[ya6];exact P1.X.lput (by rw[zh5];exact ae) hg a_ aW
     clear ae hg a_ aW)
    go_roundw
    case rel=>exact⟨i+1,by omega,by first|rfl|go_num,P4.X⟩
    case measure=>simp[intOf];omega
   ·have pt:i=N:=by omega
    rw[pt]at P1⊢;clear hi ah pt
    go_wp2_with fail
    go_loopw[0,8,9,11] (fun sv ov lv t wr=>∃(i:Nat) (s:Int) (L O:List Int),i<=K/\L.length=N - i/\L.Nodup/\t=ze zd i/\sv=ze zd s/\O.length=i/\PW w wr w.heap.size lv ov L O/\O++(pkL (K - i) L s).1=R/\(pkL (K - i) L s).2=V/\0<=s/\s<=2147483647) (fun _ _ _ t _=>K - (intOf t).toNat)
    case atStart=>exact⟨0,s,z32 N,[],xi _,by rw[zh5];rfl,z74 N,rfl,rfl,rfl,P1.X,jt.X.1,jt.X.2,jQ,d8⟩
    case round=>
     clear P1;obtain⟨i,s,L,O,hi,hl,cH,rfl,rfl,ho,fQ,nT,i7,jQ,d8⟩:=hrel;obtain⟨gl,cl,rfl⟩:=fQ.sl;obtain⟨go,co,rfl⟩:=fQ.so;have P1:=za4 fQ;have HL:=za4 hl;have HO:=za4 ho;have ku:Zb L.Nodup:=cH;have sZ:Zb (O++(pkL (K - i) L s).1=R/\(pkL (K - i) L s).2=V):=⟨nT,i7⟩;clear fQ hl ho cH nT i7;rw[HO.X]at P1⊢;by_cases ah:i<K
     ·have hD:0<L.length:=by rw[HL.X];omega
      have Fs:L.length<=64:=by rw[HL.X];omega
      obtain⟨S,hS,OV,gR,eJ⟩:=zX8 s hD;have bz:=zV0 (L:=L) (s:=s) ah;obtain⟨D,HD⟩:=nmd L.length;rw[HD.X]at hD Fs gR eJ bz P1⊢;obtain⟨p,HP⟩:=nmd (pkAt (zm6 s) D);rw[HP.X]at gR eJ bz;have HS:=za4 hS;rw[HS.X]at bz;have kE:Zb ((O++[L.getD p 0])++(pkL (K - (i+1)) (zl2 L p) S).1=R/\(pkL (K - (i+1)) (zl2 L p) S).2=V):=by
       have h:=sZ.X;rw[bz]at h;refine⟨?_,h.2⟩;rw[<-h.1,yi];rfl
      have cx:wr.cell? ⟨gl,p,none⟩=some (ze zd (L.getD p 0)):=by
       obtain⟨_,_,e,h⟩:=zz2 P1.X.l HD.X p (by rw[HD.X];exact eJ);simp at e;obtain⟨rfl,rfl⟩:=e;rw[yb]at h;exact h
      have Am:Zb (cutP L (L.getD p 0)=zl2 L p):=zR6 ku.X (by rw[HD.X];exact eJ);have cu:Zb ((zl2 L p).length=D - 1):=by show _=_;rw[zk9 (by rw[HD.X];exact eJ),HD.X]
      have iK:Zb (zl2 L p).Nodup:=zM6 ku.X p;obtain⟨x,HX⟩:=nmd (L.getD p 0);rw[HX.X]at cx kE Am;have LB:(p:Int)<(D:Int):=by omega
      clear bz hS jQ d8 sZ;have pu:i<=64:=by omega
      go_wp2_with(first
       |(go_at_call 130;refine(zU3 _ _).mono ?_;rintro e w' ⟨rfl,dx⟩;subst w';rw[HS.X])
       |(at_builtin
         refine zc9 _ rfl (.tmp 51) (.tmp 56) rfl w.heap.size _ i O rfl (by have:=P1.X.o;rw[HO.X]at this;exact this.alloc _) wr.heap.size 0 1 1 [x] rfl rfl (ze2 wr x) (by omega) (by omega) (xj P1.X.hB.2 (by simp)) ?_;intro dQ w4 ae hg a_ aW;have P4:Zb (PW w w4 w.heap.size (za (some ⟨gl,0,none⟩) D cl) dQ L (O++[x])):=P1.X.put (by rw[HO.X];exact ae) hg a_ aW;have I4:Zb (za3 w4 (some ⟨gl,0,none⟩) L):=zz2 P4.X.l HD.X;have c4:w4.cell? ⟨gl,p,none⟩=some (ze zd x):=by
          obtain⟨_,_,e,h⟩:=I4.X p (by rw[HD.X];exact eJ);simp at e;obtain⟨rfl,rfl⟩:=e;rw[yb]at h;rw[h,HX.X]
         clear ae hg a_ aW)
       |(go_at_call 73
         have hcut:=z80 gl 0 cl L x w4 I4.X (by rw[HD.X];omega);rw[HD.X,Am.X]at hcut;refine hcut.mono ?_;rintro e w5 ⟨g5,c5,rfl,fw,eh⟩;have P5:=za4 (P4.X.cut fw eh);clear hcut fw eh))
      go_roundw
      case rel=>exact⟨i+1,S,zl2 L p,O++[x],by omega,by rw[cu.X,<-HD.X,HL.X];omega,iK.X,by first|rfl|go_num,rfl,by rw[xY,HO.X];rfl,P5.X,kE.X.1,kE.X.2,by omega,by omega⟩
      case measure=>simp[intOf];omega
     ·have Gg:K - i=0:=by omega
      have HE:Zb (O=R/\s=V):=by
       have h:=sZ.X;rw[Gg]at h;refine⟨?_,h.2⟩;rw[<-h.1];exact(qe _).symm
      have H9:Zb (wr.ownsRow w.heap.size 2 1 (za (some ⟨go,0,none⟩) i co) R.length (R.map (ze zd))):=by
       have:=P1.X.o;rw[HE.X.1]at this;exact this
      have HB:Zb (Za w.heap.size w wr):=P1.X.b;obtain⟨D,HD⟩:=nmd L.length;rw[HD.X,HE.X.2];go_wp2;refine xe (v:=.tuple #[za (some ⟨go,0,none⟩) i co,ze zd V]) (by simp[results,Tryz.results91,go_sem]) rfl ⟨_,rfl,HB.X,H9.X⟩
theorem yv3(w:zi){ap:Array Oper}{rest:List Oper}{o:Oper}{a:Act}{Q:Exit->Act->zi->Prop}
 (hg:o.guard=none) (l c:Operand) (du:o.op=Op.makeSlice 24 l c) (base:Nat)
 (kl kc:IntKind) (C:Int) (n:Nat) (hl:a.eval l=.int kl 0) (hc:a.eval c=.int kc C) (hC:C=(n:Int)) (b2:n<=1048576) (b4:base<=w.heap.size)
 (hK:∀w',w'.ownsRow base 2 1 (za (some ⟨w.heap.size,0,none⟩) 0 n) 0 []->w.grownBy w' none->wpList zh ap Q rest (a.put o.dst (za (some ⟨w.heap.size,0,none⟩) 0 n)) w'):
 wpList zh ap Q (o::rest) a w:=by
 obtain⟨i0,hi,bN,ba,bR⟩:=qx Tryz.info2;exact wpList_make_own w hg l c _ du base _ i0 _ 1 qb hi bN ba kl kc C n hl hc hC (by rw[bR];omega) (by unfold maxLen;omega) b4 hK
