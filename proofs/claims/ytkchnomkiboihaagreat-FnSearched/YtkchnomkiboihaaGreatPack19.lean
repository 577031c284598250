import Derived.Test.YtkchnomkiboihaaGreatPack4
import Derived.Shelf.Spec.SlicesInsert
import Derived.Lib.AppendZerosOnto
set_option linter.unusedSimpArgs false
set_option maxHeartbeats 4000000
set_option maxRecDepth 100000
namespace Go.Proofs.YtkchnomkiboihaaGreat
open RowKit renaming Below→Za,Hid→Zb
theorem qS:type_of% @Go.Proofs.Tryz.underlying31:=@Go.Proofs.Tryz.underlying31
theorem qT:type_of% @List.length_map:=@List.length_map
theorem qU:type_of% @Go.World.cell?_setCells_out:=@Go.World.cell?_setCells_out
theorem qV:type_of% @Go.World.cell?_setCells_in:=@Go.World.cell?_setCells_in
theorem qW:type_of% @Array.getElem?_eq_getElem:=@Array.getElem?_eq_getElem
theorem qX:type_of% @Go.Addr.add_lit:=@Go.Addr.add_lit
theorem qY:type_of% @Nat.min_def:=@Nat.min_def
open Value renaming slice→za,int→ze,cells→zO
open IntKind renaming i64→zd
open Obj renaming cells→zg
open Proofs.Tryz renaming prog→zh
open Go renaming World→zi
open Region renaming wanted→zn
open Builtin renaming append_→zu,zeroCells→zB,copy_→zF,firstCells→zH
open Act renaming put→zv,eval→zL
open Go.RowKit Go.Lib
open Q
theorem zj9(g:Nat)(T:TypeId):∀(vs:List Value) (o:Nat) (w:zi) (az:Array Value),w.heap[g]? =some (.cells az T (0,0))->∃gS,(w.setCells g o vs).heap[g]? =some (.cells gS T (0,0))/\gS.size=az.size
 |[],_,_,az,h=>⟨az,h,rfl⟩
 |v::r,o,w,az,h=>by
  obtain⟨gS,h1,h2⟩:=zj9 g T r (o+1) (w.setCell ⟨g,o,none⟩ v) _ (xb w g o az T v h);exact⟨gS,h1,by rw[h2,Array.size_setIfInBounds]⟩
theorem zg9{base g:Nat}(hb:base<=g):∀(vs:List Value) (o:Nat) {w w':zi},Za base w w'->Za base w (w'.setCells g o vs)
 |[],_,_,_,h=>h
 |_::r,o,_,_,h=>zg9 hb r (o+1) (h.setCell hb _)
def zV3(xs:List Value)(p:Nat)(ys:List Value):List Value:=xs.take p++(ys++xs.drop p)
theorem zt6{xs ys:List Value}{p:Nat}(hp:p<=xs.length):(zV3 xs p ys).length=xs.length+ys.length:=by
 unfold zV3;rw[xY,xY,yh,qj];omega
theorem yy5{xs ys:List Value}{p q:Nat}(hq:ys.length=q)(hp:p<=xs.length)(j:Nat):(zV3 xs p ys)[j]? =if j<p then xs[j]? else if j<p+q then ys[j - p]? else xs[j - q]? :=by
 unfold zV3;by_cases h1:j<p
 ·rw[z7 h1,yE (by rw[yh];omega),yL,z7 h1]
 ·rw[ye h1,yS (by rw[yh];omega),yh,Nat.min_eq_left hp]
  by_cases h2:j<p+q
  ·rw[z7 h2,yE (by omega)]
  ·rw[ye h2,yS (by omega),qr,hq,show p+(j - p - q)=j - q from by omega]
theorem y60{xs ys:List Value}{p:Nat}(h:xs.length=p):zV3 xs p ys=xs++ys:=by
 unfold zV3;rw[<-h,ym,List.drop_length,qe]
theorem z60{P:Program}(w:zi)(dT sT ty se:TypeId)(b o uC Id:Nat)(a:Addr)(ue Eb size:Nat)(cs:List Value)
 (hu:P.underlying dT=some (.slice se)) (hs:(P.info? se).map (·.size)=some size) (hn:cs.length=Nat.min ue uC*size)
 (sP:∀j v,cs[j]? =some v->w.cell? (a.add j)=some v) (hc:∀j,j<cs.length->(w.cell? ⟨b,o+j,none⟩).isSome=true) (hf:∀j,j<cs.length->w.frozen? ⟨b,o+j,none⟩=false) (h1:∀v∈cs,v.oneCell'=true):
 (zF #[dT,sT] ty #[za (some ⟨b,o,none⟩) uC Id,za (some a) ue Eb]).run P w=.ok (goInt (Nat.min ue uC)) (w.setCells b o cs):=by
 have hl:=run_loadCells_list (P:=P) w a cs sP;have bB:=run_storeCells_cells (P:=P) b o cs 0 w (by simpa using hc) (by simpa using hf) h1;cases hq:P.info? se with
 |none=>simp[hq]at hs
 |some i=>
  have hi:i.size=size:=by simpa[hq]using hs
  simp[zF,xI hu,Builtin.lenOf,zH,sizeOf,typeInfo,hq,hi,<-hn,hl,bB]
theorem yq2{P:Program}(w:zi)(t e ty:TypeId)(z:Value)(ht:P.underlying t=some (.slice e))(hv:∀w,(zeroValue e).run P w=.ok z w)(b o n c:Nat)(hn:0<n)(cs:List Value)(aJ:(zB z.cells n).toList=cs)(h1:∀v∈cs,v.oneCell'=true)
 (hc:∀j,j<cs.length->(w.cell? ⟨b,o+j,none⟩).isSome=true) (hf:∀j,j<cs.length->w.frozen? ⟨b,o+j,none⟩=false):
 (Builtin.clear_ #[t] ty #[za (some ⟨b,o,none⟩) n c]).run P w=.ok (.tuple #[]) (w.setCells b o cs):=by
 have bB:=run_storeCells_cells (P:=P) b o cs 0 w (by simpa using hc) (by simpa using hf) h1;simp only[Nat.add_zero]at bB;obtain⟨m,rfl⟩:∃m,n=m+1:=⟨n - 1,by omega⟩;simp[Builtin.clear_,xI ht,hv,aJ,bB]
theorem zB6{P:Program}{ap:Array Oper}{o:Oper}{a:Act}{w:zi}{K:Act->zi->Prop}{Q:Exit->Act->zi->Prop}{E:Prop}
 (hg:o.guard=none) (d x:Operand) (dT sT:TypeId) (du:o.op=Op.call {callee:=Callee.builtin Builtin.append,args:=#[d,x],argTypes:=#[dT,sT]})
 (v u:Value) (hd:a.eval d=v) (hx:a.eval x=u) {v':Value} {w':zi} (hr:(zu #[dT,sT] o.type #[v,u]).run P w=.ok v' w') (hK:K (a.put o.dst v') w'):
 if zn o (yielded ap a.tmps)=true then Oper.wp P o a w K Q else E:=by
 have hw:zn o (yielded ap a.tmps)=true:=by simp[zn,hg]
 rw[z7 hw];unfold Oper.wp;simp[execOp,du,resolve,invoke,builtin,hd,hx,hr,Result.andThen];exact hK
theorem zp4{w:zi}{base k:Nat}{v:Value}{e:TypeId}{size:Nat}{xs:List Value}(h:w.ownsRow base e size v k xs):∃ao co,v=za ao k co:=by
 obtain⟨_,⟨h1,h2⟩|⟨g',ac,az,h2,_⟩⟩:=h
 ·exact⟨none,0,by rw[h1,h2]⟩
 ·exact⟨_,_,h2⟩
theorem z11(z:Array Value)(n:Nat):(zB z n).size=n*z.size:=by simp[zB]
theorem z06(g:Nat):∀(vs:List Value) (o:Nat) (w w':zi),w.heap=w'.heap->(w.setCells g o vs).heap=(w'.setCells g o vs).heap
 |[],_,_,_,h=>h
 |v::r,o,w,w',h=>z06 g r (o+1) (w.setCell ⟨g,o,none⟩ v) (w'.setCell ⟨g,o,none⟩ v) (by unfold World.setCell;rw[h])
theorem z12(g:Nat)(vs:List Value)(o:Nat)(w:zi)(y:Addr):((w.drew.setCells g o vs).drew).cell? y=(w.drew.setCells g o vs).cell? y/\((w.drew.setCells g o vs).drew).frozen? y=(w.drew.setCells g o vs).frozen? y:=⟨rfl,rfl⟩
theorem zo5(g:Nat)(T:TypeId):∀(vs:List Value) (o:Nat) (w:zi) (az:Array Value),w.heap[g]? =some (.cells az T (0,0))->∃gS,(w.setCells g o vs).heap[g]? =some (.cells gS T (0,0))/\gS.size=az.size
 |[],_,_,az,h=>⟨az,h,rfl⟩
 |v::r,o,w,az,h=>by
  obtain⟨gS,h1,h2⟩:=zo5 g T r (o+1) (w.setCell ⟨g,o,none⟩ v) _ (xb w g o az T v h);exact⟨gS,h1,by rw[h2,Array.size_setIfInBounds]⟩
theorem zk5{base g:Nat}(hb:base<=g):∀(vs:List Value) (o:Nat) {w w':zi},Za base w w'->Za base w (w'.setCells g o vs)
 |[],_,_,_,h=>h
 |_::r,o,_,_,h=>zk5 hb r (o+1) (h.setCell hb _)
theorem zB2{W:zi}{base g ac n:Nat}{az:Array Value}{xs:List Int}(hr:W.heap[g]? =some (.cells az 2 (0,0)))(bW:az.size=ac)(hn:n<=ac)(hm:ac<=maxLen)(hb:base<=g)(hx:xs.length=n)(hc:∀j,j<n->W.cell? ⟨g,j,none⟩=some (ze zd (xs.getD j 0))):W.ownsRow base 2 1 (za (some ⟨g,0,none⟩) n ac) n (xs.map (ze zd)):=by
 refine⟨by rw[qT,hx,Nat.mul_one],.inr ⟨g,ac,az,rfl,hb,hr,hn,hm,by rw[bW,Nat.mul_one],?_⟩⟩;apply List.ext_getElem?;intro j;rw[yL,Nat.mul_one];by_cases hj:j<n
 ·have h1:=hc j hj
  rw[zU _ _ _ _ _ _ hr]at h1;rw[z7 hj,Array.getElem?_toList,h1,yr,zQ,zR (by omega)];rfl
 ·rw[ye hj,yg (by rw[qT];omega)]
theorem yy4{ids:List Int}{i j:Nat}(id:Int)(hi:i<=ids.length):(insL ids i id).getD j 0=if j<i then ids.getD j 0 else if j=i then id else ids.getD (j - 1) 0:=by
 unfold insL;simp only[zQ];by_cases h1:j<i
 ·rw[z7 h1,yE (by rw[yh];omega),yL,z7 h1]
 ·rw[ye h1,yS (by rw[yh];omega),yh,Nat.min_eq_left hi]
  by_cases h2:j=i
  ·rw[z7 h2,h2,Nat.sub_self]
   rfl
  ·rw[ye h2,show j - i=(j - 1 - i)+1 from by omega,List.getElem?_cons_succ,qr,show i+(j - 1 - i)=j - 1 from by omega]
theorem yE4(w:zi):(Go.sizeOf 2).run zh w=.ok 1 w:=by
 obtain⟨i0,hi,_,ba,_⟩:=qx Tryz.info2;simp[Go.sizeOf,typeInfo,hi,ba]
theorem zD6:(Tryz.prog.info? 2).map (·.size)=some 1:=by
 obtain⟨i0,hi,_,ba,_⟩:=qx Tryz.info2;rw[hi];simp[ba]
theorem yc8(w:zi)(vb g o lb cb:Nat)(x:Value)(az:Array Value)(aq:vb≠g)(hv:w.heap[vb]? =some (zg #[x] 2 (0,0)))(hg:w.heap[g]? =some (.cells az 2 (0,0)))(hc:az.size≠0):
 (callFunc 176 #[za (some ⟨vb,0,none⟩) 1 1,za (some ⟨g,o,none⟩) lb cb]).run zh w=.ok (.value (.bool false)) w:=by
 rw[run_callFunc_extern Tryz.func176 (by kernel_rfl) (by kernel_rfl) (by kernel_rfl) (e:=Extern.SlicesOverlaps.overlaps #[24,24] #[4]) (by kernel_rfl),
  Lib.run_overlaps_apart w 24 4 2 qb 1 yE4 ⟨vb,0,none⟩ ⟨g,o,none⟩ 1 1 lb cb aq 2 2 1 az.size (by unfold World.shape?; rw[hv];rfl) (by unfold World.shape?; rw[hg]) hc (yZ _ _ 0 _ _ hv) (yZ _ _ 1 _ _ hv)]
 rfl
theorem yd4(g c i vb base n:Nat)(x:Int)(ids:List Int)(w:zi)(hn:ids.length=n)(ho:w.ownsRow base 2 1 (za (some ⟨g,0,none⟩) n c) n (ids.map (ze zd)))(hv:w.heap[vb]? =some (zg #[ze zd x] 2 (0,0)))(eW:vb≠g)(hi:i<n)(bE:n+1<=c)(hl:n<=1000):
 Calls zh 147 #[za (some ⟨g,0,none⟩) n c,ze zd i,za (some ⟨vb,0,none⟩) 1 1] w fun e w'=>∃de,e=.returned de/\Za base w w'/\w'.ownsRow base 2 1 de (n+1) ((insL ids i x).map (ze zd)):=by
 obtain⟨aL,⟨h0,_⟩|⟨g',ac,az,h2,dW,aM,jE,iF,aJ,jB⟩⟩:=id ho
 ·cases h0
 simp at h2;obtain⟨rfl,rfl⟩:=h2;rw[Nat.mul_one]at aJ;have b8:∀j,j<n->w.cell? ⟨g,j,none⟩=some (ze zd (ids.getD j 0)):=fun j hj=>by
  obtain⟨_,_,e,h⟩:=zd4 ho j (by omega);simp at e;obtain⟨rfl,rfl⟩:=e;rw[yb]at h;exact h
 have lj:∀j,j<c->(w.cell? ⟨g,j,none⟩).isSome=true:=fun j hj=>by
  rw[zU _ _ _ _ _ _ aM,qW (by omega)];rfl
 have rk:∀j,w.frozen? ⟨g,j,none⟩=false:=fun j=>yZ _ _ j _ _ aM;have mH:w.cell? ⟨vb,0,none⟩=some (ze zd x):=by rw[zU _ _ _ _ _ _ hv];rfl
 have Bg:c<=9223372036854775807:=by unfold maxLen at iF;omega
 have sV:=fun lb cb=>yc8 w vb g (i+1) lb cb _ az eW hv aM (by omega)
 obtain⟨D,HD⟩:∃D:List Value,Zb ((ids.map (ze zd)).drop i=D):=⟨_,rfl⟩;have kG:D.length=n - i:=by rw[<-HD.X,qj,qT,hn]
 have hD:∀j,j<n - i->D[j]? =some (ze zd (ids.getD (i+j) 0)):=fun j hj=>by
  rw[<-HD.X,qr,yr,zQ,zR (by omega)];rfl
 have jR:∀v∈D,v.oneCell'=true:=fun v fK=>by
  rw[<-HD.X]at fK;obtain⟨y,_,rfl⟩:=yF.1 (yQ fK);rfl
 have nD:∀ty dc sc,(zF #[24,24] ty #[za (some ⟨g,i+1,none⟩) (n - i) dc,za (some ⟨g,i,none⟩) (n+1 - i) sc]).run zh w.drew=.ok (goInt D.length) (w.drew.setCells g (i+1) D):=fun ty dc sc=>
  run_copy_cells w.drew _ _ ty 2 g (i+1) (n - i) dc ⟨g,i,none⟩ (n+1 - i) sc D qb zD6 (by rw[kG];simp only[qY];split<;>omega)
   (fun j v hj=>by
     have nY:j<n - i:=by
      rcases qp j (n - i)with h|h
      ·exact h
      ·rw[yg (by omega)]at hj;cases hj
     rw[hD j nY]at hj;cases hj;rw[qX];exact b8 (i+j) (by omega))
   (fun j hj=>lj _ (by omega)) (fun j _=>rk _) jR
 obtain⟨W1,eE⟩:∃W1,W1=w.drew.setCells g (i+1) D:=⟨_,rfl⟩;have kt:∀k,k<c->(W1.cell? ⟨g,k,none⟩).isSome=true:=fun k hk=>by
  rw[eE];exact isSome_setCells g D (i+1) w.drew (fun j hj=>lj _ (by omega)) k (lj k hk)
 have sX:∀(W:zi),(∀y,W.cell? y=W1.cell? y)->(∀y,W.frozen? y=W1.frozen? y)->∀ty dc,(zF #[24,24] ty #[za (some ⟨g,i,none⟩) (n+1 - i) dc,za (some ⟨vb,0,none⟩) 1 1]).run zh W=.ok (goInt 1) (W.setCells g i [ze zd x]):=fun W fz m_ ty dc=>
  run_copy_cells W _ _ ty 2 g i (n+1 - i) dc ⟨vb,0,none⟩ 1 1 [ze zd x] qb zD6 (by simp only[qY,yo,List.length_nil];split<;>omega)
   (fun j v hj=>by
     cases j with
     |zero=>
      simp at hj;subst hj;rw[qX,fz,eE,qU g _ _ _ _ (fun h _=>absurd h eW)];exact mH
     |succ j=>simp at hj)
   (fun j hj=>by rw[fz];exact kt _ (by simp at hj;omega)) (fun j _=>by rw[m_,eE,World.frozen?_setCells];exact rk _) (fun v fK=>by simp at fK;subst fK;rfl)
 have lg:Zb (Za base w (W1.setCells g i [ze zd x])/\(W1.setCells g i [ze zd x]).ownsRow base 2 1 (za (some ⟨g,0,none⟩) (n+1) c) (n+1) ((insL ids i x).map (ze zd))):=by
  refine⟨?_,?_⟩
  ·rw[eE]
   exact zk5 dW _ _ (zk5 dW _ _ (y5 _ _).drew)
  ·obtain⟨gW,lC,d8⟩:=zo5 g 2 D (i+1) w.drew az aM
   obtain⟨pQ,ix,gR⟩:=zo5 g 2 [ze zd x] i _ gW lC;rw[<-eE]at ix;refine zB2 ix (by rw[gR,d8,aJ]) bE iF dW (by rw[zr2 _ (by omega),hn]) fun j hj=> ?_;rw[yy4 x (by omega)];by_cases h1:j=i
   ·rw[ye (by omega),z7 h1,h1]
    have:=qV g [ze zd x] i W1 (fun j hj=>kt _ (by simp at hj;omega)) 0 (by simp);simpa using this
   ·rw[qU g _ _ _ _ (fun _ _=>by simp;omega),eE]
    by_cases h2:j<i
    ·rw[z7 h2,qU g _ _ _ _ (fun _ _=>by simp;omega)]
     exact b8 j (by omega)
    ·rw[ye h2,ye h1]
     have h3:=qV g D (i+1) w.drew (fun j hj=>lj _ (by omega)) (j - (i+1)) (by omega);rw[show i+1+(j - (i+1))=j from by omega]at h3;rw[h3];have h4:=hD (j - (i+1)) (by omega);rw[zR (by omega)]at h4;rw[h4,show i+(j - (i+1))=j - 1 from by omega]
 rw[<-eE]at nD;rw[eE]at lg;have mixed:Tryz.prog.follows .mixedOrders=true:=by kernel_rfl
 have bS:¬((i:Int)=(n:Int)):=by omega
 have iR:IntKind.i64.wrap ((i:Int)+1)=(i:Int)+1:=by rw[xu];omega
 have dX:IntKind.i64.wrap ((n:Int)+1)=(n:Int)+1:=by rw[xu];omega
 have gj:(0:Int)<=(i:Int)+1:=by omega
 have be:i<=n:=by omega
 have Eh:((i:Int)+1).toNat=i+1:=by omega
 have Gc:((n:Int)+1).toNat=n+1:=by omega
 have aC:¬(c=i+1):=by omega
 have cG:(i:Int)<=(n:Int)+1:=by omega
 have lS:¬(c=i):=by omega
 have fk:¬((c:Int)<(n:Int)+1):=by omega
 have iy:(n:Int)+1<=(c:Int):=by omega
 clear ho aL jB b8 lj rk mH kt hD jR aM hv iF aJ jE;go_enter Tryz.func147,Tryz.ntmps147
 go_wp2_with(simp only[sV])
 go_region_law (refine step_copy_runI rfl _ _ 24 24 rfl _ _ (by simp[zL,zv]) (by simp[zL,zv]) (nD _ _ _) ?_)
 all_goals
  go_wp2_with(at_builtin;refine wpList_copy_runI _ rfl _ _ 24 24 rfl _ _ rfl rfl (sX _ (fun _=>rfl) (fun _=>rfl) _ _) ?_)
  go_ret;exact⟨_,rfl,lg.X⟩
theorem ye2(g c i vb base n:Nat)(x:Int)(ids:List Int)(w:zi)(hn:ids.length=n)(ho:w.ownsRow base 2 1 (za (some ⟨g,0,none⟩) n c) n (ids.map (ze zd)))(dx:base<=w.heap.size)(hv:w.heap[vb]? =some (zg #[ze zd x] 2 (0,0)))(hi:i<n)(bE:c<n+1)(hl:n<=1000):
 Calls zh 147 #[za (some ⟨g,0,none⟩) n c,ze zd i,za (some ⟨vb,0,none⟩) 1 1] w fun e w'=>∃de,e=.returned de/\Za base w w'/\w'.ownsRow base 2 1 de (n+1) ((insL ids i x).map (ze zd)):=by
 obtain⟨aL,⟨h0,_⟩|⟨g',ac,az,h2,dW,aM,jE,iF,aJ,jB⟩⟩:=id ho
 ·cases h0
 simp at h2;obtain⟨rfl,rfl⟩:=h2;have tE:c=n:=by omega
 subst tE;rw[Nat.mul_one]at aJ;have b8:∀j,j<c->w.cell? ⟨g,j,none⟩=some (ze zd (ids.getD j 0)):=fun j hj=>by
  obtain⟨_,_,e,h⟩:=zd4 ho j (by omega);simp at e;obtain⟨rfl,rfl⟩:=e;rw[yb]at h;exact h
 have mH:w.cell? ⟨vb,0,none⟩=some (ze zd x):=by rw[zU _ _ _ _ _ _ hv];rfl
 have BV:=za2 aM;have Ed:=za2 hv;obtain⟨i0,jl,bR,ba,bS⟩:=qx Tryz.info2;obtain⟨A,HA⟩:∃A:List Value,Zb ((ids.map (ze zd)).take i=A):=⟨_,rfl⟩;have cT:A.length=i:=by rw[<-HA.X,yh,qT,hn];omega
 have sW:∀j,j<i->A[j]? =some (ze zd (ids.getD j 0)):=fun j hj=>by
  rw[<-HA.X,yL,z7 hj,yr,zQ,zR (by omega)];rfl
 obtain⟨D,HD⟩:∃D:List Value,Zb ((ids.map (ze zd)).drop i=D):=⟨_,rfl⟩;have kG:D.length=c - i:=by rw[<-HD.X,qj,qT,hn]
 have hD:∀j,j<c - i->D[j]? =some (ze zd (ids.getD (i+j) 0)):=fun j hj=>by
  rw[<-HD.X,qr,yr,zQ,zR (by omega)];rfl
 have jR:∀v∈D,v.oneCell'=true:=fun v fK=>by
  rw[<-HD.X]at fK;obtain⟨y,_,rfl⟩:=yF.1 (yQ fK);rfl
 have nU:(zH i0.size i (za (some ⟨g,0,none⟩) i c)).run zh w.drew=.ok A.toArray w.drew:=by
  rw[ba];exact run_firstCells_some w.drew 1 i ⟨g,0,none⟩ i c A (by omega) (fun j v hj=>by
   have nY:j<i:=by
    rcases qp j i with h|h
    ·exact h
    ·rw[yg (by omega)]at hj;cases hj
   rw[sW j nY]at hj;cases hj;rw[qX,yb];exact b8 j (by omega))
 have oe:i+(c+1 - i)=c+1:=by omega
 obtain⟨G,hG⟩:∃G,G=grownCap w (c+1) c 2:=⟨_,rfl⟩;obtain⟨bF,ie⟩:∃bF:Array Value,bF=A.toArray++zB (ze zd 0).cells (c+1 - i)++zB (ze zd 0).cells (G - (c+1)):=⟨_,rfl⟩;have Fh:∀ty,(zu #[24,3] ty #[za (some ⟨g,0,none⟩) i c,ze zd ((c:Int)+1 - (i:Int))]).run zh w=.ok (za (some ⟨w.heap.size,0,none⟩) (c+1) G) (w.drew.alloc (.cells bF 2)):=fun ty=>by
  have h:=Lib.run_append_grow_zeros w 24 3 ty 2 i0 _ zd zd qb Tryz.underlying3 jl bR (some ⟨g,0,none⟩) i c A nU (c+1 - i) (by omega) (by omega) (by omega) (by omega) (by rw[bS];omega) (by rw[bS,oe];exact growslice_fits bE (by omega));rw[oe,<-hG,<-ie]at h;rw[show(c:Int)+1 - (i:Int)=((c+1 - i:Nat):Int)from by omega];exact h
 have Ha:c+1<=G:=by rw[hG];exact grownCap_ge w _ _ _
 have Ap:G<=maxLen:=by rw[hG];exact grownCap_le_maxLen w (c+1) c 2 (by unfold maxLen;omega)
 have Ff:G<=9223372036854775807:=by unfold maxLen at Ap;omega
 have vU:bF.size=G:=by
  rw[ie];simp[zB,zO,cT];omega
 obtain⟨W1,eE⟩:∃W1,W1=w.drew.alloc (.cells bF 2):=⟨_,rfl⟩;have nW:W1.heap[w.heap.size]? =some (.cells bF 2 (0,0)):=by rw[eE];exact zS w.drew _
 have hN:∀j,j<G->(W1.cell? ⟨w.heap.size,j,none⟩).isSome=true:=fun j hj=>by
  rw[zU _ _ _ _ _ _ nW,qW (by omega)];rfl
 have ul:∀j,W1.frozen? ⟨w.heap.size,j,none⟩=false:=fun j=>yZ _ _ j _ _ nW;have ow:Za w.heap.size w W1:=by rw[eE];exact(y5 _ _).drew.alloc (zT _) _
 have w_:∀j,j<i->W1.cell? ⟨w.heap.size,j,none⟩=some (ze zd (ids.getD j 0)):=fun j hj=>by
  rw[zU _ _ _ _ _ _ nW,ie,Array.append_assoc,Array.getElem?_append_left (by simp;omega)];have h9:=sW j hj;simpa using h9
 have nQ:∀(W:zi),(∀y,W.cell? y=W1.cell? y)->(∀y,W.frozen? y=W1.frozen? y)->∀ty dc,(zF #[24,24] ty #[za (some ⟨w.heap.size,i,none⟩) (c+1 - i) dc,za (some ⟨vb,0,none⟩) 1 1]).run zh W=.ok (goInt 1) (W.setCells w.heap.size i [ze zd x]):=fun W fz m_ ty dc=>
  run_copy_cells W _ _ ty 2 w.heap.size i (c+1 - i) dc ⟨vb,0,none⟩ 1 1 [ze zd x] qb zD6 (by simp only[qY,yo,List.length_nil];split<;>omega)
   (fun j v hj=>by
     cases j with
     |zero=>
      simp at hj;subst hj;rw[qX,fz];exact(ow.cell (p:=⟨vb,0,none⟩) Ed).trans mH
     |succ j=>simp at hj)
   (fun j hj=>by rw[fz];exact hN _ (by simp at hj;omega)) (fun j _=>by rw[m_];exact ul _) (fun v fK=>by simp at fK;subst fK;rfl)
 obtain⟨W2,jM⟩:∃W2,W2=W1.setCells w.heap.size i [ze zd x]:=⟨_,rfl⟩;have uL:∀j,j<G->(W2.cell? ⟨w.heap.size,j,none⟩).isSome=true:=fun j hj=>by
  rw[jM];exact isSome_setCells w.heap.size [ze zd x] i W1 (fun k hk=>hN _ (by simp at hk;omega)) j (hN j hj)
 have na:∀(W:zi),(∀y,W.cell? y=W2.cell? y)->(∀y,W.frozen? y=W2.frozen? y)->∀ty dc sc,(zF #[24,24] ty #[za (some ⟨w.heap.size,i+1,none⟩) (c - i) dc,za (some ⟨g,i,none⟩) (c - i) sc]).run zh W=.ok (goInt D.length) (W.setCells w.heap.size (i+1) D):=fun W fz m_ ty dc sc=>
  run_copy_cells W _ _ ty 2 w.heap.size (i+1) (c - i) dc ⟨g,i,none⟩ (c - i) sc D qb zD6 (by rw[kG];simp only[qY];split<;>omega)
   (fun j v hj=>by
     have nY:j<c - i:=by
      rcases qp j (c - i)with h|h
      ·exact h
      ·rw[yg (by omega)]at hj;cases hj
     rw[hD j nY]at hj;cases hj;rw[qX,fz,jM,qU _ _ _ _ _ (fun h _=>absurd h (by show g≠_;omega))];exact(ow.cell (p:=⟨g,i+j,none⟩) BV).trans (b8 (i+j) (by omega)))
   (fun j hj=>by rw[fz];exact uL _ (by omega)) (fun j _=>by rw[m_,jM,World.frozen?_setCells];exact ul _) jR
 have lg:Zb (∀W:zi,(∀y,W.cell? y=W2.cell? y)->W.heap=W2.heap->Za base w W->Za base w (W.setCells w.heap.size (i+1) D)/\(W.setCells w.heap.size (i+1) D).ownsRow base 2 1 (za (some ⟨w.heap.size,0,none⟩) (c+1) G) (c+1) ((insL ids i x).map (ze zd))):=fun W fz EK Fp=>by
  refine⟨zk5 dx _ _ Fp,?_⟩;obtain⟨gW,lC,d8⟩:=zo5 w.heap.size 2 [ze zd x] i W1 bF nW;rw[<-jM,<-EK]at lC;obtain⟨pQ,ix,gR⟩:=zo5 w.heap.size 2 D (i+1) W gW lC;refine zB2 ix (by rw[gR,d8,vU]) Ha Ap dx (by rw[zr2 _ (by omega),hn]) fun j hj=> ?_;rw[yy4 x (by omega)];by_cases h2:j<=i
  ·rw[qU _ _ _ _ _ (fun _ _=>by simp;omega),fz,jM]
   by_cases h1:j=i
   ·rw[ye (by omega),z7 h1,h1]
    have:=qV w.heap.size [ze zd x] i W1 (fun j hj=>hN _ (by simp at hj;omega)) 0 (by simp);simpa using this
   ·rw[z7 (by omega),qU _ _ _ _ _ (fun _ _=>by simp;omega)]
    exact w_ j (by omega)
  ·rw[ye (by omega),ye (by omega)]
   have h3:=qV w.heap.size D (i+1) W (fun j hj=>by rw[fz];exact uL _ (by omega)) (j - (i+1)) (by omega);rw[show i+1+(j - (i+1))=j from by omega]at h3;rw[h3];have h4:=hD (j - (i+1)) (by omega);rw[zR (by omega)]at h4;rw[h4,show i+(j - (i+1))=j - 1 from by omega]
 have mixed:Tryz.prog.follows .mixedOrders=true:=by kernel_rfl
 have og:¬((i:Int)=(c:Int)):=by omega
 have iR:IntKind.i64.wrap ((i:Int)+1)=(i:Int)+1:=by rw[xu];omega
 have dX:IntKind.i64.wrap ((c:Int)+1)=(c:Int)+1:=by rw[xu];omega
 have oM:IntKind.i64.wrap ((c:Int)+1 - (i:Int))=(c:Int)+1 - (i:Int):=by rw[xu];omega
 have gj:(0:Int)<=(i:Int)+1:=by omega
 have be:i<=c:=by omega
 have Eh:((i:Int)+1).toNat=i+1:=by omega
 have cG:(i:Int)<=(c:Int)+1:=by omega
 have fk:(c:Int)<(c:Int)+1:=by omega
 have uO:¬(G=i):=by omega
 have E6:¬(G=i+1):=by omega
 have Lo:¬(c=i):=by omega
 have Hu:Zb _:=ow.mono dx;clear ho aL jB b8 mH hD jR aM hv iF aJ jE sW cT nU oe ie hG vU hN ul nW w_ uL ow jl bR ba bS kG;subst eE;subst jM;have A6:∀y,((w.alloc (.cells bF 2)).drew).cell? y=(w.drew.alloc (.cells bF 2)).cell? y:=fun _=>rfl;have Aw:∀y,((w.alloc (.cells bF 2)).drew).frozen? y=(w.drew.alloc (.cells bF 2)).frozen? y:=fun _=>rfl;have tQ:∀y,(((w.alloc (.cells bF 2)).drew.setCells w.heap.size i [ze zd x]).drew).cell? y=((w.drew.alloc (.cells bF 2)).setCells w.heap.size i [ze zd x]).cell? y:=fun _=>rfl;have Bb:∀y,(((w.alloc (.cells bF 2)).drew.setCells w.heap.size i [ze zd x]).drew).frozen? y=((w.drew.alloc (.cells bF 2)).setCells w.heap.size i [ze zd x]).frozen? y:=fun _=>rfl;have uk:Zb (Za base w ((((w.alloc (.cells bF 2)).drew.setCells w.heap.size i [ze zd x]).drew).setCells w.heap.size (i+1) D)/\((((w.alloc (.cells bF 2)).drew.setCells w.heap.size i [ze zd x]).drew).setCells w.heap.size (i+1) D).ownsRow base 2 1 (za (some ⟨w.heap.size,0,none⟩) (c+1) G) (c+1) ((insL ids i x).map (ze zd))):=
  lg.X _ tQ rfl (zk5 dx _ _ ((y5 _ _).alloc dx _).drew).drew
 have E7:=fun ty dc=>nQ _ A6 Aw ty dc;have bU:=fun ty dc sc=>na _ tQ Bb ty dc sc;clear nQ na lg Hu A6 Aw tQ Bb;go_enter Tryz.func147,Tryz.ntmps147
 go_wp2_with(first
  |(at_builtin;refine Lib.wpList_append_run _ rfl _ _ _ _ rfl _ _ rfl rfl _ _ (Fh _) ?_)
  |(at_builtin;refine wpList_copy_runI _ rfl _ _ 24 24 rfl _ _ rfl rfl (E7 _ _) ?_))
 go_region_law (refine step_copy_runI rfl _ _ 24 24 rfl _ _ (by simp[zL,zv]) (by simp[zL,zv]) (bU _ _ _) ?_)
 all_goals
  go_wp2;go_ret;exact⟨_,rfl,uk.X⟩
theorem yH3:(Tryz.prog.info? 80).map (fun i=>(i.zero,i.size,i.bytes))=some (some (.agg #[ze zd 0,za none 0 0]),2,32):=by kernel_rfl
theorem yM5(w:zi):(Go.sizeOf 80).run zh w=.ok 2 w:=by
 obtain⟨i0,hi,_,ba,_⟩:=zq4 yH3;simp[Go.sizeOf,typeInfo,hi,ba]
theorem yi7:(Tryz.prog.info? 80).map (·.size)=some 2:=by
 obtain⟨i0,hi,_,ba,_⟩:=zq4 yH3;rw[hi];simp[ba]
theorem yt2(w:zi)(vb g o lb cb:Nat)(xs az:Array Value)(aq:vb≠g)(hv:w.heap[vb]? =some (.cells xs 80 (0,0)))(hg:w.heap[g]? =some (.cells az 80 (0,0)))(hc:az.size≠0):
 (callFunc 196 #[za (some ⟨vb,0,none⟩) 1 1,za (some ⟨g,o,none⟩) lb cb]).run zh w=.ok (.value (.bool false)) w:=by
 rw[run_callFunc_extern Tryz.func196 (by kernel_rfl) (by kernel_rfl) (by kernel_rfl) (e:=Extern.SlicesOverlaps.overlaps #[31,31] #[4]) (by kernel_rfl),
  Lib.run_overlaps_apart w 31 4 80 qS 2 yM5 ⟨vb,0,none⟩ ⟨g,o,none⟩ 1 1 lb cb aq 80 80 xs.size az.size (by unfold World.shape?; rw[hv]) (by unfold World.shape?; rw[hg]) hc (yZ _ _ 0 _ _ hv) (yZ _ _ xs.size _ _ hv)]
 rfl
theorem yL3(g c i vb base n:Nat)(xs ys:List Value)(w:zi)(hx:xs.length=n*2)(hy:ys.length=2)(ci:∀v∈xs,v.oneCell'=true)(cD:∀v∈ys,v.oneCell'=true)(ho:w.ownsRow base 80 2 (za (some ⟨g,0,none⟩) n c) n xs)(hv:w.heap[vb]? =some (.cells ys.toArray 80 (0,0)))(eW:vb≠g)(hi:i<n)(bE:n+1<=c)(hl:n<=1000):
 Calls zh 173 #[za (some ⟨g,0,none⟩) n c,ze zd i,za (some ⟨vb,0,none⟩) 1 1] w fun e w'=>∃de,e=.returned de/\Za base w w'/\w'.ownsRow base 80 2 de (n+1) (zV3 xs (i*2) ys):=by
 obtain⟨aL,⟨h0,_⟩|⟨g',ac,az,h2,dW,aM,jE,iF,aJ,jB⟩⟩:=id ho
 ·cases h0
 simp at h2;obtain⟨rfl,rfl⟩:=h2;have b8:∀j,j<n*2->w.cell? ⟨g,j,none⟩=xs[j]? :=fun j hj=>by
  have h9:xs[j]? =some xs[j]:=zR (by omega);rw[h9];exact(zh0 ho h9).1
 have lj:∀j,j<c*2->(w.cell? ⟨g,j,none⟩).isSome=true:=fun j hj=>by
  rw[zU _ _ _ _ _ _ aM,qW (by omega)];rfl
 have rk:∀j,w.frozen? ⟨g,j,none⟩=false:=fun j=>yZ _ _ j _ _ aM;have mH:∀j,w.cell? ⟨vb,j,none⟩=ys[j]? :=fun j=>by rw[zU _ _ _ _ _ _ hv];simp
 have Bg:c<=9223372036854775807:=by unfold maxLen at iF;omega
 have sV:=fun o lb cb=>yt2 w vb g o lb cb _ az eW hv aM (by omega)
 obtain⟨D,HD⟩:∃D:List Value,Zb (xs.drop (i*2)=D):=⟨_,rfl⟩;have kG:D.length=n*2 - i*2:=by rw[<-HD.X,qj,hx]
 have hD:∀j,D[j]? =xs[i*2+j]? :=fun j=>by rw[<-HD.X,qr]
 have jR:∀v∈D,v.oneCell'=true:=fun v fK=>by
  rw[<-HD.X]at fK;exact ci v (yQ fK)
 have mA:Nat.min (n+1 - i) (n - i)=n - i:=by simp only[qY];split<;>omega
 have nD:∀ty dc sc,(zF #[31,31] ty #[za (some ⟨g,(i+1)*2,none⟩) (n - i) dc,za (some ⟨g,i*2,none⟩) (n+1 - i) sc]).run zh w.drew=.ok (goInt ((n - i:Nat):Int)) (w.drew.setCells g ((i+1)*2) D):=fun ty dc sc=>by
  have:=z60 (P:=zh) w.drew 31 31 ty 80 g ((i+1)*2) (n - i) dc ⟨g,i*2,none⟩ (n+1 - i) sc 2 D qS yi7 (by rw[mA,kG];omega)
   (fun j v hj=>by
     have nY:j<D.length:=by
      rcases qp j D.length with h|h
      ·exact h
      ·rw[yg h]at hj;cases hj
     rw[qX,<-hj,hD];exact b8 (i*2+j) (by omega))
   (fun j hj=>lj _ (by omega)) (fun j _=>rk _) jR
  rw[mA]at this;exact this
 obtain⟨W1,eE⟩:∃W1,W1=w.drew.setCells g ((i+1)*2) D:=⟨_,rfl⟩;have kt:∀k,k<c*2->(W1.cell? ⟨g,k,none⟩).isSome=true:=fun k hk=>by
  rw[eE];exact isSome_setCells g D ((i+1)*2) w.drew (fun j hj=>lj _ (by omega)) k (lj k hk)
 have jv:Nat.min 1 (n+1 - i)=1:=by simp only[qY];split<;>omega
 have sX:∀(W:zi),(∀y,W.cell? y=W1.cell? y)->(∀y,W.frozen? y=W1.frozen? y)->∀ty dc,(zF #[31,31] ty #[za (some ⟨g,i*2,none⟩) (n+1 - i) dc,za (some ⟨vb,0,none⟩) 1 1]).run zh W=.ok (goInt 1) (W.setCells g (i*2) ys):=fun W fz m_ ty dc=>by
  have:=z60 (P:=zh) W 31 31 ty 80 g (i*2) (n+1 - i) dc ⟨vb,0,none⟩ 1 1 2 ys qS yi7 (by rw[jv,hy])
   (fun j v hj=>by
     rw[qX,fz,eE,qU g _ _ _ _ (fun h _=>absurd h eW),<-hj,yb];exact mH j)
   (fun j hj=>by rw[fz];exact kt _ (by omega)) (fun j _=>by rw[m_,eE,World.frozen?_setCells];exact rk _) cD
  rw[jv]at this;exact this
 have lg:Zb (Za base w (W1.setCells g (i*2) ys)/\(W1.setCells g (i*2) ys).ownsRow base 80 2 (za (some ⟨g,0,none⟩) (n+1) c) (n+1) (zV3 xs (i*2) ys)):=by
  refine⟨?_,?_⟩
  ·rw[eE]
   exact zg9 dW _ _ (zg9 dW _ _ (y5 _ _).drew)
  ·obtain⟨gW,lC,d8⟩:=zj9 g 80 D ((i+1)*2) w.drew az aM
   obtain⟨pQ,ix,gR⟩:=zj9 g 80 ys (i*2) _ gW lC;rw[<-eE]at ix;refine zu2 ix (by rw[gR,d8,aJ]) bE iF dW (by rw[zt6 (by omega)];omega) (fun j hj=> ?_);rw[yy5 hy (by omega)];by_cases h1:j<i*2
   ·rw[z7 h1,qU g _ _ _ _ (fun _ _=>by simp;omega),eE,qU g _ _ _ _ (fun _ _=>by simp;omega)]
    exact b8 j (by omega)
   ·rw[ye h1]
    by_cases h2:j<i*2+2
    ·rw[z7 h2]
     have:=qV g ys (i*2) W1 (fun j hj=>kt _ (by omega)) (j - i*2) (by omega);rw[show i*2+(j - i*2)=j from by omega]at this;rw[this,zR (by omega)]
    ·rw[ye h2,qU g _ _ _ _ (fun _ _=>by simp;omega),eE]
     have h3:=qV g D ((i+1)*2) w.drew (fun j hj=>lj _ (by omega)) (j - (i+1)*2) (by omega);rw[show(i+1)*2+(j - (i+1)*2)=j from by omega]at h3;rw[h3,<-zR (by omega),hD,show i*2+(j - (i+1)*2)=j - 2 from by omega]
 rw[<-eE]at nD;rw[eE]at lg;have mixed:Tryz.prog.follows .mixedOrders=true:=by kernel_rfl
 have bS:¬((i:Int)=(n:Int)):=by omega
 have iR:IntKind.i64.wrap ((i:Int)+1)=(i:Int)+1:=by rw[xu];omega
 have dX:IntKind.i64.wrap ((n:Int)+1)=(n:Int)+1:=by rw[xu];omega
 have gj:(0:Int)<=(i:Int)+1:=by omega
 have be:i<=n:=by omega
 have Eh:((i:Int)+1).toNat=i+1:=by omega
 have Gc:((n:Int)+1).toNat=n+1:=by omega
 have aC:¬(c=i+1):=by omega
 have cG:(i:Int)<=(n:Int)+1:=by omega
 have lS:¬(c=i):=by omega
 have fk:¬((c:Int)<(n:Int)+1):=by omega
 have iy:(n:Int)+1<=(c:Int):=by omega
 clear ho aL jB b8 lj rk mH kt hD jR aM hv iF aJ jE hx ci cD kG mA jv;go_enter Tryz.func173,Tryz.ntmps173
 go_wp2_with(simp only[sV])
 go_region_law (refine step_copy_runI rfl _ _ 31 31 rfl _ _ (by simp[zL,zv]) (by simp[zL,zv]) (nD _ _ _) ?_)
 all_goals
  go_wp2_with(at_builtin;refine wpList_copy_runI _ rfl _ _ 31 31 rfl _ _ rfl rfl (sX _ (fun _=>rfl) (fun _=>rfl) _ _) ?_)
  go_ret;exact⟨_,rfl,lg.X⟩
theorem yM1(g c i vb base n:Nat)(xs ys:List Value)(w:zi)(hx:xs.length=n*2)(hy:ys.length=2)(ci:∀v∈xs,v.oneCell'=true)(cD:∀v∈ys,v.oneCell'=true)(ho:w.ownsRow base 80 2 (za (some ⟨g,0,none⟩) n c) n xs)(dx:base<=w.heap.size)(hv:w.heap[vb]? =some (.cells ys.toArray 80 (0,0)))(hi:i<n)(bE:c<n+1)(hl:n<=1000):
 Calls zh 173 #[za (some ⟨g,0,none⟩) n c,ze zd i,za (some ⟨vb,0,none⟩) 1 1] w fun e w'=>∃de,e=.returned de/\Za base w w'/\w'.ownsRow base 80 2 de (n+1) (zV3 xs (i*2) ys):=by
 obtain⟨aL,⟨h0,_⟩|⟨g',ac,az,h2,dW,aM,jE,iF,aJ,jB⟩⟩:=id ho
 ·cases h0
 simp at h2;obtain⟨rfl,rfl⟩:=h2;have tE:c=n:=by omega
 subst tE;have b8:∀j,j<c*2->w.cell? ⟨g,j,none⟩=xs[j]? :=fun j hj=>by
  have h9:xs[j]? =some xs[j]:=zR (by omega);rw[h9];exact(zh0 ho h9).1
 have mH:∀j,w.cell? ⟨vb,j,none⟩=ys[j]? :=fun j=>by rw[zU _ _ _ _ _ _ hv];simp
 have BV:=za2 aM;have Ed:=za2 hv;obtain⟨i0,jl,bR,ba,bS⟩:=zq4 yH3;obtain⟨A,HA⟩:∃A:List Value,Zb (xs.take (i*2)=A):=⟨_,rfl⟩;have cT:A.length=i*2:=by rw[<-HA.X,yh,hx];omega
 have sW:∀j,j<i*2->A[j]? =xs[j]? :=fun j hj=>by rw[<-HA.X,yL,z7 hj]
 obtain⟨D,HD⟩:∃D:List Value,Zb (xs.drop (i*2)=D):=⟨_,rfl⟩;have kG:D.length=c*2 - i*2:=by rw[<-HD.X,qj,hx]
 have hD:∀j,D[j]? =xs[i*2+j]? :=fun j=>by rw[<-HD.X,qr]
 have jR:∀v∈D,v.oneCell'=true:=fun v fK=>by
  rw[<-HD.X]at fK;exact ci v (yQ fK)
 have nU:(zH i0.size i (za (some ⟨g,0,none⟩) i c)).run zh w.drew=.ok A.toArray w.drew:=by
  rw[ba];exact run_firstCells_some w.drew 2 i ⟨g,0,none⟩ i c A cT (fun j v hj=>by
   have nY:j<i*2:=by
    rcases qp j (i*2)with h|h
    ·exact h
    ·rw[yg (by omega)]at hj;cases hj
   rw[sW j nY]at hj;rw[qX,yb,<-hj];exact b8 j (by omega))
 have oe:i+(c+1 - i)=c+1:=by omega
 obtain⟨G,hG⟩:∃G,G=grownCap w (c+1) c 80:=⟨_,rfl⟩;obtain⟨bF,ie⟩:∃bF:Array Value,bF=A.toArray++zB (zO (.agg #[ze zd 0,za none 0 0])) (c+1 - i)++zB (zO (.agg #[ze zd 0,za none 0 0])) (G - (c+1)):=⟨_,rfl⟩;have Fh:∀ty,(zu #[31,3] ty #[za (some ⟨g,0,none⟩) i c,ze zd ((c:Int)+1 - (i:Int))]).run zh w=.ok (za (some ⟨w.heap.size,0,none⟩) (c+1) G) (w.drew.alloc (.cells bF 80)):=fun ty=>by
  have h:=Lib.run_append_grow_zeros w 31 3 ty 80 i0 _ zd zd qS Tryz.underlying3 jl bR (some ⟨g,0,none⟩) i c A nU (c+1 - i) (by omega) (by omega) (by omega) (by omega) (by rw[bS];omega) (by rw[bS,oe];exact growslice_fits bE (by omega));rw[oe,<-hG,<-ie]at h;rw[show(c:Int)+1 - (i:Int)=((c+1 - i:Nat):Int)from by omega];exact h
 have Ha:c+1<=G:=by rw[hG];exact grownCap_ge w _ _ _
 have Ap:G<=maxLen:=by rw[hG];exact grownCap_le_maxLen w (c+1) c 80 (by unfold maxLen;omega)
 have Ff:G<=9223372036854775807:=by unfold maxLen at Ap;omega
 have vU:bF.size=G*2:=by
  rw[ie];have r9:(zO (.agg #[ze zd 0,za none 0 0])).size=2:=by simp[zO]
  rw[Array.size_append,Array.size_append,z11,z11,r9];simp[cT];omega
 obtain⟨W1,eE⟩:∃W1,W1=w.drew.alloc (.cells bF 80):=⟨_,rfl⟩;have nW:W1.heap[w.heap.size]? =some (.cells bF 80 (0,0)):=by rw[eE];exact zS w.drew _
 have hN:∀j,j<G*2->(W1.cell? ⟨w.heap.size,j,none⟩).isSome=true:=fun j hj=>by
  rw[zU _ _ _ _ _ _ nW,qW (by omega)];rfl
 have ul:∀j,W1.frozen? ⟨w.heap.size,j,none⟩=false:=fun j=>yZ _ _ j _ _ nW;have ow:Za w.heap.size w W1:=by rw[eE];exact(y5 _ _).drew.alloc (zT _) _
 have w_:∀j,j<i*2->W1.cell? ⟨w.heap.size,j,none⟩=xs[j]? :=fun j hj=>by
  rw[zU _ _ _ _ _ _ nW,ie,Array.append_assoc,Array.getElem?_append_left (by simp;omega)];have h9:=sW j hj;simpa using h9
 have jv:Nat.min 1 (c+1 - i)=1:=by simp only[qY];split<;>omega
 have nQ:∀(W:zi),(∀y,W.cell? y=W1.cell? y)->(∀y,W.frozen? y=W1.frozen? y)->∀ty dc,(zF #[31,31] ty #[za (some ⟨w.heap.size,i*2,none⟩) (c+1 - i) dc,za (some ⟨vb,0,none⟩) 1 1]).run zh W=.ok (goInt 1) (W.setCells w.heap.size (i*2) ys):=fun W fz m_ ty dc=>by
  have:=z60 (P:=zh) W 31 31 ty 80 w.heap.size (i*2) (c+1 - i) dc ⟨vb,0,none⟩ 1 1 2 ys qS yi7 (by rw[jv,hy])
   (fun j v hj=>by
     rw[qX,fz,yb,<-hj];exact(ow.cell (p:=⟨vb,j,none⟩) Ed).trans (mH j))
   (fun j hj=>by rw[fz];exact hN _ (by omega)) (fun j _=>by rw[m_];exact ul _) cD
  rw[jv]at this;exact this
 obtain⟨W2,jM⟩:∃W2,W2=W1.setCells w.heap.size (i*2) ys:=⟨_,rfl⟩;have uL:∀j,j<G*2->(W2.cell? ⟨w.heap.size,j,none⟩).isSome=true:=fun j hj=>by
  rw[jM];exact isSome_setCells w.heap.size ys (i*2) W1 (fun k hk=>hN _ (by omega)) j (hN j hj)
 have mA:Nat.min (c - i) (c - i)=c - i:=by simp only[qY];split<;>omega
 have na:∀(W:zi),(∀y,W.cell? y=W2.cell? y)->(∀y,W.frozen? y=W2.frozen? y)->∀ty dc sc,(zF #[31,31] ty #[za (some ⟨w.heap.size,(i+1)*2,none⟩) (c - i) dc,za (some ⟨g,i*2,none⟩) (c - i) sc]).run zh W=.ok (goInt ((c - i:Nat):Int)) (W.setCells w.heap.size ((i+1)*2) D):=fun W fz m_ ty dc sc=>by
  have:=z60 (P:=zh) W 31 31 ty 80 w.heap.size ((i+1)*2) (c - i) dc ⟨g,i*2,none⟩ (c - i) sc 2 D qS yi7 (by rw[mA,kG];omega)
   (fun j v hj=>by
     have nY:j<D.length:=by
      rcases qp j D.length with h|h
      ·exact h
      ·rw[yg h]at hj;cases hj
     rw[qX,fz,jM,qU _ _ _ _ _ (fun h _=>absurd h (by show g≠_;omega)),<-hj,hD];exact(ow.cell (p:=⟨g,i*2+j,none⟩) BV).trans (b8 (i*2+j) (by omega)))
   (fun j hj=>by rw[fz];exact uL _ (by omega)) (fun j _=>by rw[m_,jM,World.frozen?_setCells];exact ul _) jR
  rw[mA]at this;exact this
 have lg:Zb (∀W:zi,(∀y,W.cell? y=W2.cell? y)->W.heap=W2.heap->Za base w W->Za base w (W.setCells w.heap.size ((i+1)*2) D)/\(W.setCells w.heap.size ((i+1)*2) D).ownsRow base 80 2 (za (some ⟨w.heap.size,0,none⟩) (c+1) G) (c+1) (zV3 xs (i*2) ys)):=fun W fz EK Fp=>by
  refine⟨zg9 dx _ _ Fp,?_⟩;obtain⟨gW,lC,d8⟩:=zj9 w.heap.size 80 ys (i*2) W1 bF nW;rw[<-jM,<-EK]at lC;obtain⟨pQ,ix,gR⟩:=zj9 w.heap.size 80 D ((i+1)*2) W gW lC;refine zu2 ix (by rw[gR,d8,vU]) Ha Ap dx (by rw[zt6 (by omega)];omega) (fun j hj=> ?_);rw[yy5 hy (by omega)];by_cases h1:j<i*2
  ·rw[z7 h1,qU _ _ _ _ _ (fun _ _=>by simp;omega),fz,jM,qU _ _ _ _ _ (fun _ _=>by simp;omega)]
   exact w_ j (by omega)
  ·rw[ye h1]
   by_cases h2:j<i*2+2
   ·rw[z7 h2,qU _ _ _ _ _ (fun _ _=>by simp;omega),fz,jM]
    have:=qV w.heap.size ys (i*2) W1 (fun j hj=>hN _ (by omega)) (j - i*2) (by omega);rw[show i*2+(j - i*2)=j from by omega]at this;rw[this,zR (by omega)]
   ·rw[ye h2]
    have h3:=qV w.heap.size D ((i+1)*2) W (fun j hj=>by rw[fz];exact uL _ (by omega)) (j - (i+1)*2) (by omega);rw[show(i+1)*2+(j - (i+1)*2)=j from by omega]at h3;rw[h3,<-zR (by omega),hD,show i*2+(j - (i+1)*2)=j - 2 from by omega]
 have mixed:Tryz.prog.follows .mixedOrders=true:=by kernel_rfl
 have og:¬((i:Int)=(c:Int)):=by omega
 have iR:IntKind.i64.wrap ((i:Int)+1)=(i:Int)+1:=by rw[xu];omega
 have dX:IntKind.i64.wrap ((c:Int)+1)=(c:Int)+1:=by rw[xu];omega
 have oM:IntKind.i64.wrap ((c:Int)+1 - (i:Int))=(c:Int)+1 - (i:Int):=by rw[xu];omega
 have gj:(0:Int)<=(i:Int)+1:=by omega
 have be:i<=c:=by omega
 have Eh:((i:Int)+1).toNat=i+1:=by omega
 have cG:(i:Int)<=(c:Int)+1:=by omega
 have fk:(c:Int)<(c:Int)+1:=by omega
 have uO:¬(G=i):=by omega
 have E6:¬(G=i+1):=by omega
 have Lo:¬(c=i):=by omega
 clear ho aL jB b8 mH hD jR aM hv iF aJ jE sW cT nU oe ie hG vU hN ul nW w_ uL ow jl bR ba bS kG hx ci cD mA jv;subst eE;subst jM;have A6:∀y,((w.alloc (.cells bF 80)).drew).cell? y=(w.drew.alloc (.cells bF 80)).cell? y:=fun _=>rfl;have Aw:∀y,((w.alloc (.cells bF 80)).drew).frozen? y=(w.drew.alloc (.cells bF 80)).frozen? y:=fun _=>rfl;have tQ:∀y,(((w.alloc (.cells bF 80)).drew.setCells w.heap.size (i*2) ys).drew).cell? y=((w.drew.alloc (.cells bF 80)).setCells w.heap.size (i*2) ys).cell? y:=fun y=>(z12 w.heap.size ys (i*2) (w.alloc (.cells bF 80)) y).1;have Bb:∀y,(((w.alloc (.cells bF 80)).drew.setCells w.heap.size (i*2) ys).drew).frozen? y=((w.drew.alloc (.cells bF 80)).setCells w.heap.size (i*2) ys).frozen? y:=fun y=>(z12 w.heap.size ys (i*2) (w.alloc (.cells bF 80)) y).2;have uk:Zb (Za base w ((((w.alloc (.cells bF 80)).drew.setCells w.heap.size (i*2) ys).drew).setCells w.heap.size ((i+1)*2) D)/\((((w.alloc (.cells bF 80)).drew.setCells w.heap.size (i*2) ys).drew).setCells w.heap.size ((i+1)*2) D).ownsRow base 80 2 (za (some ⟨w.heap.size,0,none⟩) (c+1) G) (c+1) (zV3 xs (i*2) ys)):=
  lg.X _ tQ (z06 w.heap.size ys (i*2) _ _ rfl) (zg9 dx _ _ ((y5 _ _).alloc dx _).drew).drew
 have E7:=fun ty dc=>nQ _ A6 Aw ty dc;have bU:=fun ty dc sc=>na _ tQ Bb ty dc sc;clear nQ na lg A6 Aw tQ Bb;go_enter Tryz.func173,Tryz.ntmps173
 go_wp2_with(first
  |(at_builtin;refine Lib.wpList_append_run _ rfl _ _ _ _ rfl _ _ rfl rfl _ _ (Fh _) ?_)
  |(at_builtin;refine wpList_copy_runI _ rfl _ _ 31 31 rfl _ _ rfl rfl (E7 _ _) ?_))
 go_region_law (refine step_copy_runI rfl _ _ 31 31 rfl _ _ (by simp[zL,zv]) (by simp[zL,zv]) (bU _ _ _) ?_)
 all_goals
  go_wp2;go_ret;exact⟨_,rfl,uk.X⟩
theorem yM8(sl:Value)(vb base n:Nat)(xs ys:List Value)(w:zi)(hx:xs.length=n*2)(hy:ys.length=2)(cD:∀v∈ys,v.oneCell'=true)(ho:w.ownsRow base 80 2 sl n xs)(dx:base<=w.heap.size)(hv:w.heap[vb]? =some (.cells ys.toArray 80 (0,0)))(hl:n<=1000):
 Calls zh 173 #[sl,ze zd n,za (some ⟨vb,0,none⟩) 1 1] w fun e w'=>∃de,e=.returned de/\Za base w w'/\w'.ownsRow base 80 2 de (n+1) (zV3 xs (n*2) ys):=by
 have HO:=za4 ho;have HV:Zb (∀j u,ys[j]? =some u->w.cell? ⟨vb,0+j,none⟩=some u):=fun j u hj=>by rw[zU _ _ _ _ _ _ hv,yb];simpa using hj
 rw[y60 hx];rcases own_kinds ho with⟨rfl,h0⟩|⟨g,c,rfl,-,-⟩
 ·subst h0
  clear ho hv;go_enter Tryz.func173,Tryz.ntmps173
  go_wp2_with(
   at_builtin;refine zk9 qS yH3 rfl (by omega) _ rfl _ _ rfl base _ 0 xs rfl HO.X vb 0 1 1 ys rfl (by omega) HV.X cD (by omega) (by omega) dx ?_;intro v' w4 ae hg jU aX;have O4:=za4 ae;have B4:Zb _:=(y5 _ _).grown hg dx (fun k e=>(HO.lt k e).1);clear ae hg aX jU)
  go_ret;exact⟨_,rfl,B4.X,O4.X⟩
 ·have jE:n<=c/\c<=9223372036854775807:=by
   obtain⟨_,⟨h1,_⟩|⟨g',ac,az,h3,_,_,h4,h5,_⟩⟩:=ho
   ·cases h1
   ·simp at h3
    obtain⟨rfl,rfl⟩:=h3;unfold maxLen at h5;omega
  obtain⟨FN,FG⟩:=jE;have be:n<=n:=zT _;clear ho hv;by_cases tE:c=n
  ·subst tE
   go_enter Tryz.func173,Tryz.ntmps173
   go_wp2_with(
    at_builtin;refine zk9 qS yH3 rfl (by omega) _ rfl _ _ rfl base _ c xs rfl HO.X vb 0 1 1 ys rfl (by omega) HV.X cD (by omega) (by omega) dx ?_;intro v' w4 ae hg jU aX;have O4:=za4 ae;have B4:Zb _:=(y5 _ _).grown hg dx (fun k e=>(HO.lt k e).1);clear ae hg aX jU)
   go_ret;exact⟨_,rfl,B4.X,O4.X⟩
  ·go_enter Tryz.func173,Tryz.ntmps173
   go_wp2_with(
    at_builtin;refine zk9 qS yH3 rfl (by omega) _ rfl _ _ rfl base _ n xs rfl HO.X vb 0 1 1 ys rfl (by omega) HV.X cD (by omega) (by omega) dx ?_;intro v' w4 ae hg jU aX;have O4:=za4 ae;have B4:Zb _:=(y5 _ _).grown hg dx (fun k e=>(HO.lt k e).1);clear ae hg aX jU)
   go_ret;exact⟨_,rfl,B4.X,O4.X⟩
theorem yx5(sl:Value)(i vb base n:Nat)(xs ys:List Value)(w:zi)(hx:xs.length=n*2)(hy:ys.length=2)(ci:∀v∈xs,v.oneCell'=true)(cD:∀v∈ys,v.oneCell'=true)(ho:w.ownsRow base 80 2 sl n xs)(dx:base<=w.heap.size)(hv:w.heap[vb]? =some (.cells ys.toArray 80 (0,0)))(eW:sl.ownBlock≠some vb)(hi:i<=n)(hl:n<=1000):
 Calls zh 173 #[sl,ze zd i,za (some ⟨vb,0,none⟩) 1 1] w fun e w'=>∃de,e=.returned de/\Za base w w'/\w'.ownsRow base 80 2 de (n+1) (zV3 xs (i*2) ys):=by
 by_cases he:i=n
 ·subst he
  exact yM8 sl vb base i xs ys w hx hy cD ho dx hv hl
 ·rcases own_kinds ho with⟨rfl,h0⟩|⟨g,c,rfl,-,-⟩
  ·omega
  ·have Nu:vb≠g:=fun e=>eW (by rw[e];rfl)
   by_cases hr:n+1<=c
   ·exact yL3 g c i vb base n xs ys w hx hy ci cD ho hv Nu (by omega) hr hl
   ·exact yM1 g c i vb base n xs ys w hx hy ci cD ho dx hv (by omega) (by omega) hl
