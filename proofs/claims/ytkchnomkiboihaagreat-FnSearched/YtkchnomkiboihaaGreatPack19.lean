import Derived.Test.YtkchnomkiboihaaGreatPack4
import Derived.Shelf.Spec.SlicesInsert
import Derived.Lib.AppendZerosOnto
set_option linter.unusedSimpArgs false
set_option maxHeartbeats 4000000
set_option maxRecDepth 100000
namespace Go.Proofs.YtkchnomkiboihaaGreat
theorem qS:type_of% @Go.Proofs.Tryz.underlying31:=@Go.Proofs.Tryz.underlying31
theorem qT:type_of% @List.length_map:=@List.length_map
theorem qU:type_of% @Go.World.cell?_setCells_out:=@Go.World.cell?_setCells_out
theorem qV:type_of% @Go.World.cell?_setCells_in:=@Go.World.cell?_setCells_in
theorem qW:type_of% @Array.getElem?_eq_getElem:=@Array.getElem?_eq_getElem
theorem qX:type_of% @Go.Addr.add_lit:=@Go.Addr.add_lit
theorem qY:type_of% @Nat.min_def:=@Nat.min_def
open Value renaming slice→za,int→ze,cells→zO
open IntKind renaming i64→zd
open Obj renaming cells→zg
open Proofs.Tryz renaming prog→zh
open Go renaming World→zi
open Region renaming wanted→zn
open Builtin renaming append_→zu,zeroCells→zB,copy_→zE,firstCells→zG
open Act renaming put→zv,eval→zL
open Go.RowKit Go.Lib
open Q
theorem zj6(g:Nat)(T:TypeId):∀(vs:List Value) (o:Nat) (w:zi) (az:Array Value),w.heap[g]? =some (.cells az T (0,0))->∃ip,(w.setCells g o vs).heap[g]? =some (.cells ip T (0,0))/\ip.size=az.size
 |[],_,_,az,h=>⟨az,h,rfl⟩
 |v::r,o,w,az,h=>by
  obtain⟨ip,h1,h2⟩:=zj6 g T r (o+1) (w.setCell ⟨g,o,none⟩ v) _ (xb w g o az T v h);exact⟨ip,h1,by rw[h2,Array.size_setIfInBounds]⟩
theorem zg7{base g:Nat}(hb:base<=g):∀(vs:List Value) (o:Nat) {w w':zi},Below base w w'->Below base w (w'.setCells g o vs)
 |[],_,_,_,h=>h
 |_::r,o,_,_,h=>zg7 hb r (o+1) (h.setCell hb _)
def zW3(xs:List Value)(p:Nat)(ys:List Value):List Value:=xs.take p++(ys++xs.drop p)
theorem zv1{xs ys:List Value}{p:Nat}(hp:p<=xs.length):(zW3 xs p ys).length=xs.length+ys.length:=by
 unfold zW3;rw[xY,xY,yh,qj];omega
theorem y13{xs ys:List Value}{p q:Nat}(hq:ys.length=q)(hp:p<=xs.length)(j:Nat):(zW3 xs p ys)[j]? =if j<p then xs[j]? else if j<p+q then ys[j - p]? else xs[j - q]? :=by
 unfold zW3;by_cases h1:j<p
 ·rw[z7 h1,yE (by rw[yh];omega),yL,z7 h1]
 ·rw[ye h1,yS (by rw[yh];omega),yh,Nat.min_eq_left hp]
  by_cases h2:j<p+q
  ·rw[z7 h2,yE (by omega)]
  ·rw[ye h2,yS (by omega),qr,hq,show p+(j - p - q)=j - q from by omega]
theorem y87{xs ys:List Value}{p:Nat}(h:xs.length=p):zW3 xs p ys=xs++ys:=by
 unfold zW3;rw[<-h,ym,List.drop_length,qe]
theorem z33{P:Program}(w:zi)(dT sT ty uq:TypeId)(b o sg E0:Nat)(a:Addr)(un EA size:Nat)(cs:List Value)
 (hu:P.underlying dT=some (.slice uq)) (hs:(P.info? uq).map (·.size)=some size) (hn:cs.length=Nat.min un sg*size)
 (sX:∀j v,cs[j]? =some v->w.cell? (a.add j)=some v) (hc:∀j,j<cs.length->(w.cell? ⟨b,o+j,none⟩).isSome=true) (hf:∀j,j<cs.length->w.frozen? ⟨b,o+j,none⟩=false) (h1:∀v∈cs,v.oneCell'=true):
 (zE #[dT,sT] ty #[za (some ⟨b,o,none⟩) sg E0,za (some a) un EA]).run P w=.ok (goInt (Nat.min un sg)) (w.setCells b o cs):=by
 have hl:=run_loadCells_list (P:=P) w a cs sX;have bu:=run_storeCells_cells (P:=P) b o cs 0 w (by simpa using hc) (by simpa using hf) h1;cases hq:P.info? uq with
 |none=>simp[hq]at hs
 |some i=>
  have hi:i.size=size:=by simpa[hq]using hs
  simp[zE,xI hu,Builtin.lenOf,zG,sizeOf,typeInfo,hq,hi,<-hn,hl,bu]
theorem yq5{P:Program}(w:zi)(t e ty:TypeId)(z:Value)(ht:P.underlying t=some (.slice e))(hv:∀w,(zeroValue e).run P w=.ok z w)(b o n c:Nat)(hn:0<n)(cs:List Value)(aJ:(zB z.cells n).toList=cs)(h1:∀v∈cs,v.oneCell'=true)
 (hc:∀j,j<cs.length->(w.cell? ⟨b,o+j,none⟩).isSome=true) (hf:∀j,j<cs.length->w.frozen? ⟨b,o+j,none⟩=false):
 (Builtin.clear_ #[t] ty #[za (some ⟨b,o,none⟩) n c]).run P w=.ok (.tuple #[]) (w.setCells b o cs):=by
 have bu:=run_storeCells_cells (P:=P) b o cs 0 w (by simpa using hc) (by simpa using hf) h1;simp only[Nat.add_zero]at bu;obtain⟨m,rfl⟩:∃m,n=m+1:=⟨n - 1,by omega⟩;simp[Builtin.clear_,xI ht,hv,aJ,bu]
theorem zC1{P:Program}{ap:Array Oper}{o:Oper}{a:Act}{w:zi}{K:Act->zi->Prop}{Q:Exit->Act->zi->Prop}{E:Prop}
 (hg:o.guard=none) (d x:Operand) (dT sT:TypeId) (dw:o.op=Op.call {callee:=Callee.builtin Builtin.append,bm:=#[d,x],argTypes:=#[dT,sT]})
 (v u:Value) (hd:a.eval d=v) (hx:a.eval x=u) {v':Value} {w':zi} (hr:(zu #[dT,sT] o.type #[v,u]).run P w=.ok v' w') (hK:K (a.put o.dst v') w'):
 if zn o (yielded ap a.tmps)=true then Oper.wp P o a w K Q else E:=by
 have hw:zn o (yielded ap a.tmps)=true:=by simp[zn,hg]
 rw[z7 hw];unfold Oper.wp;simp[execOp,dw,resolve,invoke,builtin,hd,hx,hr,Result.andThen];exact hK
theorem zp8{w:zi}{base k:Nat}{v:Value}{e:TypeId}{size:Nat}{xs:List Value}(h:w.ownsRow base e size v k xs):∃ao co,v=za ao k co:=by
 obtain⟨_,⟨h1,h2⟩|⟨g',ac,az,h2,_⟩⟩:=h
 ·exact⟨none,0,by rw[h1,h2]⟩
 ·exact⟨_,_,h2⟩
theorem z13(z:Array Value)(n:Nat):(zB z n).size=n*z.size:=by simp[zB]
theorem z04(g:Nat):∀(vs:List Value) (o:Nat) (w w':zi),w.heap=w'.heap->(w.setCells g o vs).heap=(w'.setCells g o vs).heap
 |[],_,_,_,h=>h
 |v::r,o,w,w',h=>z04 g r (o+1) (w.setCell ⟨g,o,none⟩ v) (w'.setCell ⟨g,o,none⟩ v) (by unfold World.setCell;rw[h])
theorem z09(g:Nat)(vs:List Value)(o:Nat)(w:zi)(y:Addr):((w.drew.setCells g o vs).drew).cell? y=(w.drew.setCells g o vs).cell? y/\((w.drew.setCells g o vs).drew).frozen? y=(w.drew.setCells g o vs).frozen? y:=⟨rfl,rfl⟩
theorem zo6(g:Nat)(T:TypeId):∀(vs:List Value) (o:Nat) (w:zi) (az:Array Value),w.heap[g]? =some (.cells az T (0,0))->∃ip,(w.setCells g o vs).heap[g]? =some (.cells ip T (0,0))/\ip.size=az.size
 |[],_,_,az,h=>⟨az,h,rfl⟩
 |v::r,o,w,az,h=>by
  obtain⟨ip,h1,h2⟩:=zo6 g T r (o+1) (w.setCell ⟨g,o,none⟩ v) _ (xb w g o az T v h);exact⟨ip,h1,by rw[h2,Array.size_setIfInBounds]⟩
theorem zk5{base g:Nat}(hb:base<=g):∀(vs:List Value) (o:Nat) {w w':zi},Below base w w'->Below base w (w'.setCells g o vs)
 |[],_,_,_,h=>h
 |_::r,o,_,_,h=>zk5 hb r (o+1) (h.setCell hb _)
theorem zA3{W:zi}{base g ac n:Nat}{az:Array Value}{xs:List Int}(hr:W.heap[g]? =some (.cells az 2 (0,0)))(bU:az.size=ac)(hn:n<=ac)(hm:ac<=maxLen)(hb:base<=g)(hx:xs.length=n)(hc:∀j,j<n->W.cell? ⟨g,j,none⟩=some (ze zd (xs.getD j 0))):W.ownsRow base 2 1 (za (some ⟨g,0,none⟩) n ac) n (xs.map (ze zd)):=by
 refine⟨by rw[qT,hx,Nat.mul_one],.inr ⟨g,ac,az,rfl,hb,hr,hn,hm,by rw[bU,Nat.mul_one],?_⟩⟩;apply List.ext_getElem?;intro j;rw[yL,Nat.mul_one];by_cases hj:j<n
 ·have h1:=hc j hj
  rw[zU _ _ _ _ _ _ hr]at h1;rw[z7 hj,Array.getElem?_toList,h1,yr,zQ,zR (by omega)];rfl
 ·rw[ye hj,yg (by rw[qT];omega)]
theorem y19{ids:List Int}{i j:Nat}(id:Int)(hi:i<=ids.length):(insL ids i id).getD j 0=if j<i then ids.getD j 0 else if j=i then id else ids.getD (j - 1) 0:=by
 unfold insL;simp only[zQ];by_cases h1:j<i
 ·rw[z7 h1,yE (by rw[yh];omega),yL,z7 h1]
 ·rw[ye h1,yS (by rw[yh];omega),yh,Nat.min_eq_left hi]
  by_cases h2:j=i
  ·rw[z7 h2,h2,Nat.sub_self]
   rfl
  ·rw[ye h2,show j - i=(j - 1 - i)+1 from by omega,List.getElem?_cons_succ,qr,show i+(j - 1 - i)=j - 1 from by omega]
theorem yE2(w:zi):(Go.sizeOf 2).run zh w=.ok 1 w:=by
 obtain⟨i0,hi,_,ba,_⟩:=qx Tryz.info2;simp[Go.sizeOf,typeInfo,hi,ba]
theorem zD9:(Tryz.prog.info? 2).map (·.size)=some 1:=by
 obtain⟨i0,hi,_,ba,_⟩:=qx Tryz.info2;rw[hi];simp[ba]
theorem yb7(w:zi)(vb g o lb cb:Nat)(x:Value)(az:Array Value)(aq:vb≠g)(hv:w.heap[vb]? =some (zg #[x] 2 (0,0)))(hg:w.heap[g]? =some (.cells az 2 (0,0)))(hc:az.size≠0):
 (callFunc 176 #[za (some ⟨vb,0,none⟩) 1 1,za (some ⟨g,o,none⟩) lb cb]).run zh w=.ok (.value (.bool false)) w:=by
 rw[run_callFunc_extern Tryz.func176 (by kernel_rfl) (by kernel_rfl) (by kernel_rfl) (e:=Extern.SlicesOverlaps.overlaps #[24,24] #[4]) (by kernel_rfl),
  Lib.run_overlaps_apart w 24 4 2 qb 1 yE2 ⟨vb,0,none⟩ ⟨g,o,none⟩ 1 1 lb cb aq 2 2 1 az.size (by unfold World.shape?; rw[hv];rfl) (by unfold World.shape?; rw[hg]) hc (yZ _ _ 0 _ _ hv) (yZ _ _ 1 _ _ hv)]
 rfl
theorem ye3(g c i vb base n:Nat)(x:Int)(ids:List Int)(w:zi)(hn:ids.length=n)(ho:w.ownsRow base 2 1 (za (some ⟨g,0,none⟩) n c) n (ids.map (ze zd)))(hv:w.heap[vb]? =some (zg #[ze zd x] 2 (0,0)))(eY:vb≠g)(hi:i<n)(bE:n+1<=c)(hl:n<=1000):
 Calls zh 147 #[za (some ⟨g,0,none⟩) n c,ze zd i,za (some ⟨vb,0,none⟩) 1 1] w fun e w'=>∃df,e=.returned df/\Below base w w'/\w'.ownsRow base 2 1 df (n+1) ((insL ids i x).map (ze zd)):=by
 obtain⟨aL,⟨h0,_⟩|⟨g',ac,az,h2,dU,aM,jF,iM,aJ,jC⟩⟩:=id ho
 ·cases h0
 simp at h2;obtain⟨rfl,rfl⟩:=h2;rw[Nat.mul_one]at aJ;have b8:∀j,j<n->w.cell? ⟨g,j,none⟩=some (ze zd (ids.getD j 0)):=fun j hj=>by
  obtain⟨_,_,e,h⟩:=zd4 ho j (by omega);simp at e;obtain⟨rfl,rfl⟩:=e;rw[yb]at h;exact h
 have ld:∀j,j<c->(w.cell? ⟨g,j,none⟩).isSome=true:=fun j hj=>by
  rw[zU _ _ _ _ _ _ aM,qW (by omega)];rfl
 have ri:∀j,w.frozen? ⟨g,j,none⟩=false:=fun j=>yZ _ _ j _ _ aM;have mF:w.cell? ⟨vb,0,none⟩=some (ze zd x):=by rw[zU _ _ _ _ _ _ hv];rfl
 have x_:c<=9223372036854775807:=by unfold maxLen at iM;omega
 have te:=fun lb cb=>yb7 w vb g (i+1) lb cb _ az eY hv aM (by omega)
 obtain⟨D,HD⟩:∃D:List Value,Hid ((ids.map (ze zd)).drop i=D):=⟨_,rfl⟩;have kd:D.length=n - i:=by rw[<-HD.X,qj,qT,hn]
 have hD:∀j,j<n - i->D[j]? =some (ze zd (ids.getD (i+j) 0)):=fun j hj=>by
  rw[<-HD.X,qr,yr,zQ,zR (by omega)];rfl
 have kK:∀v∈D,v.oneCell'=true:=fun v fB=>by
  rw[<-HD.X]at fB;obtain⟨y,_,rfl⟩:=yF.1 (yQ fB);rfl
 have ni:∀ty dc sc,(zE #[24,24] ty #[za (some ⟨g,i+1,none⟩) (n - i) dc,za (some ⟨g,i,none⟩) (n+1 - i) sc]).run zh w.drew=.ok (goInt D.length) (w.drew.setCells g (i+1) D):=fun ty dc sc=>
  run_copy_cells w.drew _ _ ty 2 g (i+1) (n - i) dc ⟨g,i,none⟩ (n+1 - i) sc D qb zD9 (by rw[kd];simp only[qY];split<;>omega)
   (fun j v hj=>by
     have nh:j<n - i:=by
      rcases qp j (n - i)with h|h
      ·exact h
      ·rw[yg (by omega)]at hj;cases hj
     rw[hD j nh]at hj;cases hj;rw[qX];exact b8 (i+j) (by omega))
   (fun j hj=>ld _ (by omega)) (fun j _=>ri _) kK
 obtain⟨W1,eE⟩:∃W1,W1=w.drew.setCells g (i+1) D:=⟨_,rfl⟩;have jU:∀k,k<c->(W1.cell? ⟨g,k,none⟩).isSome=true:=fun k hk=>by
  rw[eE];exact isSome_setCells g D (i+1) w.drew (fun j hj=>ld _ (by omega)) k (ld k hk)
 have sq:∀(W:zi),(∀y,W.cell? y=W1.cell? y)->(∀y,W.frozen? y=W1.frozen? y)->∀ty dc,(zE #[24,24] ty #[za (some ⟨g,i,none⟩) (n+1 - i) dc,za (some ⟨vb,0,none⟩) 1 1]).run zh W=.ok (goInt 1) (W.setCells g i [ze zd x]):=fun W fu mQ ty dc=>
  run_copy_cells W _ _ ty 2 g i (n+1 - i) dc ⟨vb,0,none⟩ 1 1 [ze zd x] qb zD9 (by simp only[qY,yo,List.length_nil];split<;>omega)
   (fun j v hj=>by
     cases j with
     |zero=>
      simp at hj;subst hj;rw[qX,fu,eE,qU g _ _ _ _ (fun h _=>absurd h eY)];exact mF
     |succ j=>simp at hj)
   (fun j hj=>by rw[fu];exact jU _ (by simp at hj;omega)) (fun j _=>by rw[mQ,eE,World.frozen?_setCells];exact ri _) (fun v fB=>by simp at fB;subst fB;rfl)
 have kR:Hid (Below base w (W1.setCells g i [ze zd x])/\(W1.setCells g i [ze zd x]).ownsRow base 2 1 (za (some ⟨g,0,none⟩) (n+1) c) (n+1) ((insL ids i x).map (ze zd))):=by
  refine⟨?_,?_⟩
  ·rw[eE]
   exact zk5 dU _ _ (zk5 dU _ _ (y5 _ _).drew)
  ·obtain⟨ik,lq,d5⟩:=zo6 g 2 D (i+1) w.drew az aM
   obtain⟨q_,iJ,gU⟩:=zo6 g 2 [ze zd x] i _ ik lq;rw[<-eE]at iJ;refine zA3 iJ (by rw[gU,d5,aJ]) bE iM dU (by rw[zq2 _ (by omega),hn]) fun j hj=> ?_;rw[y19 x (by omega)];by_cases h1:j=i
   ·rw[ye (by omega),z7 h1,h1]
    have:=qV g [ze zd x] i W1 (fun j hj=>jU _ (by simp at hj;omega)) 0 (by simp);simpa using this
   ·rw[qU g _ _ _ _ (fun _ _=>by simp;omega),eE]
    by_cases h2:j<i
    ·rw[z7 h2,qU g _ _ _ _ (fun _ _=>by simp;omega)]
     exact b8 j (by omega)
    ·rw[ye h2,ye h1]
     have h3:=qV g D (i+1) w.drew (fun j hj=>ld _ (by omega)) (j - (i+1)) (by omega);rw[show i+1+(j - (i+1))=j from by omega]at h3;rw[h3];have h4:=hD (j - (i+1)) (by omega);rw[zR (by omega)]at h4;rw[h4,show i+(j - (i+1))=j - 1 from by omega]
 rw[<-eE]at ni;rw[eE]at kR;have eA:Tryz.prog.follows .mixedOrders=true:=by kernel_rfl
 have bS:¬((i:Int)=(n:Int)):=by omega
 have iU:IntKind.i64.wrap ((i:Int)+1)=(i:Int)+1:=by rw[xu];omega
 have dY:IntKind.i64.wrap ((n:Int)+1)=(n:Int)+1:=by rw[xu];omega
 have fZ:(0:Int)<=(i:Int)+1:=by omega
 have bd:i<=n:=by omega
 have Hz:((i:Int)+1).toNat=i+1:=by omega
 have GO:((n:Int)+1).toNat=n+1:=by omega
 have aC:¬(c=i+1):=by omega
 have cG:(i:Int)<=(n:Int)+1:=by omega
 have lS:¬(c=i):=by omega
 have fs:¬((c:Int)<(n:Int)+1):=by omega
 have ir:(n:Int)+1<=(c:Int):=by omega
 clear ho aL jC b8 ld ri mF jU hD kK aM hv iM aJ jF;go_enter Tryz.func147,Tryz.ntmps147
 go_wp2_with(simp only[te])
 go_region_law (refine step_copy_runI rfl _ _ 24 24 rfl _ _ (by simp[zL,zv]) (by simp[zL,zv]) (ni _ _ _) ?_)
 all_goals
  go_wp2_with(at_builtin;refine wpList_copy_runI _ rfl _ _ 24 24 rfl _ _ rfl rfl (sq _ (fun _=>rfl) (fun _=>rfl) _ _) ?_)
  go_ret;exact⟨_,rfl,kR.X⟩
theorem yg8(g c i vb base n:Nat)(x:Int)(ids:List Int)(w:zi)(hn:ids.length=n)(ho:w.ownsRow base 2 1 (za (some ⟨g,0,none⟩) n c) n (ids.map (ze zd)))(dz:base<=w.heap.size)(hv:w.heap[vb]? =some (zg #[ze zd x] 2 (0,0)))(hi:i<n)(bE:c<n+1)(hl:n<=1000):
 Calls zh 147 #[za (some ⟨g,0,none⟩) n c,ze zd i,za (some ⟨vb,0,none⟩) 1 1] w fun e w'=>∃df,e=.returned df/\Below base w w'/\w'.ownsRow base 2 1 df (n+1) ((insL ids i x).map (ze zd)):=by
 obtain⟨aL,⟨h0,_⟩|⟨g',ac,az,h2,dU,aM,jF,iM,aJ,jC⟩⟩:=id ho
 ·cases h0
 simp at h2;obtain⟨rfl,rfl⟩:=h2;have sO:c=n:=by omega
 subst sO;rw[Nat.mul_one]at aJ;have b8:∀j,j<c->w.cell? ⟨g,j,none⟩=some (ze zd (ids.getD j 0)):=fun j hj=>by
  obtain⟨_,_,e,h⟩:=zd4 ho j (by omega);simp at e;obtain⟨rfl,rfl⟩:=e;rw[yb]at h;exact h
 have mF:w.cell? ⟨vb,0,none⟩=some (ze zd x):=by rw[zU _ _ _ _ _ _ hv];rfl
 have AH:=za2 aM;have EN:=za2 hv;obtain⟨i0,jp,bO,ba,bS⟩:=qx Tryz.info2;obtain⟨A,HA⟩:∃A:List Value,Hid ((ids.map (ze zd)).take i=A):=⟨_,rfl⟩;have cT:A.length=i:=by rw[<-HA.X,yh,qT,hn];omega
 have tT:∀j,j<i->A[j]? =some (ze zd (ids.getD j 0)):=fun j hj=>by
  rw[<-HA.X,yL,z7 hj,yr,zQ,zR (by omega)];rfl
 obtain⟨D,HD⟩:∃D:List Value,Hid ((ids.map (ze zd)).drop i=D):=⟨_,rfl⟩;have kd:D.length=c - i:=by rw[<-HD.X,qj,qT,hn]
 have hD:∀j,j<c - i->D[j]? =some (ze zd (ids.getD (i+j) 0)):=fun j hj=>by
  rw[<-HD.X,qr,yr,zQ,zR (by omega)];rfl
 have kK:∀v∈D,v.oneCell'=true:=fun v fB=>by
  rw[<-HD.X]at fB;obtain⟨y,_,rfl⟩:=yF.1 (yQ fB);rfl
 have mZ:(zG i0.size i (za (some ⟨g,0,none⟩) i c)).run zh w.drew=.ok A.toArray w.drew:=by
  rw[ba];exact run_firstCells_some w.drew 1 i ⟨g,0,none⟩ i c A (by omega) (fun j v hj=>by
   have nh:j<i:=by
    rcases qp j i with h|h
    ·exact h
    ·rw[yg (by omega)]at hj;cases hj
   rw[tT j nh]at hj;cases hj;rw[qX,yb];exact b8 j (by omega))
 have om:i+(c+1 - i)=c+1:=by omega
 obtain⟨G,hG⟩:∃G,G=grownCap w (c+1) c 2:=⟨_,rfl⟩;obtain⟨bD,ie⟩:∃bD:Array Value,bD=A.toArray++zB (ze zd 0).cells (c+1 - i)++zB (ze zd 0).cells (G - (c+1)):=⟨_,rfl⟩;have Ek:∀ty,(zu #[24,3] ty #[za (some ⟨g,0,none⟩) i c,ze zd ((c:Int)+1 - (i:Int))]).run zh w=.ok (za (some ⟨w.heap.size,0,none⟩) (c+1) G) (w.drew.alloc (.cells bD 2)):=fun ty=>by
  have h:=Lib.run_append_grow_zeros w 24 3 ty 2 i0 _ zd zd qb Tryz.underlying3 jp bO (some ⟨g,0,none⟩) i c A mZ (c+1 - i) (by omega) (by omega) (by omega) (by omega) (by rw[bS];omega) (by rw[bS,om];exact growslice_fits bE (by omega));rw[om,<-hG,<-ie]at h;rw[show(c:Int)+1 - (i:Int)=((c+1 - i:Nat):Int)from by omega];exact h
 have Ej:c+1<=G:=by rw[hG];exact grownCap_ge w _ _ _
 have v8:G<=maxLen:=by rw[hG];exact grownCap_le_maxLen w (c+1) c 2 (by unfold maxLen;omega)
 have Em:G<=9223372036854775807:=by unfold maxLen at v8;omega
 have Bd:bD.size=G:=by
  rw[ie];simp[zB,zO,cT];omega
 obtain⟨W1,eE⟩:∃W1,W1=w.drew.alloc (.cells bD 2):=⟨_,rfl⟩;have mI:W1.heap[w.heap.size]? =some (.cells bD 2 (0,0)):=by rw[eE];exact zS w.drew _
 have hN:∀j,j<G->(W1.cell? ⟨w.heap.size,j,none⟩).isSome=true:=fun j hj=>by
  rw[zU _ _ _ _ _ _ mI,qW (by omega)];rfl
 have uE:∀j,W1.frozen? ⟨w.heap.size,j,none⟩=false:=fun j=>yZ _ _ j _ _ mI;have oE:Below w.heap.size w W1:=by rw[eE];exact(y5 _ _).drew.alloc (zT _) _
 have x':∀j,j<i->W1.cell? ⟨w.heap.size,j,none⟩=some (ze zd (ids.getD j 0)):=fun j hj=>by
  rw[zU _ _ _ _ _ _ mI,ie,Array.append_assoc,Array.getElem?_append_left (by simp;omega)];have h9:=tT j hj;simpa using h9
 have mM:∀(W:zi),(∀y,W.cell? y=W1.cell? y)->(∀y,W.frozen? y=W1.frozen? y)->∀ty dc,(zE #[24,24] ty #[za (some ⟨w.heap.size,i,none⟩) (c+1 - i) dc,za (some ⟨vb,0,none⟩) 1 1]).run zh W=.ok (goInt 1) (W.setCells w.heap.size i [ze zd x]):=fun W fu mQ ty dc=>
  run_copy_cells W _ _ ty 2 w.heap.size i (c+1 - i) dc ⟨vb,0,none⟩ 1 1 [ze zd x] qb zD9 (by simp only[qY,yo,List.length_nil];split<;>omega)
   (fun j v hj=>by
     cases j with
     |zero=>
      simp at hj;subst hj;rw[qX,fu];exact(oE.cell (p:=⟨vb,0,none⟩) EN).trans mF
     |succ j=>simp at hj)
   (fun j hj=>by rw[fu];exact hN _ (by simp at hj;omega)) (fun j _=>by rw[mQ];exact uE _) (fun v fB=>by simp at fB;subst fB;rfl)
 obtain⟨W2,jz⟩:∃W2,W2=W1.setCells w.heap.size i [ze zd x]:=⟨_,rfl⟩;have tz:∀j,j<G->(W2.cell? ⟨w.heap.size,j,none⟩).isSome=true:=fun j hj=>by
  rw[jz];exact isSome_setCells w.heap.size [ze zd x] i W1 (fun k hk=>hN _ (by simp at hk;omega)) j (hN j hj)
 have nD:∀(W:zi),(∀y,W.cell? y=W2.cell? y)->(∀y,W.frozen? y=W2.frozen? y)->∀ty dc sc,(zE #[24,24] ty #[za (some ⟨w.heap.size,i+1,none⟩) (c - i) dc,za (some ⟨g,i,none⟩) (c - i) sc]).run zh W=.ok (goInt D.length) (W.setCells w.heap.size (i+1) D):=fun W fu mQ ty dc sc=>
  run_copy_cells W _ _ ty 2 w.heap.size (i+1) (c - i) dc ⟨g,i,none⟩ (c - i) sc D qb zD9 (by rw[kd];simp only[qY];split<;>omega)
   (fun j v hj=>by
     have nh:j<c - i:=by
      rcases qp j (c - i)with h|h
      ·exact h
      ·rw[yg (by omega)]at hj;cases hj
     rw[hD j nh]at hj;cases hj;rw[qX,fu,jz,qU _ _ _ _ _ (fun h _=>absurd h (by show g≠_;omega))];exact(oE.cell (p:=⟨g,i+j,none⟩) AH).trans (b8 (i+j) (by omega)))
   (fun j hj=>by rw[fu];exact tz _ (by omega)) (fun j _=>by rw[mQ,jz,World.frozen?_setCells];exact uE _) kK
 have kR:Hid (∀W:zi,(∀y,W.cell? y=W2.cell? y)->W.heap=W2.heap->Below base w W->Below base w (W.setCells w.heap.size (i+1) D)/\(W.setCells w.heap.size (i+1) D).ownsRow base 2 1 (za (some ⟨w.heap.size,0,none⟩) (c+1) G) (c+1) ((insL ids i x).map (ze zd))):=fun W fu Hq Fy=>by
  refine⟨zk5 dz _ _ Fy,?_⟩;obtain⟨ik,lq,d5⟩:=zo6 w.heap.size 2 [ze zd x] i W1 bD mI;rw[<-jz,<-Hq]at lq;obtain⟨q_,iJ,gU⟩:=zo6 w.heap.size 2 D (i+1) W ik lq;refine zA3 iJ (by rw[gU,d5,Bd]) Ej v8 dz (by rw[zq2 _ (by omega),hn]) fun j hj=> ?_;rw[y19 x (by omega)];by_cases h2:j<=i
  ·rw[qU _ _ _ _ _ (fun _ _=>by simp;omega),fu,jz]
   by_cases h1:j=i
   ·rw[ye (by omega),z7 h1,h1]
    have:=qV w.heap.size [ze zd x] i W1 (fun j hj=>hN _ (by simp at hj;omega)) 0 (by simp);simpa using this
   ·rw[z7 (by omega),qU _ _ _ _ _ (fun _ _=>by simp;omega)]
    exact x' j (by omega)
  ·rw[ye (by omega),ye (by omega)]
   have h3:=qV w.heap.size D (i+1) W (fun j hj=>by rw[fu];exact tz _ (by omega)) (j - (i+1)) (by omega);rw[show i+1+(j - (i+1))=j from by omega]at h3;rw[h3];have h4:=hD (j - (i+1)) (by omega);rw[zR (by omega)]at h4;rw[h4,show i+(j - (i+1))=j - 1 from by omega]
 have eA:Tryz.prog.follows .mixedOrders=true:=by kernel_rfl
 have oT:¬((i:Int)=(c:Int)):=by omega
 have iU:IntKind.i64.wrap ((i:Int)+1)=(i:Int)+1:=by rw[xu];omega
 have dY:IntKind.i64.wrap ((c:Int)+1)=(c:Int)+1:=by rw[xu];omega
 have oI:IntKind.i64.wrap ((c:Int)+1 - (i:Int))=(c:Int)+1 - (i:Int):=by rw[xu];omega
 have fZ:(0:Int)<=(i:Int)+1:=by omega
 have bd:i<=c:=by omega
 have Hz:((i:Int)+1).toNat=i+1:=by omega
 have cG:(i:Int)<=(c:Int)+1:=by omega
 have fs:(c:Int)<(c:Int)+1:=by omega
 have vJ:¬(G=i):=by omega
 have Eg:¬(G=i+1):=by omega
 have Pv:¬(c=i):=by omega
 have E7:Hid _:=oE.mono dz;clear ho aL jC b8 mF hD kK aM hv iM aJ jF tT cT mZ om ie hG Bd hN uE mI x' tz oE jp bO ba bS kd;subst eE;subst jz;have wR:∀y,((w.alloc (.cells bD 2)).drew).cell? y=(w.drew.alloc (.cells bD 2)).cell? y:=fun _=>rfl;have BO:∀y,((w.alloc (.cells bD 2)).drew).frozen? y=(w.drew.alloc (.cells bD 2)).frozen? y:=fun _=>rfl;have ur:∀y,(((w.alloc (.cells bD 2)).drew.setCells w.heap.size i [ze zd x]).drew).cell? y=((w.drew.alloc (.cells bD 2)).setCells w.heap.size i [ze zd x]).cell? y:=fun _=>rfl;have vZ:∀y,(((w.alloc (.cells bD 2)).drew.setCells w.heap.size i [ze zd x]).drew).frozen? y=((w.drew.alloc (.cells bD 2)).setCells w.heap.size i [ze zd x]).frozen? y:=fun _=>rfl;have uC:Hid (Below base w ((((w.alloc (.cells bD 2)).drew.setCells w.heap.size i [ze zd x]).drew).setCells w.heap.size (i+1) D)/\((((w.alloc (.cells bD 2)).drew.setCells w.heap.size i [ze zd x]).drew).setCells w.heap.size (i+1) D).ownsRow base 2 1 (za (some ⟨w.heap.size,0,none⟩) (c+1) G) (c+1) ((insL ids i x).map (ze zd))):=
  kR.X _ ur rfl (zk5 dz _ _ ((y5 _ _).alloc dz _).drew).drew
 have Ik:=fun ty dc=>mM _ wR BO ty dc;have bT:=fun ty dc sc=>nD _ ur vZ ty dc sc;clear mM nD kR E7 wR BO ur vZ;go_enter Tryz.func147,Tryz.ntmps147
 go_wp2_with(first
  |(at_builtin;refine Lib.wpList_append_run _ rfl _ _ _ _ rfl _ _ rfl rfl _ _ (Ek _) ?_)
  |(at_builtin;refine wpList_copy_runI _ rfl _ _ 24 24 rfl _ _ rfl rfl (Ik _ _) ?_))
 go_region_law (refine step_copy_runI rfl _ _ 24 24 rfl _ _ (by simp[zL,zv]) (by simp[zL,zv]) (bT _ _ _) ?_)
 all_goals
  go_wp2;go_ret;exact⟨_,rfl,uC.X⟩
theorem yH2:(Tryz.prog.info? 80).map (fun i=>(i.zero,i.size,i.bytes))=some (some (.agg #[ze zd 0,za none 0 0]),2,32):=by kernel_rfl
theorem yL7(w:zi):(Go.sizeOf 80).run zh w=.ok 2 w:=by
 obtain⟨i0,hi,_,ba,_⟩:=zq4 yH2;simp[Go.sizeOf,typeInfo,hi,ba]
theorem ym1:(Tryz.prog.info? 80).map (·.size)=some 2:=by
 obtain⟨i0,hi,_,ba,_⟩:=zq4 yH2;rw[hi];simp[ba]
theorem y09(w:zi)(vb g o lb cb:Nat)(xs az:Array Value)(aq:vb≠g)(hv:w.heap[vb]? =some (.cells xs 80 (0,0)))(hg:w.heap[g]? =some (.cells az 80 (0,0)))(hc:az.size≠0):
 (callFunc 196 #[za (some ⟨vb,0,none⟩) 1 1,za (some ⟨g,o,none⟩) lb cb]).run zh w=.ok (.value (.bool false)) w:=by
 rw[run_callFunc_extern Tryz.func196 (by kernel_rfl) (by kernel_rfl) (by kernel_rfl) (e:=Extern.SlicesOverlaps.overlaps #[31,31] #[4]) (by kernel_rfl),
  Lib.run_overlaps_apart w 31 4 80 qS 2 yL7 ⟨vb,0,none⟩ ⟨g,o,none⟩ 1 1 lb cb aq 80 80 xs.size az.size (by unfold World.shape?; rw[hv]) (by unfold World.shape?; rw[hg]) hc (yZ _ _ 0 _ _ hv) (yZ _ _ xs.size _ _ hv)]
 rfl
theorem yL1(g c i vb base n:Nat)(xs ys:List Value)(w:zi)(hx:xs.length=n*2)(hy:ys.length=2)(ci:∀v∈xs,v.oneCell'=true)(cA:∀v∈ys,v.oneCell'=true)(ho:w.ownsRow base 80 2 (za (some ⟨g,0,none⟩) n c) n xs)(hv:w.heap[vb]? =some (.cells ys.toArray 80 (0,0)))(eY:vb≠g)(hi:i<n)(bE:n+1<=c)(hl:n<=1000):
 Calls zh 173 #[za (some ⟨g,0,none⟩) n c,ze zd i,za (some ⟨vb,0,none⟩) 1 1] w fun e w'=>∃df,e=.returned df/\Below base w w'/\w'.ownsRow base 80 2 df (n+1) (zW3 xs (i*2) ys):=by
 obtain⟨aL,⟨h0,_⟩|⟨g',ac,az,h2,dU,aM,jF,iM,aJ,jC⟩⟩:=id ho
 ·cases h0
 simp at h2;obtain⟨rfl,rfl⟩:=h2;have b8:∀j,j<n*2->w.cell? ⟨g,j,none⟩=xs[j]? :=fun j hj=>by
  have h9:xs[j]? =some xs[j]:=zR (by omega);rw[h9];exact(zg8 ho h9).1
 have ld:∀j,j<c*2->(w.cell? ⟨g,j,none⟩).isSome=true:=fun j hj=>by
  rw[zU _ _ _ _ _ _ aM,qW (by omega)];rfl
 have ri:∀j,w.frozen? ⟨g,j,none⟩=false:=fun j=>yZ _ _ j _ _ aM;have mF:∀j,w.cell? ⟨vb,j,none⟩=ys[j]? :=fun j=>by rw[zU _ _ _ _ _ _ hv];simp
 have x_:c<=9223372036854775807:=by unfold maxLen at iM;omega
 have te:=fun o lb cb=>y09 w vb g o lb cb _ az eY hv aM (by omega)
 obtain⟨D,HD⟩:∃D:List Value,Hid (xs.drop (i*2)=D):=⟨_,rfl⟩;have kd:D.length=n*2 - i*2:=by rw[<-HD.X,qj,hx]
 have hD:∀j,D[j]? =xs[i*2+j]? :=fun j=>by rw[<-HD.X,qr]
 have kK:∀v∈D,v.oneCell'=true:=fun v fB=>by
  rw[<-HD.X]at fB;exact ci v (yQ fB)
 have l':Nat.min (n+1 - i) (n - i)=n - i:=by simp only[qY];split<;>omega
 have ni:∀ty dc sc,(zE #[31,31] ty #[za (some ⟨g,(i+1)*2,none⟩) (n - i) dc,za (some ⟨g,i*2,none⟩) (n+1 - i) sc]).run zh w.drew=.ok (goInt ((n - i:Nat):Int)) (w.drew.setCells g ((i+1)*2) D):=fun ty dc sc=>by
  have:=z33 (P:=zh) w.drew 31 31 ty 80 g ((i+1)*2) (n - i) dc ⟨g,i*2,none⟩ (n+1 - i) sc 2 D qS ym1 (by rw[l',kd];omega)
   (fun j v hj=>by
     have nh:j<D.length:=by
      rcases qp j D.length with h|h
      ·exact h
      ·rw[yg h]at hj;cases hj
     rw[qX,<-hj,hD];exact b8 (i*2+j) (by omega))
   (fun j hj=>ld _ (by omega)) (fun j _=>ri _) kK
  rw[l']at this;exact this
 obtain⟨W1,eE⟩:∃W1,W1=w.drew.setCells g ((i+1)*2) D:=⟨_,rfl⟩;have jU:∀k,k<c*2->(W1.cell? ⟨g,k,none⟩).isSome=true:=fun k hk=>by
  rw[eE];exact isSome_setCells g D ((i+1)*2) w.drew (fun j hj=>ld _ (by omega)) k (ld k hk)
 have jx:Nat.min 1 (n+1 - i)=1:=by simp only[qY];split<;>omega
 have sq:∀(W:zi),(∀y,W.cell? y=W1.cell? y)->(∀y,W.frozen? y=W1.frozen? y)->∀ty dc,(zE #[31,31] ty #[za (some ⟨g,i*2,none⟩) (n+1 - i) dc,za (some ⟨vb,0,none⟩) 1 1]).run zh W=.ok (goInt 1) (W.setCells g (i*2) ys):=fun W fu mQ ty dc=>by
  have:=z33 (P:=zh) W 31 31 ty 80 g (i*2) (n+1 - i) dc ⟨vb,0,none⟩ 1 1 2 ys qS ym1 (by rw[jx,hy])
   (fun j v hj=>by
     rw[qX,fu,eE,qU g _ _ _ _ (fun h _=>absurd h eY),<-hj,yb];exact mF j)
   (fun j hj=>by rw[fu];exact jU _ (by omega)) (fun j _=>by rw[mQ,eE,World.frozen?_setCells];exact ri _) cA
  rw[jx]at this;exact this
 have kR:Hid (Below base w (W1.setCells g (i*2) ys)/\(W1.setCells g (i*2) ys).ownsRow base 80 2 (za (some ⟨g,0,none⟩) (n+1) c) (n+1) (zW3 xs (i*2) ys)):=by
  refine⟨?_,?_⟩
  ·rw[eE]
   exact zg7 dU _ _ (zg7 dU _ _ (y5 _ _).drew)
  ·obtain⟨ik,lq,d5⟩:=zj6 g 80 D ((i+1)*2) w.drew az aM
   obtain⟨q_,iJ,gU⟩:=zj6 g 80 ys (i*2) _ ik lq;rw[<-eE]at iJ;refine zu9 iJ (by rw[gU,d5,aJ]) bE iM dU (by rw[zv1 (by omega)];omega) (fun j hj=> ?_);rw[y13 hy (by omega)];by_cases h1:j<i*2
   ·rw[z7 h1,qU g _ _ _ _ (fun _ _=>by simp;omega),eE,qU g _ _ _ _ (fun _ _=>by simp;omega)]
    exact b8 j (by omega)
   ·rw[ye h1]
    by_cases h2:j<i*2+2
    ·rw[z7 h2]
     have:=qV g ys (i*2) W1 (fun j hj=>jU _ (by omega)) (j - i*2) (by omega);rw[show i*2+(j - i*2)=j from by omega]at this;rw[this,zR (by omega)]
    ·rw[ye h2,qU g _ _ _ _ (fun _ _=>by simp;omega),eE]
     have h3:=qV g D ((i+1)*2) w.drew (fun j hj=>ld _ (by omega)) (j - (i+1)*2) (by omega);rw[show(i+1)*2+(j - (i+1)*2)=j from by omega]at h3;rw[h3,<-zR (by omega),hD,show i*2+(j - (i+1)*2)=j - 2 from by omega]
 rw[<-eE]at ni;rw[eE]at kR;have eA:Tryz.prog.follows .mixedOrders=true:=by kernel_rfl
 have bS:¬((i:Int)=(n:Int)):=by omega
 have iU:IntKind.i64.wrap ((i:Int)+1)=(i:Int)+1:=by rw[xu];omega
 have dY:IntKind.i64.wrap ((n:Int)+1)=(n:Int)+1:=by rw[xu];omega
 have fZ:(0:Int)<=(i:Int)+1:=by omega
 have bd:i<=n:=by omega
 have Hz:((i:Int)+1).toNat=i+1:=by omega
 have GO:((n:Int)+1).toNat=n+1:=by omega
 have aC:¬(c=i+1):=by omega
 have cG:(i:Int)<=(n:Int)+1:=by omega
 have lS:¬(c=i):=by omega
 have fs:¬((c:Int)<(n:Int)+1):=by omega
 have ir:(n:Int)+1<=(c:Int):=by omega
 clear ho aL jC b8 ld ri mF jU hD kK aM hv iM aJ jF hx ci cA kd l' jx;go_enter Tryz.func173,Tryz.ntmps173
 go_wp2_with(simp only[te])
 go_region_law (refine step_copy_runI rfl _ _ 31 31 rfl _ _ (by simp[zL,zv]) (by simp[zL,zv]) (ni _ _ _) ?_)
 all_goals
  go_wp2_with(at_builtin;refine wpList_copy_runI _ rfl _ _ 31 31 rfl _ _ rfl rfl (sq _ (fun _=>rfl) (fun _=>rfl) _ _) ?_)
  go_ret;exact⟨_,rfl,kR.X⟩
theorem yL0(g c i vb base n:Nat)(xs ys:List Value)(w:zi)(hx:xs.length=n*2)(hy:ys.length=2)(ci:∀v∈xs,v.oneCell'=true)(cA:∀v∈ys,v.oneCell'=true)(ho:w.ownsRow base 80 2 (za (some ⟨g,0,none⟩) n c) n xs)(dz:base<=w.heap.size)(hv:w.heap[vb]? =some (.cells ys.toArray 80 (0,0)))(hi:i<n)(bE:c<n+1)(hl:n<=1000):
 Calls zh 173 #[za (some ⟨g,0,none⟩) n c,ze zd i,za (some ⟨vb,0,none⟩) 1 1] w fun e w'=>∃df,e=.returned df/\Below base w w'/\w'.ownsRow base 80 2 df (n+1) (zW3 xs (i*2) ys):=by
 obtain⟨aL,⟨h0,_⟩|⟨g',ac,az,h2,dU,aM,jF,iM,aJ,jC⟩⟩:=id ho
 ·cases h0
 simp at h2;obtain⟨rfl,rfl⟩:=h2;have sO:c=n:=by omega
 subst sO;have b8:∀j,j<c*2->w.cell? ⟨g,j,none⟩=xs[j]? :=fun j hj=>by
  have h9:xs[j]? =some xs[j]:=zR (by omega);rw[h9];exact(zg8 ho h9).1
 have mF:∀j,w.cell? ⟨vb,j,none⟩=ys[j]? :=fun j=>by rw[zU _ _ _ _ _ _ hv];simp
 have AH:=za2 aM;have EN:=za2 hv;obtain⟨i0,jp,bO,ba,bS⟩:=zq4 yH2;obtain⟨A,HA⟩:∃A:List Value,Hid (xs.take (i*2)=A):=⟨_,rfl⟩;have cT:A.length=i*2:=by rw[<-HA.X,yh,hx];omega
 have tT:∀j,j<i*2->A[j]? =xs[j]? :=fun j hj=>by rw[<-HA.X,yL,z7 hj]
 obtain⟨D,HD⟩:∃D:List Value,Hid (xs.drop (i*2)=D):=⟨_,rfl⟩;have kd:D.length=c*2 - i*2:=by rw[<-HD.X,qj,hx]
 have hD:∀j,D[j]? =xs[i*2+j]? :=fun j=>by rw[<-HD.X,qr]
 have kK:∀v∈D,v.oneCell'=true:=fun v fB=>by
  rw[<-HD.X]at fB;exact ci v (yQ fB)
 have mZ:(zG i0.size i (za (some ⟨g,0,none⟩) i c)).run zh w.drew=.ok A.toArray w.drew:=by
  rw[ba];exact run_firstCells_some w.drew 2 i ⟨g,0,none⟩ i c A cT (fun j v hj=>by
   have nh:j<i*2:=by
    rcases qp j (i*2)with h|h
    ·exact h
    ·rw[yg (by omega)]at hj;cases hj
   rw[tT j nh]at hj;rw[qX,yb,<-hj];exact b8 j (by omega))
 have om:i+(c+1 - i)=c+1:=by omega
 obtain⟨G,hG⟩:∃G,G=grownCap w (c+1) c 80:=⟨_,rfl⟩;obtain⟨bD,ie⟩:∃bD:Array Value,bD=A.toArray++zB (zO (.agg #[ze zd 0,za none 0 0])) (c+1 - i)++zB (zO (.agg #[ze zd 0,za none 0 0])) (G - (c+1)):=⟨_,rfl⟩;have Ek:∀ty,(zu #[31,3] ty #[za (some ⟨g,0,none⟩) i c,ze zd ((c:Int)+1 - (i:Int))]).run zh w=.ok (za (some ⟨w.heap.size,0,none⟩) (c+1) G) (w.drew.alloc (.cells bD 80)):=fun ty=>by
  have h:=Lib.run_append_grow_zeros w 31 3 ty 80 i0 _ zd zd qS Tryz.underlying3 jp bO (some ⟨g,0,none⟩) i c A mZ (c+1 - i) (by omega) (by omega) (by omega) (by omega) (by rw[bS];omega) (by rw[bS,om];exact growslice_fits bE (by omega));rw[om,<-hG,<-ie]at h;rw[show(c:Int)+1 - (i:Int)=((c+1 - i:Nat):Int)from by omega];exact h
 have Ej:c+1<=G:=by rw[hG];exact grownCap_ge w _ _ _
 have v8:G<=maxLen:=by rw[hG];exact grownCap_le_maxLen w (c+1) c 80 (by unfold maxLen;omega)
 have Em:G<=9223372036854775807:=by unfold maxLen at v8;omega
 have Bd:bD.size=G*2:=by
  rw[ie];have uw:(zO (.agg #[ze zd 0,za none 0 0])).size=2:=by simp[zO]
  rw[Array.size_append,Array.size_append,z13,z13,uw];simp[cT];omega
 obtain⟨W1,eE⟩:∃W1,W1=w.drew.alloc (.cells bD 80):=⟨_,rfl⟩;have mI:W1.heap[w.heap.size]? =some (.cells bD 80 (0,0)):=by rw[eE];exact zS w.drew _
 have hN:∀j,j<G*2->(W1.cell? ⟨w.heap.size,j,none⟩).isSome=true:=fun j hj=>by
  rw[zU _ _ _ _ _ _ mI,qW (by omega)];rfl
 have uE:∀j,W1.frozen? ⟨w.heap.size,j,none⟩=false:=fun j=>yZ _ _ j _ _ mI;have oE:Below w.heap.size w W1:=by rw[eE];exact(y5 _ _).drew.alloc (zT _) _
 have x':∀j,j<i*2->W1.cell? ⟨w.heap.size,j,none⟩=xs[j]? :=fun j hj=>by
  rw[zU _ _ _ _ _ _ mI,ie,Array.append_assoc,Array.getElem?_append_left (by simp;omega)];have h9:=tT j hj;simpa using h9
 have jx:Nat.min 1 (c+1 - i)=1:=by simp only[qY];split<;>omega
 have mM:∀(W:zi),(∀y,W.cell? y=W1.cell? y)->(∀y,W.frozen? y=W1.frozen? y)->∀ty dc,(zE #[31,31] ty #[za (some ⟨w.heap.size,i*2,none⟩) (c+1 - i) dc,za (some ⟨vb,0,none⟩) 1 1]).run zh W=.ok (goInt 1) (W.setCells w.heap.size (i*2) ys):=fun W fu mQ ty dc=>by
  have:=z33 (P:=zh) W 31 31 ty 80 w.heap.size (i*2) (c+1 - i) dc ⟨vb,0,none⟩ 1 1 2 ys qS ym1 (by rw[jx,hy])
   (fun j v hj=>by
     rw[qX,fu,yb,<-hj];exact(oE.cell (p:=⟨vb,j,none⟩) EN).trans (mF j))
   (fun j hj=>by rw[fu];exact hN _ (by omega)) (fun j _=>by rw[mQ];exact uE _) cA
  rw[jx]at this;exact this
 obtain⟨W2,jz⟩:∃W2,W2=W1.setCells w.heap.size (i*2) ys:=⟨_,rfl⟩;have tz:∀j,j<G*2->(W2.cell? ⟨w.heap.size,j,none⟩).isSome=true:=fun j hj=>by
  rw[jz];exact isSome_setCells w.heap.size ys (i*2) W1 (fun k hk=>hN _ (by omega)) j (hN j hj)
 have l':Nat.min (c - i) (c - i)=c - i:=by simp only[qY];split<;>omega
 have nD:∀(W:zi),(∀y,W.cell? y=W2.cell? y)->(∀y,W.frozen? y=W2.frozen? y)->∀ty dc sc,(zE #[31,31] ty #[za (some ⟨w.heap.size,(i+1)*2,none⟩) (c - i) dc,za (some ⟨g,i*2,none⟩) (c - i) sc]).run zh W=.ok (goInt ((c - i:Nat):Int)) (W.setCells w.heap.size ((i+1)*2) D):=fun W fu mQ ty dc sc=>by
  have:=z33 (P:=zh) W 31 31 ty 80 w.heap.size ((i+1)*2) (c - i) dc ⟨g,i*2,none⟩ (c - i) sc 2 D qS ym1 (by rw[l',kd];omega)
   (fun j v hj=>by
     have nh:j<D.length:=by
      rcases qp j D.length with h|h
      ·exact h
      ·rw[yg h]at hj;cases hj
     rw[qX,fu,jz,qU _ _ _ _ _ (fun h _=>absurd h (by show g≠_;omega)),<-hj,hD];exact(oE.cell (p:=⟨g,i*2+j,none⟩) AH).trans (b8 (i*2+j) (by omega)))
   (fun j hj=>by rw[fu];exact tz _ (by omega)) (fun j _=>by rw[mQ,jz,World.frozen?_setCells];exact uE _) kK
  rw[l']at this;exact this
 have kR:Hid (∀W:zi,(∀y,W.cell? y=W2.cell? y)->W.heap=W2.heap->Below base w W->Below base w (W.setCells w.heap.size ((i+1)*2) D)/\(W.setCells w.heap.size ((i+1)*2) D).ownsRow base 80 2 (za (some ⟨w.heap.size,0,none⟩) (c+1) G) (c+1) (zW3 xs (i*2) ys)):=fun W fu Hq Fy=>by
  refine⟨zg7 dz _ _ Fy,?_⟩;obtain⟨ik,lq,d5⟩:=zj6 w.heap.size 80 ys (i*2) W1 bD mI;rw[<-jz,<-Hq]at lq;obtain⟨q_,iJ,gU⟩:=zj6 w.heap.size 80 D ((i+1)*2) W ik lq;refine zu9 iJ (by rw[gU,d5,Bd]) Ej v8 dz (by rw[zv1 (by omega)];omega) (fun j hj=> ?_);rw[y13 hy (by omega)];by_cases h1:j<i*2
  ·rw[z7 h1,qU _ _ _ _ _ (fun _ _=>by simp;omega),fu,jz,qU _ _ _ _ _ (fun _ _=>by simp;omega)]
   exact x' j (by omega)
  ·rw[ye h1]
   by_cases h2:j<i*2+2
   ·rw[z7 h2,qU _ _ _ _ _ (fun _ _=>by simp;omega),fu,jz]
    have:=qV w.heap.size ys (i*2) W1 (fun j hj=>hN _ (by omega)) (j - i*2) (by omega);rw[show i*2+(j - i*2)=j from by omega]at this;rw[this,zR (by omega)]
   ·rw[ye h2]
    have h3:=qV w.heap.size D ((i+1)*2) W (fun j hj=>by rw[fu];exact tz _ (by omega)) (j - (i+1)*2) (by omega);rw[show(i+1)*2+(j - (i+1)*2)=j from by omega]at h3;rw[h3,<-zR (by omega),hD,show i*2+(j - (i+1)*2)=j - 2 from by omega]
 have eA:Tryz.prog.follows .mixedOrders=true:=by kernel_rfl
 have oT:¬((i:Int)=(c:Int)):=by omega
 have iU:IntKind.i64.wrap ((i:Int)+1)=(i:Int)+1:=by rw[xu];omega
 have dY:IntKind.i64.wrap ((c:Int)+1)=(c:Int)+1:=by rw[xu];omega
 have oI:IntKind.i64.wrap ((c:Int)+1 - (i:Int))=(c:Int)+1 - (i:Int):=by rw[xu];omega
 have fZ:(0:Int)<=(i:Int)+1:=by omega
 have bd:i<=c:=by omega
 have Hz:((i:Int)+1).toNat=i+1:=by omega
 have cG:(i:Int)<=(c:Int)+1:=by omega
 have fs:(c:Int)<(c:Int)+1:=by omega
 have vJ:¬(G=i):=by omega
 have Eg:¬(G=i+1):=by omega
 have Pv:¬(c=i):=by omega
 clear ho aL jC b8 mF hD kK aM hv iM aJ jF tT cT mZ om ie hG Bd hN uE mI x' tz oE jp bO ba bS kd hx ci cA l' jx;subst eE;subst jz;have wR:∀y,((w.alloc (.cells bD 80)).drew).cell? y=(w.drew.alloc (.cells bD 80)).cell? y:=fun _=>rfl;have BO:∀y,((w.alloc (.cells bD 80)).drew).frozen? y=(w.drew.alloc (.cells bD 80)).frozen? y:=fun _=>rfl;have ur:∀y,(((w.alloc (.cells bD 80)).drew.setCells w.heap.size (i*2) ys).drew).cell? y=((w.drew.alloc (.cells bD 80)).setCells w.heap.size (i*2) ys).cell? y:=fun y=>(z09 w.heap.size ys (i*2) (w.alloc (.cells bD 80)) y).1;have vZ:∀y,(((w.alloc (.cells bD 80)).drew.setCells w.heap.size (i*2) ys).drew).frozen? y=((w.drew.alloc (.cells bD 80)).setCells w.heap.size (i*2) ys).frozen? y:=fun y=>(z09 w.heap.size ys (i*2) (w.alloc (.cells bD 80)) y).2;have uC:Hid (Below base w ((((w.alloc (.cells bD 80)).drew.setCells w.heap.size (i*2) ys).drew).setCells w.heap.size ((i+1)*2) D)/\((((w.alloc (.cells bD 80)).drew.setCells w.heap.size (i*2) ys).drew).setCells w.heap.size ((i+1)*2) D).ownsRow base 80 2 (za (some ⟨w.heap.size,0,none⟩) (c+1) G) (c+1) (zW3 xs (i*2) ys)):=
  kR.X _ ur (z04 w.heap.size ys (i*2) _ _ rfl) (zg7 dz _ _ ((y5 _ _).alloc dz _).drew).drew
 have Ik:=fun ty dc=>mM _ wR BO ty dc;have bT:=fun ty dc sc=>nD _ ur vZ ty dc sc;clear mM nD kR wR BO ur vZ;go_enter Tryz.func173,Tryz.ntmps173
 go_wp2_with(first
  |(at_builtin;refine Lib.wpList_append_run _ rfl _ _ _ _ rfl _ _ rfl rfl _ _ (Ek _) ?_)
  |(at_builtin;refine wpList_copy_runI _ rfl _ _ 31 31 rfl _ _ rfl rfl (Ik _ _) ?_))
 go_region_law (refine step_copy_runI rfl _ _ 31 31 rfl _ _ (by simp[zL,zv]) (by simp[zL,zv]) (bT _ _ _) ?_)
 all_goals
  go_wp2;go_ret;exact⟨_,rfl,uC.X⟩
theorem yM8(sl:Value)(vb base n:Nat)(xs ys:List Value)(w:zi)(hx:xs.length=n*2)(hy:ys.length=2)(cA:∀v∈ys,v.oneCell'=true)(ho:w.ownsRow base 80 2 sl n xs)(dz:base<=w.heap.size)(hv:w.heap[vb]? =some (.cells ys.toArray 80 (0,0)))(hl:n<=1000):
 Calls zh 173 #[sl,ze zd n,za (some ⟨vb,0,none⟩) 1 1] w fun e w'=>∃df,e=.returned df/\Below base w w'/\w'.ownsRow base 80 2 df (n+1) (zW3 xs (n*2) ys):=by
 have HO:=za4 ho;have HV:Hid (∀j u,ys[j]? =some u->w.cell? ⟨vb,0+j,none⟩=some u):=fun j u hj=>by rw[zU _ _ _ _ _ _ hv,yb];simpa using hj
 rw[y87 hx];rcases own_kinds ho with⟨rfl,h0⟩|⟨g,c,rfl,-,-⟩
 ·subst h0
  clear ho hv;go_enter Tryz.func173,Tryz.ntmps173
  go_wp2_with(
   at_builtin;refine zk9 qS yH2 rfl (by omega) _ rfl _ _ rfl base _ 0 xs rfl HO.X vb 0 1 1 ys rfl (by omega) HV.X cA (by omega) (by omega) dz ?_;intro v' w4 ae hg jT aW;have O4:=za4 ae;have B4:Hid _:=(y5 _ _).grown hg dz (fun k e=>(HO.lt k e).1);clear ae hg aW jT)
  go_ret;exact⟨_,rfl,B4.X,O4.X⟩
 ·have jF:n<=c/\c<=9223372036854775807:=by
   obtain⟨_,⟨h1,_⟩|⟨g',ac,az,h3,_,_,h4,h5,_⟩⟩:=ho
   ·cases h1
   ·simp at h3
    obtain⟨rfl,rfl⟩:=h3;unfold maxLen at h5;omega
  obtain⟨Hu,Hv⟩:=jF;have bd:n<=n:=zT _;clear ho hv;by_cases sO:c=n
  ·subst sO
   go_enter Tryz.func173,Tryz.ntmps173
   go_wp2_with(
    at_builtin;refine zk9 qS yH2 rfl (by omega) _ rfl _ _ rfl base _ c xs rfl HO.X vb 0 1 1 ys rfl (by omega) HV.X cA (by omega) (by omega) dz ?_;intro v' w4 ae hg jT aW;have O4:=za4 ae;have B4:Hid _:=(y5 _ _).grown hg dz (fun k e=>(HO.lt k e).1);clear ae hg aW jT)
   go_ret;exact⟨_,rfl,B4.X,O4.X⟩
  ·go_enter Tryz.func173,Tryz.ntmps173
   go_wp2_with(
    at_builtin;refine zk9 qS yH2 rfl (by omega) _ rfl _ _ rfl base _ n xs rfl HO.X vb 0 1 1 ys rfl (by omega) HV.X cA (by omega) (by omega) dz ?_;intro v' w4 ae hg jT aW;have O4:=za4 ae;have B4:Hid _:=(y5 _ _).grown hg dz (fun k e=>(HO.lt k e).1);clear ae hg aW jT)
   go_ret;exact⟨_,rfl,B4.X,O4.X⟩
theorem yt2(sl:Value)(i vb base n:Nat)(xs ys:List Value)(w:zi)(hx:xs.length=n*2)(hy:ys.length=2)(ci:∀v∈xs,v.oneCell'=true)(cA:∀v∈ys,v.oneCell'=true)(ho:w.ownsRow base 80 2 sl n xs)(dz:base<=w.heap.size)(hv:w.heap[vb]? =some (.cells ys.toArray 80 (0,0)))(eY:sl.ownBlock≠some vb)(hi:i<=n)(hl:n<=1000):
 Calls zh 173 #[sl,ze zd i,za (some ⟨vb,0,none⟩) 1 1] w fun e w'=>∃df,e=.returned df/\Below base w w'/\w'.ownsRow base 80 2 df (n+1) (zW3 xs (i*2) ys):=by
 by_cases he:i=n
 ·subst he
  exact yM8 sl vb base i xs ys w hx hy cA ho dz hv hl
 ·rcases own_kinds ho with⟨rfl,h0⟩|⟨g,c,rfl,-,-⟩
  ·omega
  ·have Oy:vb≠g:=fun e=>eY (by rw[e];rfl)
   by_cases hr:n+1<=c
   ·exact yL1 g c i vb base n xs ys w hx hy ci cA ho hv Oy (by omega) hr hl
   ·exact yL0 g c i vb base n xs ys w hx hy ci cA ho dz hv (by omega) (by omega) hl
