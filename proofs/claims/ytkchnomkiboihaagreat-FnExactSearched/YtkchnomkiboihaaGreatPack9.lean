import Derived.Test.YtkchnomkiboihaaGreatPack5
import Derived.Shelf.Spec.SlicesInsert
import Derived.Lib.AppendZerosOnto
set_option linter.unusedSimpArgs false
set_option maxHeartbeats 4000000
set_option maxRecDepth 100000
namespace Go.Proofs.YtkchnomkiboihaaGreat
theorem ql:type_of% @Go.Proofs.Tryz.underlying31:=@Go.Proofs.Tryz.underlying31
theorem qm:type_of% @Go.World.cell?_setCells_out:=@Go.World.cell?_setCells_out
theorem qn:type_of% @List.length_map:=@List.length_map
theorem qo:type_of% @Go.World.cell?_setCells_in:=@Go.World.cell?_setCells_in
theorem qp:type_of% @Array.getElem?_eq_getElem:=@Array.getElem?_eq_getElem
theorem qr:type_of% @Go.Addr.add_lit:=@Go.Addr.add_lit
theorem qt:type_of% @Nat.mul_one:=@Nat.mul_one
theorem qu:type_of% @Nat.min_def:=@Nat.min_def
open Value renaming slice→za,int→zc,cells→zD
open IntKind renaming i64→zb
open Obj renaming cells→zd
open Proofs.Tryz renaming prog→ze
open Go renaming World→zg
open Act renaming put→zi
open Region renaming wanted→zq
open Builtin renaming append_→zt,zeroCells→zA,copy_→zC,firstCells→zF
open Go.RowKit Go.Lib
open Q
theorem zo8(g:Nat)(T:TypeId):∀(vs:List Value) (o:Nat) (w:zg) (cur:Array Value),w.heap[g]? =some (.cells cur T (0,0))->∃cur',(w.setCells g o vs).heap[g]? =some (.cells cur' T (0,0))/\cur'.size=cur.size
 |[],_,_,cur,h=>⟨cur,h,rfl⟩
 |v::r,o,w,cur,h=>by
  obtain⟨cur',h1,h2⟩:=zo8 g T r (o+1) (w.setCell ⟨g,o,none⟩ v) _ (zP w g o cur T v h);exact⟨cur',h1,by rw[h2,Array.size_setIfInBounds]⟩
theorem zl1{base g:Nat}(hb:base<=g):∀(vs:List Value) (o:Nat) {w w':zg},Below base w w'->Below base w (w'.setCells g o vs)
 |[],_,_,_,h=>h
 |_::r,o,_,_,h=>zl1 hb r (o+1) (h.setCell hb _)
theorem zA8{W:zg}{base g cap n:Nat}{cur:Array Value}{xs:List Int}(hr:W.heap[g]? =some (.cells cur 2 (0,0)))(hsz:cur.size=cap)(hn:n<=cap)(hm:cap<=maxLen)(hb:base<=g)(hx:xs.length=n)(hc:∀j,j<n->W.cell? ⟨g,j,none⟩=some (zc zb (xs.getD j 0))):W.ownsRow base 2 1 (za (some ⟨g,0,none⟩) n cap) n (xs.map (zc zb)):=by
 refine⟨by rw[qn,hx,qt],.inr ⟨g,cap,cur,rfl,hb,hr,hn,hm,by rw[hsz,qt],?_⟩⟩;apply List.ext_getElem?;intro j;rw[yq,qt];by_cases hj:j<n
 ·have h1:=hc j hj
  rw[zR _ _ _ _ _ _ hr]at h1;rw[zV hj,Array.getElem?_toList,h1,ye,zM,zO (by omega)];rfl
 ·rw[zW hj,yb (by rw[qn];omega)]
theorem yy6{ids:List Int}{i j:Nat}(id:Int)(hi:i<=ids.length):(insL ids i id).getD j 0=if j<i then ids.getD j 0 else if j=i then id else ids.getD (j - 1) 0:=by
 unfold insL;simp only[zM];by_cases h1:j<i
 ·rw[zV h1,yL (by rw[zZ];omega),yq,zV h1]
 ·rw[zW h1,yw (by rw[zZ];omega),zZ,Nat.min_eq_left hi]
  by_cases h2:j=i
  ·rw[zV h2,h2,yF]
   rfl
  ·rw[zW h2,show j - i=(j - 1 - i)+1 from by omega,List.getElem?_cons_succ,x6,show i+(j - 1 - i)=j - 1 from by omega]
theorem yE4(w:zg):(Go.sizeOf 2).run ze w=.ok 1 w:=by
 obtain⟨i0,hi,_,hz1,_⟩:=qe Tryz.info2;simp[Go.sizeOf,typeInfo,hi,hz1]
theorem zC7:(Tryz.prog.info? 2).map (·.size)=some 1:=by
 obtain⟨i0,hi,_,hz1,_⟩:=qe Tryz.info2;rw[hi];simp[hz1]
theorem yc1(w:zg)(vb g o lb cb:Nat)(x:Value)(cur:Array Value)(hne:vb≠g)(hv:w.heap[vb]? =some (zd #[x] 2 (0,0)))(hg:w.heap[g]? =some (.cells cur 2 (0,0)))(hc:cur.size≠0):
 (callFunc 176 #[za (some ⟨vb,0,none⟩) 1 1,za (some ⟨g,o,none⟩) lb cb]).run ze w=.ok (.value (.bool false)) w:=by
 rw[run_callFunc_extern Tryz.func176 (by kernel_rfl) (by kernel_rfl) (by kernel_rfl) (e:=Extern.SlicesOverlaps.overlaps #[24,24] #[4]) (by kernel_rfl),
  Lib.run_overlaps_apart w 24 4 2 xi 1 yE4 ⟨vb,0,none⟩ ⟨g,o,none⟩ 1 1 lb cb hne 2 2 1 cur.size (by unfold World.shape?; rw[hv];rfl) (by unfold World.shape?; rw[hg]) hc (yU _ _ 0 _ _ hv) (yU _ _ 1 _ _ hv)]
 rfl
theorem yc7(g c i vb base n:Nat)(x:Int)(ids:List Int)(w:zg)(hn:ids.length=n)(ho:w.ownsRow base 2 1 (za (some ⟨g,0,none⟩) n c) n (ids.map (zc zb)))(hv:w.heap[vb]? =some (zd #[zc zb x] 2 (0,0)))(hvb:vb≠g)(hi:i<n)(hroom:n+1<=c)(hl:n<=1000):
 Calls ze 147 #[za (some ⟨g,0,none⟩) n c,zc zb i,za (some ⟨vb,0,none⟩) 1 1] w fun e w'=>∃sl',e=.returned sl'/\Below base w w'/\w'.ownsRow base 2 1 sl' (n+1) ((insL ids i x).map (zc zb)):=by
 obtain⟨hlen,⟨h0,_⟩|⟨g',cap,cur,h2,hbg,hrow,hnc,hcm,hcs,htk⟩⟩:=id ho
 ·cases h0
 simp at h2;obtain⟨rfl,rfl⟩:=h2;rw[qt]at hcs;have hcell:∀j,j<n->w.cell? ⟨g,j,none⟩=some (zc zb (ids.getD j 0)):=fun j hj=>by
  obtain⟨_,_,e,h⟩:=ze9 ho j (by omega);simp at e;obtain⟨rfl,rfl⟩:=e;rw[z6]at h;exact h
 have hsp:∀j,j<c->(w.cell? ⟨g,j,none⟩).isSome=true:=fun j hj=>by
  rw[zR _ _ _ _ _ _ hrow,qp (by omega)];rfl
 have hfz:∀j,w.frozen? ⟨g,j,none⟩=false:=fun j=>yU _ _ j _ _ hrow;have hvs:w.cell? ⟨vb,0,none⟩=some (zc zb x):=by rw[zR _ _ _ _ _ _ hv];rfl
 have hc63:c<=9223372036854775807:=by unfold maxLen at hcm;omega
 have hov:=fun lb cb=>yc1 w vb g (i+1) lb cb _ cur hvb hv hrow (by omega)
 obtain⟨D,HD⟩:∃D:List Value,Hid ((ids.map (zc zb)).drop i=D):=⟨_,rfl⟩;have hdl:D.length=n - i:=by rw[<-HD.X,x7,qn,hn]
 have hD:∀j,j<n - i->D[j]? =some (zc zb (ids.getD (i+j) 0)):=fun j hj=>by
  rw[<-HD.X,x6,ye,zM,zO (by omega)];rfl
 have hD1:∀v∈D,v.oneCell'=true:=fun v hv9=>by
  rw[<-HD.X]at hv9;obtain⟨y,_,rfl⟩:=yy.1 (yI hv9);rfl
 have hcp1:∀ty dc sc,(zC #[24,24] ty #[za (some ⟨g,i+1,none⟩) (n - i) dc,za (some ⟨g,i,none⟩) (n+1 - i) sc]).run ze w.drew=.ok (goInt D.length) (w.drew.setCells g (i+1) D):=fun ty dc sc=>
  run_copy_cells w.drew _ _ ty 2 g (i+1) (n - i) dc ⟨g,i,none⟩ (n+1 - i) sc D xi zC7 (by rw[hdl];simp only[qu];split<;>omega)
   (fun j v hj=>by
     have hj9:j<n - i:=by
      rcases qc j (n - i)with h|h
      ·exact h
      ·rw[yb (by omega)]at hj;cases hj
     rw[hD j hj9]at hj;cases hj;rw[qr];exact hcell (i+j) (by omega))
   (fun j hj=>hsp _ (by omega)) (fun j _=>hfz _) hD1
 obtain⟨W1,hW1⟩:∃W1,W1=w.drew.setCells g (i+1) D:=⟨_,rfl⟩;have hsp1:∀k,k<c->(W1.cell? ⟨g,k,none⟩).isSome=true:=fun k hk=>by
  rw[hW1];exact isSome_setCells g D (i+1) w.drew (fun j hj=>hsp _ (by omega)) k (hsp k hk)
 have hcp2:∀(W:zg),(∀y,W.cell? y=W1.cell? y)->(∀y,W.frozen? y=W1.frozen? y)->∀ty dc,(zC #[24,24] ty #[za (some ⟨g,i,none⟩) (n+1 - i) dc,za (some ⟨vb,0,none⟩) 1 1]).run ze W=.ok (goInt 1) (W.setCells g i [zc zb x]):=fun W hWc hWf ty dc=>
  run_copy_cells W _ _ ty 2 g i (n+1 - i) dc ⟨vb,0,none⟩ 1 1 [zc zb x] xi zC7 (by simp only[qu,yg,List.length_nil];split<;>omega)
   (fun j v hj=>by
     cases j with
     |zero=>
      simp at hj;subst hj;rw[qr,hWc,hW1,qm g _ _ _ _ (fun h _=>absurd h hvb)];exact hvs
     |succ j=>simp at hj)
   (fun j hj=>by rw[hWc];exact hsp1 _ (by simp at hj;omega)) (fun j _=>by rw[hWf,hW1,World.frozen?_setCells];exact hfz _) (fun v hv9=>by simp at hv9;subst hv9;rfl)
 have FIN:Hid (Below base w (W1.setCells g i [zc zb x])/\(W1.setCells g i [zc zb x]).ownsRow base 2 1 (za (some ⟨g,0,none⟩) (n+1) c) (n+1) ((insL ids i x).map (zc zb))):=by
  refine⟨?_,?_⟩
  ·rw[hW1]
   exact zl1 hbg _ _ (zl1 hbg _ _ (yV _ _).drew)
  ·obtain⟨cur1,hr1,hs1⟩:=zo8 g 2 D (i+1) w.drew cur hrow
   obtain⟨cur2,hr2,hs2⟩:=zo8 g 2 [zc zb x] i _ cur1 hr1;rw[<-hW1]at hr2;refine zA8 hr2 (by rw[hs2,hs1,hcs]) hroom hcm hbg (by rw[zr4 _ (by omega),hn]) (fun j hj=> ?_);rw[yy6 x (by omega)];by_cases h1:j=i
   ·rw[zW (by omega),zV h1,h1]
    have:=qo g [zc zb x] i W1 (fun j hj=>hsp1 _ (by simp at hj;omega)) 0 (by simp);simpa using this
   ·rw[qm g _ _ _ _ (fun _ _=>by simp;omega),hW1]
    by_cases h2:j<i
    ·rw[zV h2,qm g _ _ _ _ (fun _ _=>by simp;omega)]
     exact hcell j (by omega)
    ·rw[zW h2,zW h1]
     have h3:=qo g D (i+1) w.drew (fun j hj=>hsp _ (by omega)) (j - (i+1)) (by omega);rw[show i+1+(j - (i+1))=j from by omega]at h3;rw[h3];have h4:=hD (j - (i+1)) (by omega);rw[zO (by omega)]at h4;rw[h4,show i+(j - (i+1))=j - 1 from by omega]
 rw[<-hW1]at hcp1;rw[hW1]at FIN;have mixed:Tryz.prog.follows .mixedOrders=true:=by kernel_rfl
 have hz2:¬((i:Int)=(n:Int)):=by omega
 have hw1:IntKind.i64.wrap ((i:Int)+1)=(i:Int)+1:=by rw[xk];omega
 have hw2:IntKind.i64.wrap ((n:Int)+1)=(n:Int)+1:=by rw[xk];omega
 have hb1:(0:Int)<=(i:Int)+1:=by omega
 have hin:i<=n:=by omega
 have htn:((i:Int)+1).toNat=i+1:=by omega
 have htn2:((n:Int)+1).toNat=n+1:=by omega
 have hb2:¬(c=i+1):=by omega
 have hb3:(i:Int)<=(n:Int)+1:=by omega
 have hb4:¬(c=i):=by omega
 have hb5:¬((c:Int)<(n:Int)+1):=by omega
 have hb6:(n:Int)+1<=(c:Int):=by omega
 clear ho hlen htk hcell hsp hfz hvs hsp1 hD hD1 hrow hv hcm hcs hnc;go_enter Tryz.func147,Tryz.ntmps147
 go_wp2_with(simp only[hov])
 go_region_law (refine step_copy_runI rfl _ _ 24 24 rfl _ _ (by simp[Act.eval,zi]) (by simp[Act.eval,zi]) (hcp1 _ _ _) ?_)
 all_goals
  go_wp2_with(at_builtin;refine wpList_copy_runI _ rfl _ _ 24 24 rfl _ _ rfl rfl (hcp2 _ (fun _=>rfl) (fun _=>rfl) _ _) ?_)
  go_ret;exact⟨_,rfl,FIN.X⟩
theorem yi1(g c i vb base n:Nat)(x:Int)(ids:List Int)(w:zg)(hn:ids.length=n)(ho:w.ownsRow base 2 1 (za (some ⟨g,0,none⟩) n c) n (ids.map (zc zb)))(hbw:base<=w.heap.size)(hv:w.heap[vb]? =some (zd #[zc zb x] 2 (0,0)))(hi:i<n)(hroom:c<n+1)(hl:n<=1000):
 Calls ze 147 #[za (some ⟨g,0,none⟩) n c,zc zb i,za (some ⟨vb,0,none⟩) 1 1] w fun e w'=>∃sl',e=.returned sl'/\Below base w w'/\w'.ownsRow base 2 1 sl' (n+1) ((insL ids i x).map (zc zb)):=by
 obtain⟨hlen,⟨h0,_⟩|⟨g',cap,cur,h2,hbg,hrow,hnc,hcm,hcs,htk⟩⟩:=id ho
 ·cases h0
 simp at h2;obtain⟨rfl,rfl⟩:=h2;have hcn:c=n:=by omega
 subst hcn;rw[qt]at hcs;have hcell:∀j,j<c->w.cell? ⟨g,j,none⟩=some (zc zb (ids.getD j 0)):=fun j hj=>by
  obtain⟨_,_,e,h⟩:=ze9 ho j (by omega);simp at e;obtain⟨rfl,rfl⟩:=e;rw[z6]at h;exact h
 have hvs:w.cell? ⟨vb,0,none⟩=some (zc zb x):=by rw[zR _ _ _ _ _ _ hv];rfl
 have hgw:=za2 hrow;have hvw:=za2 hv;obtain⟨i0,hi0,hz0,hz1,hz2⟩:=qe Tryz.info2;obtain⟨A,HA⟩:∃A:List Value,Hid ((ids.map (zc zb)).take i=A):=⟨_,rfl⟩;have hal:A.length=i:=by rw[<-HA.X,zZ,qn,hn];omega
 have hAj:∀j,j<i->A[j]? =some (zc zb (ids.getD j 0)):=fun j hj=>by
  rw[<-HA.X,yq,zV hj,ye,zM,zO (by omega)];rfl
 obtain⟨D,HD⟩:∃D:List Value,Hid ((ids.map (zc zb)).drop i=D):=⟨_,rfl⟩;have hdl:D.length=c - i:=by rw[<-HD.X,x7,qn,hn]
 have hD:∀j,j<c - i->D[j]? =some (zc zb (ids.getD (i+j) 0)):=fun j hj=>by
  rw[<-HD.X,x6,ye,zM,zO (by omega)];rfl
 have hD1:∀v∈D,v.oneCell'=true:=fun v hv9=>by
  rw[<-HD.X]at hv9;obtain⟨y,_,rfl⟩:=yy.1 (yI hv9);rfl
 have hold:(zF i0.size i (za (some ⟨g,0,none⟩) i c)).run ze w.drew=.ok A.toArray w.drew:=by
  rw[hz1];exact run_firstCells_some w.drew 1 i ⟨g,0,none⟩ i c A (by omega) (fun j v hj=>by
   have hj9:j<i:=by
    rcases qc j i with h|h
    ·exact h
    ·rw[yb (by omega)]at hj;cases hj
   rw[hAj j hj9]at hj;cases hj;rw[qr,z6];exact hcell j (by omega))
 have hik:i+(c+1 - i)=c+1:=by omega
 obtain⟨G,hG⟩:∃G,G=grownCap w (c+1) c 2:=⟨_,rfl⟩;obtain⟨ROW,hROW⟩:∃ROW:Array Value,ROW=A.toArray++zA (zc zb 0).cells (c+1 - i)++zA (zc zb 0).cells (G - (c+1)):=⟨_,rfl⟩;have hrz:∀ty,(zt #[24,3] ty #[za (some ⟨g,0,none⟩) i c,zc zb ((c:Int)+1 - (i:Int))]).run ze w=.ok (za (some ⟨w.heap.size,0,none⟩) (c+1) G) (w.drew.alloc (.cells ROW 2)):=fun ty=>by
  have h:=Lib.run_append_grow_zeros w 24 3 ty 2 i0 _ zb zb xi Tryz.underlying3 hi0 hz0 (some ⟨g,0,none⟩) i c A hold (c+1 - i) (by omega) (by omega) (by omega) (by omega) (by rw[hz2];omega) (by rw[hz2,hik];exact growslice_fits hroom (by omega));rw[hik,<-hG,<-hROW]at h;rw[show(c:Int)+1 - (i:Int)=((c+1 - i:Nat):Int)from by omega];exact h
 have hGn:c+1<=G:=by rw[hG];exact grownCap_ge w _ _ _
 have hGm:G<=maxLen:=by rw[hG];exact grownCap_le_maxLen w (c+1) c 2 (by unfold maxLen;omega)
 have hG63:G<=9223372036854775807:=by unfold maxLen at hGm;omega
 have hRl:ROW.size=G:=by
  rw[hROW];simp[zA,zD,hal];omega
 obtain⟨W1,hW1⟩:∃W1,W1=w.drew.alloc (.cells ROW 2):=⟨_,rfl⟩;have hN0:W1.heap[w.heap.size]? =some (.cells ROW 2 (0,0)):=by rw[hW1];exact zN w.drew _
 have hN:∀j,j<G->(W1.cell? ⟨w.heap.size,j,none⟩).isSome=true:=fun j hj=>by
  rw[zR _ _ _ _ _ _ hN0,qp (by omega)];rfl
 have hNf:∀j,W1.frozen? ⟨w.heap.size,j,none⟩=false:=fun j=>yU _ _ j _ _ hN0;have hB1:Below w.heap.size w W1:=by rw[hW1];exact(yV _ _).drew.alloc (zQ _) _
 have hA1:∀j,j<i->W1.cell? ⟨w.heap.size,j,none⟩=some (zc zb (ids.getD j 0)):=fun j hj=>by
  rw[zR _ _ _ _ _ _ hN0,hROW,Array.append_assoc,Array.getElem?_append_left (by simp;omega)];have h9:=hAj j hj;simpa using h9
 have hcpA:∀(W:zg),(∀y,W.cell? y=W1.cell? y)->(∀y,W.frozen? y=W1.frozen? y)->∀ty dc,(zC #[24,24] ty #[za (some ⟨w.heap.size,i,none⟩) (c+1 - i) dc,za (some ⟨vb,0,none⟩) 1 1]).run ze W=.ok (goInt 1) (W.setCells w.heap.size i [zc zb x]):=fun W hWc hWf ty dc=>
  run_copy_cells W _ _ ty 2 w.heap.size i (c+1 - i) dc ⟨vb,0,none⟩ 1 1 [zc zb x] xi zC7 (by simp only[qu,yg,List.length_nil];split<;>omega)
   (fun j v hj=>by
     cases j with
     |zero=>
      simp at hj;subst hj;rw[qr,hWc];exact(hB1.cell (p:=⟨vb,0,none⟩) hvw).trans hvs
     |succ j=>simp at hj)
   (fun j hj=>by rw[hWc];exact hN _ (by simp at hj;omega)) (fun j _=>by rw[hWf];exact hNf _) (fun v hv9=>by simp at hv9;subst hv9;rfl)
 obtain⟨W2,hW2⟩:∃W2,W2=W1.setCells w.heap.size i [zc zb x]:=⟨_,rfl⟩;have hN2:∀j,j<G->(W2.cell? ⟨w.heap.size,j,none⟩).isSome=true:=fun j hj=>by
  rw[hW2];exact isSome_setCells w.heap.size [zc zb x] i W1 (fun k hk=>hN _ (by simp at hk;omega)) j (hN j hj)
 have hcpB:∀(W:zg),(∀y,W.cell? y=W2.cell? y)->(∀y,W.frozen? y=W2.frozen? y)->∀ty dc sc,(zC #[24,24] ty #[za (some ⟨w.heap.size,i+1,none⟩) (c - i) dc,za (some ⟨g,i,none⟩) (c - i) sc]).run ze W=.ok (goInt D.length) (W.setCells w.heap.size (i+1) D):=fun W hWc hWf ty dc sc=>
  run_copy_cells W _ _ ty 2 w.heap.size (i+1) (c - i) dc ⟨g,i,none⟩ (c - i) sc D xi zC7 (by rw[hdl];simp only[qu];split<;>omega)
   (fun j v hj=>by
     have hj9:j<c - i:=by
      rcases qc j (c - i)with h|h
      ·exact h
      ·rw[yb (by omega)]at hj;cases hj
     rw[hD j hj9]at hj;cases hj;rw[qr,hWc,hW2,qm _ _ _ _ _ (fun h _=>absurd h (by show g≠_;omega))];exact(hB1.cell (p:=⟨g,i+j,none⟩) hgw).trans (hcell (i+j) (by omega)))
   (fun j hj=>by rw[hWc];exact hN2 _ (by omega)) (fun j _=>by rw[hWf,hW2,World.frozen?_setCells];exact hNf _) hD1
 have FIN:Hid (∀W:zg,(∀y,W.cell? y=W2.cell? y)->W.heap=W2.heap->Below base w W->Below base w (W.setCells w.heap.size (i+1) D)/\(W.setCells w.heap.size (i+1) D).ownsRow base 2 1 (za (some ⟨w.heap.size,0,none⟩) (c+1) G) (c+1) ((insL ids i x).map (zc zb))):=fun W hWc hWh hWb=>by
  refine⟨zl1 hbw _ _ hWb,?_⟩;obtain⟨cur1,hr1,hs1⟩:=zo8 w.heap.size 2 [zc zb x] i W1 ROW hN0;rw[<-hW2,<-hWh]at hr1;obtain⟨cur2,hr2,hs2⟩:=zo8 w.heap.size 2 D (i+1) W cur1 hr1;refine zA8 hr2 (by rw[hs2,hs1,hRl]) hGn hGm hbw (by rw[zr4 _ (by omega),hn]) (fun j hj=> ?_);rw[yy6 x (by omega)];by_cases h2:j<=i
  ·rw[qm _ _ _ _ _ (fun _ _=>by simp;omega),hWc,hW2]
   by_cases h1:j=i
   ·rw[zW (by omega),zV h1,h1]
    have:=qo w.heap.size [zc zb x] i W1 (fun j hj=>hN _ (by simp at hj;omega)) 0 (by simp);simpa using this
   ·rw[zV (by omega),qm _ _ _ _ _ (fun _ _=>by simp;omega)]
    exact hA1 j (by omega)
  ·rw[zW (by omega),zW (by omega)]
   have h3:=qo w.heap.size D (i+1) W (fun j hj=>by rw[hWc];exact hN2 _ (by omega)) (j - (i+1)) (by omega);rw[show i+1+(j - (i+1))=j from by omega]at h3;rw[h3];have h4:=hD (j - (i+1)) (by omega);rw[zO (by omega)]at h4;rw[h4,show i+(j - (i+1))=j - 1 from by omega]
 have mixed:Tryz.prog.follows .mixedOrders=true:=by kernel_rfl
 have hq2:¬((i:Int)=(c:Int)):=by omega
 have hw1:IntKind.i64.wrap ((i:Int)+1)=(i:Int)+1:=by rw[xk];omega
 have hw2:IntKind.i64.wrap ((c:Int)+1)=(c:Int)+1:=by rw[xk];omega
 have hw3:IntKind.i64.wrap ((c:Int)+1 - (i:Int))=(c:Int)+1 - (i:Int):=by rw[xk];omega
 have hb1:(0:Int)<=(i:Int)+1:=by omega
 have hin:i<=c:=by omega
 have htn:((i:Int)+1).toNat=i+1:=by omega
 have hb3:(i:Int)<=(c:Int)+1:=by omega
 have hb5:(c:Int)<(c:Int)+1:=by omega
 have hGi:¬(G=i):=by omega
 have hGim:¬(G=i+1):=by omega
 have hci:¬(c=i):=by omega
 have hB1':Hid _:=hB1.mono hbw;clear ho hlen htk hcell hvs hD hD1 hrow hv hcm hcs hnc hAj hal hold hik hROW hG hRl hN hNf hN0 hA1 hN2 hB1 hi0 hz0 hz1 hz2 hdl;subst hW1;subst hW2;have hE1:∀y,((w.alloc (.cells ROW 2)).drew).cell? y=(w.drew.alloc (.cells ROW 2)).cell? y:=fun _=>rfl;have hE2:∀y,((w.alloc (.cells ROW 2)).drew).frozen? y=(w.drew.alloc (.cells ROW 2)).frozen? y:=fun _=>rfl;have hF1:∀y,(((w.alloc (.cells ROW 2)).drew.setCells w.heap.size i [zc zb x]).drew).cell? y=((w.drew.alloc (.cells ROW 2)).setCells w.heap.size i [zc zb x]).cell? y:=fun _=>rfl;have hF2:∀y,(((w.alloc (.cells ROW 2)).drew.setCells w.heap.size i [zc zb x]).drew).frozen? y=((w.drew.alloc (.cells ROW 2)).setCells w.heap.size i [zc zb x]).frozen? y:=fun _=>rfl;have FIN2:Hid (Below base w ((((w.alloc (.cells ROW 2)).drew.setCells w.heap.size i [zc zb x]).drew).setCells w.heap.size (i+1) D)/\((((w.alloc (.cells ROW 2)).drew.setCells w.heap.size i [zc zb x]).drew).setCells w.heap.size (i+1) D).ownsRow base 2 1 (za (some ⟨w.heap.size,0,none⟩) (c+1) G) (c+1) ((insL ids i x).map (zc zb))):=
  FIN.X _ hF1 rfl (zl1 hbw _ _ ((yV _ _).alloc hbw _).drew).drew
 have hcA:=fun ty dc=>hcpA _ hE1 hE2 ty dc;have hcB:=fun ty dc sc=>hcpB _ hF1 hF2 ty dc sc;clear hcpA hcpB FIN hB1' hE1 hE2 hF1 hF2;go_enter Tryz.func147,Tryz.ntmps147
 go_wp2_with(first
  |(at_builtin;refine Lib.wpList_append_run _ rfl _ _ _ _ rfl _ _ rfl rfl _ _ (hrz _) ?_)
  |(at_builtin;refine wpList_copy_runI _ rfl _ _ 24 24 rfl _ _ rfl rfl (hcA _ _) ?_))
 go_region_law (refine step_copy_runI rfl _ _ 24 24 rfl _ _ (by simp[Act.eval,zi]) (by simp[Act.eval,zi]) (hcB _ _ _) ?_)
 all_goals
  go_wp2;go_ret;exact⟨_,rfl,FIN2.X⟩
theorem zk0(g:Nat)(T:TypeId):∀(vs:List Value) (o:Nat) (w:zg) (cur:Array Value),w.heap[g]? =some (.cells cur T (0,0))->∃cur',(w.setCells g o vs).heap[g]? =some (.cells cur' T (0,0))/\cur'.size=cur.size
 |[],_,_,cur,h=>⟨cur,h,rfl⟩
 |v::r,o,w,cur,h=>by
  obtain⟨cur',h1,h2⟩:=zk0 g T r (o+1) (w.setCell ⟨g,o,none⟩ v) _ (zP w g o cur T v h);exact⟨cur',h1,by rw[h2,Array.size_setIfInBounds]⟩
theorem zg8{base g:Nat}(hb:base<=g):∀(vs:List Value) (o:Nat) {w w':zg},Below base w w'->Below base w (w'.setCells g o vs)
 |[],_,_,_,h=>h
 |_::r,o,_,_,h=>zg8 hb r (o+1) (h.setCell hb _)
def zT9(xs:List Value)(p:Nat)(ys:List Value):List Value:=xs.take p++(ys++xs.drop p)
theorem zw0{xs ys:List Value}{p:Nat}(hp:p<=xs.length):(zT9 xs p ys).length=xs.length+ys.length:=by
 unfold zT9;rw[xU,xU,zZ,x7];omega
theorem yx2{xs ys:List Value}{p q:Nat}(hq:ys.length=q)(hp:p<=xs.length)(j:Nat):(zT9 xs p ys)[j]? =if j<p then xs[j]? else if j<p+q then ys[j - p]? else xs[j - q]? :=by
 unfold zT9;by_cases h1:j<p
 ·rw[zV h1,yL (by rw[zZ];omega),yq,zV h1]
 ·rw[zW h1,yw (by rw[zZ];omega),zZ,Nat.min_eq_left hp]
  by_cases h2:j<p+q
  ·rw[zV h2,yL (by omega)]
  ·rw[zW h2,yw (by omega),x6,hq,show p+(j - p - q)=j - q from by omega]
theorem y65{xs ys:List Value}{p:Nat}(h:xs.length=p):zT9 xs p ys=xs++ys:=by
 unfold zT9;rw[<-h,yc,List.drop_length,xY]
theorem z65{P:Program}(w:zg)(dT sT ty elem:TypeId)(b o dLen dCap:Nat)(a:Addr)(sLen sCap size:Nat)(cs:List Value)
 (hu:P.underlying dT=some (.slice elem)) (hs:(P.info? elem).map (·.size)=some size) (hn:cs.length=Nat.min sLen dLen*size)
 (hsrc:∀j v,cs[j]? =some v->w.cell? (a.add j)=some v) (hc:∀j,j<cs.length->(w.cell? ⟨b,o+j,none⟩).isSome=true) (hf:∀j,j<cs.length->w.frozen? ⟨b,o+j,none⟩=false) (h1:∀v∈cs,v.oneCell'=true):
 (zC #[dT,sT] ty #[za (some ⟨b,o,none⟩) dLen dCap,za (some a) sLen sCap]).run P w=.ok (goInt (Nat.min sLen dLen)) (w.setCells b o cs):=by
 have hl:=run_loadCells_list (P:=P) w a cs hsrc;have hst:=run_storeCells_cells (P:=P) b o cs 0 w (by simpa using hc) (by simpa using hf) h1;cases hq:P.info? elem with
 |none=>simp[hq]at hs
 |some i=>
  have hi:i.size=size:=by simpa[hq]using hs
  simp[zC,xA hu,Builtin.lenOf,zF,sizeOf,typeInfo,hq,hi,<-hn,hl,hst]
theorem yr4{P:Program}(w:zg)(t e ty:TypeId)(z:Value)(ht:P.underlying t=some (.slice e))(hv:∀w,(zeroValue e).run P w=.ok z w)(b o n c:Nat)(hn:0<n)(cs:List Value)(hcs:(zA z.cells n).toList=cs)(h1:∀v∈cs,v.oneCell'=true)
 (hc:∀j,j<cs.length->(w.cell? ⟨b,o+j,none⟩).isSome=true) (hf:∀j,j<cs.length->w.frozen? ⟨b,o+j,none⟩=false):
 (Builtin.clear_ #[t] ty #[za (some ⟨b,o,none⟩) n c]).run P w=.ok (.tuple #[]) (w.setCells b o cs):=by
 have hst:=run_storeCells_cells (P:=P) b o cs 0 w (by simpa using hc) (by simpa using hf) h1;simp only[Nat.add_zero]at hst;obtain⟨m,rfl⟩:∃m,n=m+1:=⟨n - 1,by omega⟩;simp[Builtin.clear_,xA ht,hv,hcs,hst]
theorem zB7{P:Program}{ops:Array Oper}{o:Oper}{a:Act}{w:zg}{K:Act->zg->Prop}{Q:Exit->Act->zg->Prop}{E:Prop}
 (hg:o.guard=none) (d x:Operand) (dT sT:TypeId) (hop:o.op=Op.call {callee:=Callee.builtin Builtin.append,args:=#[d,x],argTypes:=#[dT,sT]})
 (v u:Value) (hd:a.eval d=v) (hx:a.eval x=u) {v':Value} {w':zg} (hr:(zt #[dT,sT] o.type #[v,u]).run P w=.ok v' w') (hK:K (a.put o.dst v') w'):
 if zq o (yielded ops a.tmps)=true then Oper.wp P o a w K Q else E:=by
 have hw:zq o (yielded ops a.tmps)=true:=by simp[zq,hg]
 rw[zV hw];unfold Oper.wp;simp[execOp,hop,resolve,invoke,builtin,hd,hx,hr,Result.andThen];exact hK
theorem zp4{w:zg}{base k:Nat}{v:Value}{e:TypeId}{size:Nat}{xs:List Value}(h:w.ownsRow base e size v k xs):∃ao co,v=za ao k co:=by
 obtain⟨_,⟨h1,h2⟩|⟨g',cap,cur,h2,_⟩⟩:=h
 ·exact⟨none,0,by rw[h1,h2]⟩
 ·exact⟨_,_,h2⟩
theorem z10(z:Array Value)(n:Nat):(zA z n).size=n*z.size:=by simp[zA]
theorem z08(g:Nat):∀(vs:List Value) (o:Nat) (w w':zg),w.heap=w'.heap->(w.setCells g o vs).heap=(w'.setCells g o vs).heap
 |[],_,_,_,h=>h
 |v::r,o,w,w',h=>z08 g r (o+1) (w.setCell ⟨g,o,none⟩ v) (w'.setCell ⟨g,o,none⟩ v) (by unfold World.setCell;rw[h])
theorem z07(g:Nat)(vs:List Value)(o:Nat)(w:zg)(y:Addr):((w.drew.setCells g o vs).drew).cell? y=(w.drew.setCells g o vs).cell? y/\((w.drew.setCells g o vs).drew).frozen? y=(w.drew.setCells g o vs).frozen? y:=⟨rfl,rfl⟩
theorem yG3:(Tryz.prog.info? 80).map (fun i=>(i.zero,i.size,i.bytes))=some (some (.agg #[zc zb 0,za none 0 0]),2,32):=by kernel_rfl
theorem yK3(w:zg):(Go.sizeOf 80).run ze w=.ok 2 w:=by
 obtain⟨i0,hi,_,hz1,_⟩:=zq4 yG3;simp[Go.sizeOf,typeInfo,hi,hz1]
theorem yk1:(Tryz.prog.info? 80).map (·.size)=some 2:=by
 obtain⟨i0,hi,_,hz1,_⟩:=zq4 yG3;rw[hi];simp[hz1]
theorem yy8(w:zg)(vb g o lb cb:Nat)(xs cur:Array Value)(hne:vb≠g)(hv:w.heap[vb]? =some (.cells xs 80 (0,0)))(hg:w.heap[g]? =some (.cells cur 80 (0,0)))(hc:cur.size≠0):
 (callFunc 196 #[za (some ⟨vb,0,none⟩) 1 1,za (some ⟨g,o,none⟩) lb cb]).run ze w=.ok (.value (.bool false)) w:=by
 rw[run_callFunc_extern Tryz.func196 (by kernel_rfl) (by kernel_rfl) (by kernel_rfl) (e:=Extern.SlicesOverlaps.overlaps #[31,31] #[4]) (by kernel_rfl),
  Lib.run_overlaps_apart w 31 4 80 ql 2 yK3 ⟨vb,0,none⟩ ⟨g,o,none⟩ 1 1 lb cb hne 80 80 xs.size cur.size (by unfold World.shape?; rw[hv]) (by unfold World.shape?; rw[hg]) hc (yU _ _ 0 _ _ hv) (yU _ _ xs.size _ _ hv)]
 rfl
theorem yL7(g c i vb base n:Nat)(xs ys:List Value)(w:zg)(hx:xs.length=n*2)(hy:ys.length=2)(hx1:∀v∈xs,v.oneCell'=true)(hy1:∀v∈ys,v.oneCell'=true)(ho:w.ownsRow base 80 2 (za (some ⟨g,0,none⟩) n c) n xs)(hv:w.heap[vb]? =some (.cells ys.toArray 80 (0,0)))(hvb:vb≠g)(hi:i<n)(hroom:n+1<=c)(hl:n<=1000):
 Calls ze 173 #[za (some ⟨g,0,none⟩) n c,zc zb i,za (some ⟨vb,0,none⟩) 1 1] w fun e w'=>∃sl',e=.returned sl'/\Below base w w'/\w'.ownsRow base 80 2 sl' (n+1) (zT9 xs (i*2) ys):=by
 obtain⟨hlen,⟨h0,_⟩|⟨g',cap,cur,h2,hbg,hrow,hnc,hcm,hcs,htk⟩⟩:=id ho
 ·cases h0
 simp at h2;obtain⟨rfl,rfl⟩:=h2;have hcell:∀j,j<n*2->w.cell? ⟨g,j,none⟩=xs[j]? :=fun j hj=>by
  have h9:xs[j]? =some xs[j]:=zO (by omega);rw[h9];exact(zd5 ho h9).1
 have hsp:∀j,j<c*2->(w.cell? ⟨g,j,none⟩).isSome=true:=fun j hj=>by
  rw[zR _ _ _ _ _ _ hrow,qp (by omega)];rfl
 have hfz:∀j,w.frozen? ⟨g,j,none⟩=false:=fun j=>yU _ _ j _ _ hrow;have hvs:∀j,w.cell? ⟨vb,j,none⟩=ys[j]? :=fun j=>by rw[zR _ _ _ _ _ _ hv];simp
 have hc63:c<=9223372036854775807:=by unfold maxLen at hcm;omega
 have hov:=fun o lb cb=>yy8 w vb g o lb cb _ cur hvb hv hrow (by omega)
 obtain⟨D,HD⟩:∃D:List Value,Hid (xs.drop (i*2)=D):=⟨_,rfl⟩;have hdl:D.length=n*2 - i*2:=by rw[<-HD.X,x7,hx]
 have hD:∀j,D[j]? =xs[i*2+j]? :=fun j=>by rw[<-HD.X,x6]
 have hD1:∀v∈D,v.oneCell'=true:=fun v hv9=>by
  rw[<-HD.X]at hv9;exact hx1 v (yI hv9)
 have hm1:Nat.min (n+1 - i) (n - i)=n - i:=by simp only[qu];split<;>omega
 have hcp1:∀ty dc sc,(zC #[31,31] ty #[za (some ⟨g,(i+1)*2,none⟩) (n - i) dc,za (some ⟨g,i*2,none⟩) (n+1 - i) sc]).run ze w.drew=.ok (goInt ((n - i:Nat):Int)) (w.drew.setCells g ((i+1)*2) D):=fun ty dc sc=>by
  have:=z65 (P:=ze) w.drew 31 31 ty 80 g ((i+1)*2) (n - i) dc ⟨g,i*2,none⟩ (n+1 - i) sc 2 D ql yk1 (by rw[hm1,hdl];omega)
   (fun j v hj=>by
     have hj9:j<D.length:=by
      rcases qc j D.length with h|h
      ·exact h
      ·rw[yb h]at hj;cases hj
     rw[qr,<-hj,hD];exact hcell (i*2+j) (by omega))
   (fun j hj=>hsp _ (by omega)) (fun j _=>hfz _) hD1
  rw[hm1]at this;exact this
 obtain⟨W1,hW1⟩:∃W1,W1=w.drew.setCells g ((i+1)*2) D:=⟨_,rfl⟩;have hsp1:∀k,k<c*2->(W1.cell? ⟨g,k,none⟩).isSome=true:=fun k hk=>by
  rw[hW1];exact isSome_setCells g D ((i+1)*2) w.drew (fun j hj=>hsp _ (by omega)) k (hsp k hk)
 have hm2:Nat.min 1 (n+1 - i)=1:=by simp only[qu];split<;>omega
 have hcp2:∀(W:zg),(∀y,W.cell? y=W1.cell? y)->(∀y,W.frozen? y=W1.frozen? y)->∀ty dc,(zC #[31,31] ty #[za (some ⟨g,i*2,none⟩) (n+1 - i) dc,za (some ⟨vb,0,none⟩) 1 1]).run ze W=.ok (goInt 1) (W.setCells g (i*2) ys):=fun W hWc hWf ty dc=>by
  have:=z65 (P:=ze) W 31 31 ty 80 g (i*2) (n+1 - i) dc ⟨vb,0,none⟩ 1 1 2 ys ql yk1 (by rw[hm2,hy])
   (fun j v hj=>by
     rw[qr,hWc,hW1,qm g _ _ _ _ (fun h _=>absurd h hvb),<-hj,z6];exact hvs j)
   (fun j hj=>by rw[hWc];exact hsp1 _ (by omega)) (fun j _=>by rw[hWf,hW1,World.frozen?_setCells];exact hfz _) hy1
  rw[hm2]at this;exact this
 have FIN:Hid (Below base w (W1.setCells g (i*2) ys)/\(W1.setCells g (i*2) ys).ownsRow base 80 2 (za (some ⟨g,0,none⟩) (n+1) c) (n+1) (zT9 xs (i*2) ys)):=by
  refine⟨?_,?_⟩
  ·rw[hW1]
   exact zg8 hbg _ _ (zg8 hbg _ _ (yV _ _).drew)
  ·obtain⟨cur1,hr1,hs1⟩:=zk0 g 80 D ((i+1)*2) w.drew cur hrow
   obtain⟨cur2,hr2,hs2⟩:=zk0 g 80 ys (i*2) _ cur1 hr1;rw[<-hW1]at hr2;refine zm7 hr2 (by rw[hs2,hs1,hcs]) hroom hcm hbg (by rw[zw0 (by omega)];omega) (fun j hj=> ?_);rw[yx2 hy (by omega)];by_cases h1:j<i*2
   ·rw[zV h1,qm g _ _ _ _ (fun _ _=>by simp;omega),hW1,qm g _ _ _ _ (fun _ _=>by simp;omega)]
    exact hcell j (by omega)
   ·rw[zW h1]
    by_cases h2:j<i*2+2
    ·rw[zV h2]
     have:=qo g ys (i*2) W1 (fun j hj=>hsp1 _ (by omega)) (j - i*2) (by omega);rw[show i*2+(j - i*2)=j from by omega]at this;rw[this,zO (by omega)]
    ·rw[zW h2,qm g _ _ _ _ (fun _ _=>by simp;omega),hW1]
     have h3:=qo g D ((i+1)*2) w.drew (fun j hj=>hsp _ (by omega)) (j - (i+1)*2) (by omega);rw[show(i+1)*2+(j - (i+1)*2)=j from by omega]at h3;rw[h3,<-zO (by omega),hD,show i*2+(j - (i+1)*2)=j - 2 from by omega]
 rw[<-hW1]at hcp1;rw[hW1]at FIN;have mixed:Tryz.prog.follows .mixedOrders=true:=by kernel_rfl
 have hz2:¬((i:Int)=(n:Int)):=by omega
 have hw1:IntKind.i64.wrap ((i:Int)+1)=(i:Int)+1:=by rw[xk];omega
 have hw2:IntKind.i64.wrap ((n:Int)+1)=(n:Int)+1:=by rw[xk];omega
 have hb1:(0:Int)<=(i:Int)+1:=by omega
 have hin:i<=n:=by omega
 have htn:((i:Int)+1).toNat=i+1:=by omega
 have htn2:((n:Int)+1).toNat=n+1:=by omega
 have hb2:¬(c=i+1):=by omega
 have hb3:(i:Int)<=(n:Int)+1:=by omega
 have hb4:¬(c=i):=by omega
 have hb5:¬((c:Int)<(n:Int)+1):=by omega
 have hb6:(n:Int)+1<=(c:Int):=by omega
 clear ho hlen htk hcell hsp hfz hvs hsp1 hD hD1 hrow hv hcm hcs hnc hx hx1 hy1 hdl hm1 hm2;go_enter Tryz.func173,Tryz.ntmps173
 go_wp2_with(simp only[hov])
 go_region_law (refine step_copy_runI rfl _ _ 31 31 rfl _ _ (by simp[Act.eval,zi]) (by simp[Act.eval,zi]) (hcp1 _ _ _) ?_)
 all_goals
  go_wp2_with(at_builtin;refine wpList_copy_runI _ rfl _ _ 31 31 rfl _ _ rfl rfl (hcp2 _ (fun _=>rfl) (fun _=>rfl) _ _) ?_)
  go_ret;exact⟨_,rfl,FIN.X⟩
theorem yL0(g c i vb base n:Nat)(xs ys:List Value)(w:zg)(hx:xs.length=n*2)(hy:ys.length=2)(hx1:∀v∈xs,v.oneCell'=true)(hy1:∀v∈ys,v.oneCell'=true)(ho:w.ownsRow base 80 2 (za (some ⟨g,0,none⟩) n c) n xs)(hbw:base<=w.heap.size)(hv:w.heap[vb]? =some (.cells ys.toArray 80 (0,0)))(hi:i<n)(hroom:c<n+1)(hl:n<=1000):
 Calls ze 173 #[za (some ⟨g,0,none⟩) n c,zc zb i,za (some ⟨vb,0,none⟩) 1 1] w fun e w'=>∃sl',e=.returned sl'/\Below base w w'/\w'.ownsRow base 80 2 sl' (n+1) (zT9 xs (i*2) ys):=by
 obtain⟨hlen,⟨h0,_⟩|⟨g',cap,cur,h2,hbg,hrow,hnc,hcm,hcs,htk⟩⟩:=id ho
 ·cases h0
 simp at h2;obtain⟨rfl,rfl⟩:=h2;have hcn:c=n:=by omega
 subst hcn;have hcell:∀j,j<c*2->w.cell? ⟨g,j,none⟩=xs[j]? :=fun j hj=>by
  have h9:xs[j]? =some xs[j]:=zO (by omega);rw[h9];exact(zd5 ho h9).1
 have hvs:∀j,w.cell? ⟨vb,j,none⟩=ys[j]? :=fun j=>by rw[zR _ _ _ _ _ _ hv];simp
 have hgw:=za2 hrow;have hvw:=za2 hv;obtain⟨i0,hi0,hz0,hz1,hz2⟩:=zq4 yG3;obtain⟨A,HA⟩:∃A:List Value,Hid (xs.take (i*2)=A):=⟨_,rfl⟩;have hal:A.length=i*2:=by rw[<-HA.X,zZ,hx];omega
 have hAj:∀j,j<i*2->A[j]? =xs[j]? :=fun j hj=>by rw[<-HA.X,yq,zV hj]
 obtain⟨D,HD⟩:∃D:List Value,Hid (xs.drop (i*2)=D):=⟨_,rfl⟩;have hdl:D.length=c*2 - i*2:=by rw[<-HD.X,x7,hx]
 have hD:∀j,D[j]? =xs[i*2+j]? :=fun j=>by rw[<-HD.X,x6]
 have hD1:∀v∈D,v.oneCell'=true:=fun v hv9=>by
  rw[<-HD.X]at hv9;exact hx1 v (yI hv9)
 have hold:(zF i0.size i (za (some ⟨g,0,none⟩) i c)).run ze w.drew=.ok A.toArray w.drew:=by
  rw[hz1];exact run_firstCells_some w.drew 2 i ⟨g,0,none⟩ i c A hal (fun j v hj=>by
   have hj9:j<i*2:=by
    rcases qc j (i*2)with h|h
    ·exact h
    ·rw[yb (by omega)]at hj;cases hj
   rw[hAj j hj9]at hj;rw[qr,z6,<-hj];exact hcell j (by omega))
 have hik:i+(c+1 - i)=c+1:=by omega
 obtain⟨G,hG⟩:∃G,G=grownCap w (c+1) c 80:=⟨_,rfl⟩;obtain⟨ROW,hROW⟩:∃ROW:Array Value,ROW=A.toArray++zA (zD (.agg #[zc zb 0,za none 0 0])) (c+1 - i)++zA (zD (.agg #[zc zb 0,za none 0 0])) (G - (c+1)):=⟨_,rfl⟩;have hrz:∀ty,(zt #[31,3] ty #[za (some ⟨g,0,none⟩) i c,zc zb ((c:Int)+1 - (i:Int))]).run ze w=.ok (za (some ⟨w.heap.size,0,none⟩) (c+1) G) (w.drew.alloc (.cells ROW 80)):=fun ty=>by
  have h:=Lib.run_append_grow_zeros w 31 3 ty 80 i0 _ zb zb ql Tryz.underlying3 hi0 hz0 (some ⟨g,0,none⟩) i c A hold (c+1 - i) (by omega) (by omega) (by omega) (by omega) (by rw[hz2];omega) (by rw[hz2,hik];exact growslice_fits hroom (by omega));rw[hik,<-hG,<-hROW]at h;rw[show(c:Int)+1 - (i:Int)=((c+1 - i:Nat):Int)from by omega];exact h
 have hGn:c+1<=G:=by rw[hG];exact grownCap_ge w _ _ _
 have hGm:G<=maxLen:=by rw[hG];exact grownCap_le_maxLen w (c+1) c 80 (by unfold maxLen;omega)
 have hG63:G<=9223372036854775807:=by unfold maxLen at hGm;omega
 have hRl:ROW.size=G*2:=by
  rw[hROW];have hzc:(zD (.agg #[zc zb 0,za none 0 0])).size=2:=by simp[zD]
  rw[Array.size_append,Array.size_append,z10,z10,hzc];simp[hal];omega
 obtain⟨W1,hW1⟩:∃W1,W1=w.drew.alloc (.cells ROW 80):=⟨_,rfl⟩;have hN0:W1.heap[w.heap.size]? =some (.cells ROW 80 (0,0)):=by rw[hW1];exact zN w.drew _
 have hN:∀j,j<G*2->(W1.cell? ⟨w.heap.size,j,none⟩).isSome=true:=fun j hj=>by
  rw[zR _ _ _ _ _ _ hN0,qp (by omega)];rfl
 have hNf:∀j,W1.frozen? ⟨w.heap.size,j,none⟩=false:=fun j=>yU _ _ j _ _ hN0;have hB1:Below w.heap.size w W1:=by rw[hW1];exact(yV _ _).drew.alloc (zQ _) _
 have hA1:∀j,j<i*2->W1.cell? ⟨w.heap.size,j,none⟩=xs[j]? :=fun j hj=>by
  rw[zR _ _ _ _ _ _ hN0,hROW,Array.append_assoc,Array.getElem?_append_left (by simp;omega)];have h9:=hAj j hj;simpa using h9
 have hm2:Nat.min 1 (c+1 - i)=1:=by simp only[qu];split<;>omega
 have hcpA:∀(W:zg),(∀y,W.cell? y=W1.cell? y)->(∀y,W.frozen? y=W1.frozen? y)->∀ty dc,(zC #[31,31] ty #[za (some ⟨w.heap.size,i*2,none⟩) (c+1 - i) dc,za (some ⟨vb,0,none⟩) 1 1]).run ze W=.ok (goInt 1) (W.setCells w.heap.size (i*2) ys):=fun W hWc hWf ty dc=>by
  have:=z65 (P:=ze) W 31 31 ty 80 w.heap.size (i*2) (c+1 - i) dc ⟨vb,0,none⟩ 1 1 2 ys ql yk1 (by rw[hm2,hy])
   (fun j v hj=>by
     rw[qr,hWc,z6,<-hj];exact(hB1.cell (p:=⟨vb,j,none⟩) hvw).trans (hvs j))
   (fun j hj=>by rw[hWc];exact hN _ (by omega)) (fun j _=>by rw[hWf];exact hNf _) hy1
  rw[hm2]at this;exact this
 obtain⟨W2,hW2⟩:∃W2,W2=W1.setCells w.heap.size (i*2) ys:=⟨_,rfl⟩;have hN2:∀j,j<G*2->(W2.cell? ⟨w.heap.size,j,none⟩).isSome=true:=fun j hj=>by
  rw[hW2];exact isSome_setCells w.heap.size ys (i*2) W1 (fun k hk=>hN _ (by omega)) j (hN j hj)
 have hm1:Nat.min (c - i) (c - i)=c - i:=by simp only[qu];split<;>omega
 have hcpB:∀(W:zg),(∀y,W.cell? y=W2.cell? y)->(∀y,W.frozen? y=W2.frozen? y)->∀ty dc sc,(zC #[31,31] ty #[za (some ⟨w.heap.size,(i+1)*2,none⟩) (c - i) dc,za (some ⟨g,i*2,none⟩) (c - i) sc]).run ze W=.ok (goInt ((c - i:Nat):Int)) (W.setCells w.heap.size ((i+1)*2) D):=fun W hWc hWf ty dc sc=>by
  have:=z65 (P:=ze) W 31 31 ty 80 w.heap.size ((i+1)*2) (c - i) dc ⟨g,i*2,none⟩ (c - i) sc 2 D ql yk1 (by rw[hm1,hdl];omega)
   (fun j v hj=>by
     have hj9:j<D.length:=by
      rcases qc j D.length with h|h
      ·exact h
      ·rw[yb h]at hj;cases hj
     rw[qr,hWc,hW2,qm _ _ _ _ _ (fun h _=>absurd h (by show g≠_;omega)),<-hj,hD];exact(hB1.cell (p:=⟨g,i*2+j,none⟩) hgw).trans (hcell (i*2+j) (by omega)))
   (fun j hj=>by rw[hWc];exact hN2 _ (by omega)) (fun j _=>by rw[hWf,hW2,World.frozen?_setCells];exact hNf _) hD1
  rw[hm1]at this;exact this
 have FIN:Hid (∀W:zg,(∀y,W.cell? y=W2.cell? y)->W.heap=W2.heap->Below base w W->Below base w (W.setCells w.heap.size ((i+1)*2) D)/\(W.setCells w.heap.size ((i+1)*2) D).ownsRow base 80 2 (za (some ⟨w.heap.size,0,none⟩) (c+1) G) (c+1) (zT9 xs (i*2) ys)):=fun W hWc hWh hWb=>by
  refine⟨zg8 hbw _ _ hWb,?_⟩;obtain⟨cur1,hr1,hs1⟩:=zk0 w.heap.size 80 ys (i*2) W1 ROW hN0;rw[<-hW2,<-hWh]at hr1;obtain⟨cur2,hr2,hs2⟩:=zk0 w.heap.size 80 D ((i+1)*2) W cur1 hr1;refine zm7 hr2 (by rw[hs2,hs1,hRl]) hGn hGm hbw (by rw[zw0 (by omega)];omega) (fun j hj=> ?_);rw[yx2 hy (by omega)];by_cases h1:j<i*2
  ·rw[zV h1,qm _ _ _ _ _ (fun _ _=>by simp;omega),hWc,hW2,qm _ _ _ _ _ (fun _ _=>by simp;omega)]
   exact hA1 j (by omega)
  ·rw[zW h1]
   by_cases h2:j<i*2+2
   ·rw[zV h2,qm _ _ _ _ _ (fun _ _=>by simp;omega),hWc,hW2]
    have:=qo w.heap.size ys (i*2) W1 (fun j hj=>hN _ (by omega)) (j - i*2) (by omega);rw[show i*2+(j - i*2)=j from by omega]at this;rw[this,zO (by omega)]
   ·rw[zW h2]
    have h3:=qo w.heap.size D ((i+1)*2) W (fun j hj=>by rw[hWc];exact hN2 _ (by omega)) (j - (i+1)*2) (by omega);rw[show(i+1)*2+(j - (i+1)*2)=j from by omega]at h3;rw[h3,<-zO (by omega),hD,show i*2+(j - (i+1)*2)=j - 2 from by omega]
 have mixed:Tryz.prog.follows .mixedOrders=true:=by kernel_rfl
 have hq2:¬((i:Int)=(c:Int)):=by omega
 have hw1:IntKind.i64.wrap ((i:Int)+1)=(i:Int)+1:=by rw[xk];omega
 have hw2:IntKind.i64.wrap ((c:Int)+1)=(c:Int)+1:=by rw[xk];omega
 have hw3:IntKind.i64.wrap ((c:Int)+1 - (i:Int))=(c:Int)+1 - (i:Int):=by rw[xk];omega
 have hb1:(0:Int)<=(i:Int)+1:=by omega
 have hin:i<=c:=by omega
 have htn:((i:Int)+1).toNat=i+1:=by omega
 have hb3:(i:Int)<=(c:Int)+1:=by omega
 have hb5:(c:Int)<(c:Int)+1:=by omega
 have hGi:¬(G=i):=by omega
 have hGim:¬(G=i+1):=by omega
 have hci:¬(c=i):=by omega
 clear ho hlen htk hcell hvs hD hD1 hrow hv hcm hcs hnc hAj hal hold hik hROW hG hRl hN hNf hN0 hA1 hN2 hB1 hi0 hz0 hz1 hz2 hdl hx hx1 hy1 hm1 hm2;subst hW1;subst hW2;have hE1:∀y,((w.alloc (.cells ROW 80)).drew).cell? y=(w.drew.alloc (.cells ROW 80)).cell? y:=fun _=>rfl;have hE2:∀y,((w.alloc (.cells ROW 80)).drew).frozen? y=(w.drew.alloc (.cells ROW 80)).frozen? y:=fun _=>rfl;have hF1:∀y,(((w.alloc (.cells ROW 80)).drew.setCells w.heap.size (i*2) ys).drew).cell? y=((w.drew.alloc (.cells ROW 80)).setCells w.heap.size (i*2) ys).cell? y:=fun y=>(z07 w.heap.size ys (i*2) (w.alloc (.cells ROW 80)) y).1;have hF2:∀y,(((w.alloc (.cells ROW 80)).drew.setCells w.heap.size (i*2) ys).drew).frozen? y=((w.drew.alloc (.cells ROW 80)).setCells w.heap.size (i*2) ys).frozen? y:=fun y=>(z07 w.heap.size ys (i*2) (w.alloc (.cells ROW 80)) y).2;have FIN2:Hid (Below base w ((((w.alloc (.cells ROW 80)).drew.setCells w.heap.size (i*2) ys).drew).setCells w.heap.size ((i+1)*2) D)/\((((w.alloc (.cells ROW 80)).drew.setCells w.heap.size (i*2) ys).drew).setCells w.heap.size ((i+1)*2) D).ownsRow base 80 2 (za (some ⟨w.heap.size,0,none⟩) (c+1) G) (c+1) (zT9 xs (i*2) ys)):=
  FIN.X _ hF1 (z08 w.heap.size ys (i*2) _ _ rfl) (zg8 hbw _ _ ((yV _ _).alloc hbw _).drew).drew
 have hcA:=fun ty dc=>hcpA _ hE1 hE2 ty dc;have hcB:=fun ty dc sc=>hcpB _ hF1 hF2 ty dc sc;clear hcpA hcpB FIN hE1 hE2 hF1 hF2;go_enter Tryz.func173,Tryz.ntmps173
 go_wp2_with(first
  |(at_builtin;refine Lib.wpList_append_run _ rfl _ _ _ _ rfl _ _ rfl rfl _ _ (hrz _) ?_)
  |(at_builtin;refine wpList_copy_runI _ rfl _ _ 31 31 rfl _ _ rfl rfl (hcA _ _) ?_))
 go_region_law (refine step_copy_runI rfl _ _ 31 31 rfl _ _ (by simp[Act.eval,zi]) (by simp[Act.eval,zi]) (hcB _ _ _) ?_)
 all_goals
  go_wp2;go_ret;exact⟨_,rfl,FIN2.X⟩
theorem yL9(sl:Value)(vb base n:Nat)(xs ys:List Value)(w:zg)(hx:xs.length=n*2)(hy:ys.length=2)(hy1:∀v∈ys,v.oneCell'=true)(ho:w.ownsRow base 80 2 sl n xs)(hbw:base<=w.heap.size)(hv:w.heap[vb]? =some (.cells ys.toArray 80 (0,0)))(hl:n<=1000):
 Calls ze 173 #[sl,zc zb n,za (some ⟨vb,0,none⟩) 1 1] w fun e w'=>∃sl',e=.returned sl'/\Below base w w'/\w'.ownsRow base 80 2 sl' (n+1) (zT9 xs (n*2) ys):=by
 have HO:=za4 ho;have HV:Hid (∀j u,ys[j]? =some u->w.cell? ⟨vb,0+j,none⟩=some u):=fun j u hj=>by rw[zR _ _ _ _ _ _ hv,z6];simpa using hj
 rw[y65 hx];rcases own_kinds ho with⟨rfl,h0⟩|⟨g,c,rfl,-,-⟩
 ·subst h0
  clear ho hv;go_enter Tryz.func173,Tryz.ntmps173
  go_wp2_with(
   at_builtin;refine zl3 ql yG3 rfl (by omega) _ rfl _ _ rfl base _ 0 xs rfl HO.X vb 0 1 1 ys rfl (by omega) HV.X hy1 (by omega) (by omega) hbw ?_;intro v' w4 hown hg hz9 hnl;have O4:=za4 hown;have B4:Hid _:=(yV _ _).grown hg hbw (fun k e=>(HO.lt k e).1);clear hown hg hnl hz9)
  go_ret;exact⟨_,rfl,B4.X,O4.X⟩
 ·have hnc:n<=c/\c<=9223372036854775807:=by
   obtain⟨_,⟨h1,_⟩|⟨g',cap,cur,h3,_,_,h4,h5,_⟩⟩:=ho
   ·cases h1
   ·simp at h3
    obtain⟨rfl,rfl⟩:=h3;unfold maxLen at h5;omega
  obtain⟨hnc1,hnc2⟩:=hnc;have hin:n<=n:=zQ _;clear ho hv;by_cases hcn:c=n
  ·subst hcn
   go_enter Tryz.func173,Tryz.ntmps173
   go_wp2_with(
    at_builtin;refine zl3 ql yG3 rfl (by omega) _ rfl _ _ rfl base _ c xs rfl HO.X vb 0 1 1 ys rfl (by omega) HV.X hy1 (by omega) (by omega) hbw ?_;intro v' w4 hown hg hz9 hnl;have O4:=za4 hown;have B4:Hid _:=(yV _ _).grown hg hbw (fun k e=>(HO.lt k e).1);clear hown hg hnl hz9)
   go_ret;exact⟨_,rfl,B4.X,O4.X⟩
  ·go_enter Tryz.func173,Tryz.ntmps173
   go_wp2_with(
    at_builtin;refine zl3 ql yG3 rfl (by omega) _ rfl _ _ rfl base _ n xs rfl HO.X vb 0 1 1 ys rfl (by omega) HV.X hy1 (by omega) (by omega) hbw ?_;intro v' w4 hown hg hz9 hnl;have O4:=za4 hown;have B4:Hid _:=(yV _ _).grown hg hbw (fun k e=>(HO.lt k e).1);clear hown hg hnl hz9)
   go_ret;exact⟨_,rfl,B4.X,O4.X⟩
theorem y15(sl:Value)(i vb base n:Nat)(xs ys:List Value)(w:zg)(hx:xs.length=n*2)(hy:ys.length=2)(hx1:∀v∈xs,v.oneCell'=true)(hy1:∀v∈ys,v.oneCell'=true)(ho:w.ownsRow base 80 2 sl n xs)(hbw:base<=w.heap.size)(hv:w.heap[vb]? =some (.cells ys.toArray 80 (0,0)))(hvb:sl.ownBlock≠some vb)(hi:i<=n)(hl:n<=1000):
 Calls ze 173 #[sl,zc zb i,za (some ⟨vb,0,none⟩) 1 1] w fun e w'=>∃sl',e=.returned sl'/\Below base w w'/\w'.ownsRow base 80 2 sl' (n+1) (zT9 xs (i*2) ys):=by
 by_cases he:i=n
 ·subst he
  exact yL9 sl vb base i xs ys w hx hy hy1 ho hbw hv hl
 ·rcases own_kinds ho with⟨rfl,h0⟩|⟨g,c,rfl,-,-⟩
  ·omega
  ·have hvg:vb≠g:=fun e=>hvb (by rw[e];rfl)
   by_cases hr:n+1<=c
   ·exact yL7 g c i vb base n xs ys w hx hy hx1 hy1 ho hv hvg (by omega) hr hl
   ·exact yL0 g c i vb base n xs ys w hx hy hx1 hy1 ho hbw hv (by omega) (by omega) hl
