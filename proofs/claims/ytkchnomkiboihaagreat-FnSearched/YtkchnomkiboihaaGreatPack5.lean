import Derived.Test.YtkchnomkiboihaaGreatPack3
import Derived.Test.YtkchnomkiboihaaGreatPack4
set_option linter.unusedSimpArgs false
set_option maxHeartbeats 2000000
namespace Go.Proofs.YtkchnomkiboihaaGreat
open RowKit renaming Below→Za,Hid→Zb
open Go renaming Calls→Zc,Addr→Zd
theorem qz:type_of% @List.length_map:=@List.length_map
theorem qA:type_of% @Go.Value.slice.injEq:=@Go.Value.slice.injEq
open Value renaming slice→za,int→ze
open IntKind renaming i64→zd
open Obj renaming cells→zg
open Proofs.Tryz renaming prog→zh
open Go renaming World→zi
open Go.RowKit
open Q
structure PO(w:zi)(base:Nat)(rs:Value)(S:List RT)(ls:Value)(L:List Int):Prop where
 r:w.ownsRow base 80 2 rs S.length (zj5 S)
 s:∀s∈S,w.ownsRow base 2 1 (za s.a s.ids.length s.c) s.ids.length (s.ids.map (ze zd))
 l:w.ownsRow base 2 1 ls L.length (L.map (ze zd))
theorem PO.below{w w':zi}{base:Nat}{rs ls:Value}{S:List RT}{L:List Int}(h:PO w base rs S ls L)(hb:Za w.heap.size w w'):PO w' base rs S ls L:=
 ⟨zb9 h.r hb,fun s hs=>zb9 (h.s s hs) hb,zb9 h.l hb⟩
theorem PO.base{w:zi}{base b0:Nat}{rs ls:Value}{S:List RT}{L:List Int}(h:PO w base rs S ls L)(hb:b0<=base):PO w b0 rs S ls L:=
 ⟨zb5 h.r hb,fun s hs=>zb5 (h.s s hs) hb,zb5 h.l hb⟩
theorem PO.set{w:zi}{base b i:Nat}{rs ls u:Value}{S:List RT}{L:List Int}(h:PO w base rs S ls L)(hb:b<base):PO (w.setCell ⟨b,i,none⟩ u) base rs S ls L:=
 ⟨zg1 h.r hb,fun s hs=>zg1 (h.s s hs) hb,zg1 h.l hb⟩
theorem zk3{w w':zi}{base size n q:Nat}{e:TypeId}{v:Value}{xs:List Value}(h:w.ownsRow base e size v n xs)(hg:w.grownBy w' (some q))(hq:v.ownBlock≠some q):w'.ownsRow base e size v n xs:=by
 obtain⟨h1,h2|⟨g,ac,az,h2,h3,h4,h5⟩⟩:=h
 ·exact⟨h1,.inl h2⟩
 ·refine⟨h1,.inr ⟨g,ac,az,h2,h3,za6 hg h4 (fun e=>hq ?_),h5⟩⟩
  rw[h2];exact e
theorem zR8{w:zi}{base size n q:Nat}{e:TypeId}{v:Value}{xs:List Value}(h:w.ownsRow base e size v n xs)(hq:q<base∨w.heap.size<=q):v.ownBlock≠some q:=fun e=>by
 have:=h.lt q e;omega
theorem PO.other{w w':zi}{base q:Nat}{rs ls:Value}{S:List RT}{L:List Int}(h:PO w base rs S ls L)(hg:w.grownBy w' (some q))(hq:q<base∨w.heap.size<=q):PO w' base rs S ls L:=
 ⟨zk3 h.r hg (zR8 h.r hq),fun s hs=>zk3 (h.s s hs) hg (zR8 (h.s s hs) hq),zk3 h.l hg (zR8 h.l hq)⟩
theorem PO.rv{w:zi}{base:Nat}{rs ls:Value}{S:List RT}{L:List Int}(h:PO w base rs S ls L):(rs=za none 0 0/\S.length=0)∨∃g c,rs=za (some ⟨g,0,none⟩) S.length c/\base<=g/\g<w.heap.size:=own_kinds h.r
theorem PO.ints{w:zi}{base:Nat}{rs ls:Value}{S:List RT}{L:List Int}(h:PO w base rs S ls L):∀s∈S,za3 w s.a s.ids/\s.ids.length<=s.c:=fun s hs=>by
 have ho:=h.s s hs;have Ls:=ho;obtain⟨a',c',e,_,hi⟩:=zr8 ho;have e2:s.a=a':=by injection e
 refine⟨by rw[e2];exact hi,?_⟩;obtain⟨_,⟨h1,h2⟩|⟨g',ac,az,h2,_,_,h3,_⟩⟩:=Ls
 ·omega
 ·injection h2 with _ _ e3
  omega
theorem PO.at{w:zi}{base rc:Nat}{ra:Option Zd}{ls:Value}{S:List RT}{L:List Int}(h:PO w base (za ra S.length rc) S ls L):za9 w ra S:=fun j hj=>by
 rcases h.rv with⟨_,h0⟩|⟨g,c,e,_,_⟩
 ·omega
 ·simp only[qA]at e
  obtain⟨rfl,_,rfl⟩:=e;obtain⟨q1,q2⟩:=zH9 S j hj;have c1:=(zh0 h.r q1).1;have c2:=(zh0 h.r q2).1;have hm:S.getD j rt0∈S:=by rw[zQ,zR hj];simp
  exact⟨g,0,rfl,by rw[yb];exact c1,by rw[yb];exact c2,(h.ints _ hm).1⟩
def zc7(R:List RT)(ab:Int):RT:=(R.find? (fun r=>r.v==ab)).getD ⟨ab,none,[],0⟩
theorem zL0(R:List RT)(ab:Int):(zc7 R ab).v=ab:=by
 unfold zc7;cases h:R.find? (fun r=>r.v==ab)with
 |none=>rfl
 |some r=>simpa using List.find?_some h
theorem zv0(R:List RT)(ab:Int):zc7 R ab∈R∨zc7 R ab=⟨ab,none,[],0⟩:=by
 unfold zc7;cases h:R.find? (fun r=>r.v==ab)with
 |none=>exact .inr rfl
 |some r=>exact .inl (xX h)
theorem ys0{R:List RT}{ab:Int}{k:Nat}(hk:k<R.length)(h1:∀j,j<k->(R.getD j rt0).v≠ab)(h2:(R.getD k rt0).v=ab):zc7 R ab=R.getD k rt0:=by
 induction R generalizing k with
 |nil=>simp at hk
 |cons r R ih=>
  unfold zc7;cases k with
  |zero=>
   have:r.v=ab:=by simpa using h2
   simp[this]
  |succ k=>
   have h0:r.v≠ab:=by simpa using h1 0 (by omega)
   have:=ih (k:=k) (by simpa using hk) (fun j hj=>by simpa using h1 (j+1) (by omega)) (by simpa using h2);unfold zc7 at this;have hb:(r.v==ab)=false:=by simp[h0]
   rw[List.find?_cons,hb];simpa using this
theorem yy2{R:List RT}{ab:Int}(h1:∀j,j<R.length->(R.getD j rt0).v≠ab):zc7 R ab=⟨ab,none,[],0⟩:=by
 unfold zc7;rw[yV.2]
 ·rfl
 ·intro r hr
  obtain⟨j,hj,e⟩:=xU hr;have:=h1 j hj;rw[zQ,zR hj]at this;simp only[yR,e]at this;simp[this]
theorem z24(ra la:Option Zd)(rc ln lc:Nat)(R:List RT)(ab:Int)(w:zi)(hR:za9 w ra R)(hn:R.length<=1048576):
 Zc zh 70 #[.agg #[za ra R.length rc,za la ln lc],ze zd ab] w fun e w'=>e=.returned (.agg #[ze zd ab,.slice (zc7 R ab).a (zc7 R ab).ids.length (zc7 R ab).c])/\Za w.heap.size w w':=by
 have HR:=za4 hR;clear hR;obtain⟨n,HN⟩:=nmd R.length;rw[HN.X]at hn⊢;have uK:=zL0 R ab;obtain⟨r0,tJ⟩:=nmd (zc7 R ab);rw[tJ.X]at uK⊢;have bC:=za4 uK;clear uK;have B0:Zb (Za w.heap.size w ((w.alloc (zg #[za ra n rc,za la ln lc] 33)).alloc (zg #[ze zd 0,za none 0 0] 80))):=(zP _).alloc (by simp) _;have P0:Zb (((w.alloc (zg #[za ra n rc,za la ln lc] 33)).alloc (zg #[ze zd 0,za none 0 0] 80)).heap[w.heap.size]? =some (zg #[za ra n rc,za la ln lc] 33 (0,0))):=xm _ _ _;have T0:Zb (((w.alloc (zg #[za ra n rc,za la ln lc] 33)).alloc (zg #[ze zd 0,za none 0 0] 80)).heap[w.heap.size+1]? =some (zg #[ze zd 0,za none 0 0] 80 (0,0))):=xh _ _ _;go_enter Tryz.func70,Tryz.ntmps70
 go_wp2_with fail
 generalize(w.alloc _).alloc _=W0 at*
 go_loop [5] (fun t=>∃k:Nat,k<=n/\t=ze zd k/\∀j,j<k->(R.getD j rt0).v≠ab) (fun t=>n - (intOf t).toNat)
 case atStart=>exact⟨0,xi _,rfl,fun j hj=>by omega⟩
 case round=>
  obtain⟨k,hk,rfl,hj⟩:=hrel;have HJ:Zb _:=hj;clear hj;obtain⟨p0,p1⟩:=za1 P0.X;obtain⟨t0,t1⟩:=za1 T0.X;have tf:=fun i=>yZ _ _ i _ _ T0.X;by_cases ah:k<n
  ·have ik:(k:Int)<(n:Int):=by omega
   have dt:k<R.length:=by rw[HN.X];exact ah
   obtain⟨b,off,e,c1,c2,-⟩:=(HR.below B0.X) k dt;subst e;have dD:Zb ((R.getD k rt0).v≠ab->∀j,j<k+1->(R.getD j rt0).v≠ab):=fun h j hj=>by
    by_cases e:j=k
    ·rw[e];exact h
    ·exact HJ.X j (by omega)
   have j0:Zb ((R.getD k rt0).v=ab->r0=R.getD k rt0):=fun h=>by rw[<-tJ.X];exact ys0 dt HJ.X h
   obtain⟨r,ve⟩:=nmd (R.getD k rt0);rw[ve.X]at c1 c2 dD j0;by_cases hv:r.v=ab
   ·have HE:Zb (r0=r):=j0.X hv
    rw[hv]at c1;have Kc:(ab==ab)=true:=by simp
    obtain⟨rv,iA,ay,dE⟩:=r;simp only at hv c2;obtain⟨rl,cu⟩:=nmd ay.length;rw[cu.X]at c2;clear hv;go_wp2;refine xe (v:=.agg #[ze zd ab,za iA rl dE]) (by simp[results,Tryz.results70,go_sem,t0,t1]) rfl ⟨by rw[HE.X];simp only;rw[cu.X],?_⟩
    repeat(first|with_reducible exact B0.X|refine xq ?_ (by simp<;>omega) _)
   ·have Kc:(r.v==ab)=false:=by simp[hv]
    have FL:Zb _:=dD.X hv;obtain⟨rv,tF⟩:=nmd r.v;rw[tF.X]at c1 Kc;clear hv c2;go_wp2
    go_round
    case rel=>exact⟨k+1,by omega,by go_num,FL.X⟩
    case measure=>simp[intOf];omega
  ·have ik:¬((k:Int)<(n:Int)):=by omega
   have HE:Zb (r0=⟨ab,none,[],0⟩):=by
    show _=_;rw[<-tJ.X];exact yy2 (fun j hj=>HJ.X j (by rw[HN.X]at hj;omega))
   go_wp2;refine xe (v:=.agg #[ze zd ab,za none 0 0]) (by simp[results,Tryz.results70,go_sem,t0,t1]) rfl ⟨by rw[HE.X];rfl,?_⟩
   repeat(first|with_reducible exact B0.X|refine xq ?_ (by simp<;>omega) _)
theorem zg4{w:zi}{base size n k:Nat}{e T:TypeId}{v:Value}{xs:List Value}{cs:Array Value}(h:w.ownsRow base e size v n xs)(hr:w.heap[k]? =some (.cells cs T (0,0)))(hT:T≠e):v.ownBlock≠some k:=fun he=>by
 rcases h.2 with⟨rfl,_⟩|⟨g,c,az,rfl,_,hg,_⟩
 ·cases he
 ·simp[Value.ownBlock]at he
  rw[he,hr]at hg;simp at hg;exact hT hg.2
theorem zf8{w:zi}{base size n k i:Nat}{e T:TypeId}{v u:Value}{xs:List Value}{cs:Array Value}(h:w.ownsRow base e size v n xs)(hr:w.heap[k]? =some (.cells cs T (0,0)))(hT:T≠e):(w.setCell ⟨k,i,none⟩ u).ownsRow base e size v n xs:=zk3 h (zb3 w k i u) (zg4 h hr hT)
theorem z27(v ab:Int)(a:Option Zd)(l c:Nat)(w:zi):Zc zh 194 #[.agg #[ze zd v,za a l c],ze zd ab] w fun e w'=>e=.returned (ze zd (yv0 v ab))/\Za w.heap.size w w':=by
 have hr:(w.alloc (zg #[ze zd v,za a l c] 80)).heap[w.heap.size]? =some (zg #[ze zd v,za a l c] 80 (0,0)):=zS _ _;obtain⟨t0,t1⟩:=za1 hr;go_enter Tryz.func194,Tryz.ntmps194
 go_wp2_with(go_at_call 195;refine(yc1 _ _ _).mono ?_;rintro e w' ⟨rfl,hw⟩;subst hw)
 go_ret;exact⟨rfl,zP _⟩
structure y30(R:List RT)(ab:Int)(k:Nat):Prop where
 le:k<=R.length
 lo:∀j,j<k->(R.getD j rt0).v<ab
 hi:∀j,k<=j->j<R.length->ab<=(R.getD j rt0).v
def yo3(R:List RT)(ab:Int)(k:Nat):Bool:=decide (k<R.length/\(R.getD k rt0).v=ab)
def zf7(R:List RT):Prop:=∀j,0<j->j<R.length->(R.getD (j - 1) rt0).v<(R.getD j rt0).v
theorem zf7.lt{R:List RT}(h:zf7 R):∀(d i:Nat),i+d+1<R.length->(R.getD i rt0).v<(R.getD (i+d+1) rt0).v
 |0,i,hi=>h (i+1) (by omega) hi
 |d+1,i,hi=>Int.lt_trans (zf7.lt h d i (by omega)) (h (i+d+1+1) (by omega) hi)
theorem zf7.le{R:List RT}(h:zf7 R){i j:Nat}(lN:i<=j)(hj:j<R.length):(R.getD i rt0).v<=(R.getD j rt0).v:=by
 by_cases e:i=j
 ·rw[e];exact Int.le_refl _
 ·have:=h.lt (j - i - 1) i (by omega)
  rw[show i+(j - i - 1)+1=j by omega]at this;omega
set_option maxRecDepth 20000 in
theorem yo1(ra:Option Zd)(rc:Nat)(R:List RT)(ab:Int)(w:zi)(hR:za9 w ra R)(hn:R.length<=1048576)(hS:zf7 R):
 Zc zh 193 #[za ra R.length rc,ze zd ab,.func (.func 194) #[] #[]] w fun e w'=>∃k:Nat,e=.returned (.tuple #[ze zd k,.bool (yo3 R ab k)])/\y30 R ab k/\Za w.heap.size w w':=by
 have HR:=za4 hR;have HS:=za4 hS;clear hR hS;obtain⟨n,HN⟩:=nmd R.length;rw[HN.X]at hn⊢;go_enter Tryz.func193,Tryz.ntmps193
 go_wp2_with fail
 go_loopw[9,10] (fun ti tj wr=>∃i j:Nat,i<=j/\j<=n/\ti=ze zd i/\tj=ze zd j/\Za w.heap.size w wr/\(∀t,t<i->(R.getD t rt0).v<ab)/\(∀t,j<=t->t<n->ab<=(R.getD t rt0).v)) (fun ti tj _=>(intOf tj).toNat - (intOf ti).toNat)
 case atStart=>exact⟨0,n,xi _,zT _,rfl,rfl,y5 _ _,fun t ht=>by omega,fun t h1 h2=>by omega⟩
 case round=>
  obtain⟨i,j,lN,hj,rfl,rfl,hb,an,lG⟩:=hrel;have HB:Zb _:=hb;have aF:Zb _:=an;have vM:Zb _:=lG;clear hb an lG;by_cases ah:i<j
  ·have oC:(i:Int)<(j:Int):=by omega
   obtain⟨h,HH⟩:∃h:Nat,Zb ((i+j) / 2=h):=⟨_,rfl⟩;have lG:i<=h:=by have:=HH.X;omega
   have PJ:h<j:=by have:=HH.X;omega
   have hm:((i:Int)+(j:Int)) / 2=(h:Int):=by have:=HH.X;omega
   obtain⟨b,off,e,c1,c2,-⟩:=(HR.below HB.X) h (by rw[HN.X];omega);subst e;have Mo:(h:Int)<(n:Int):=by omega
   have eM:Zb ((R.getD h rt0).v<ab->∀t,t<h+1->(R.getD t rt0).v<ab):=fun hv t ht=>Int.lt_of_le_of_lt (HS.le (by omega) (by rw[HN.X];omega)) hv
   have rB:Zb (¬(R.getD h rt0).v<ab->∀t,h<=t->t<n->ab<=(R.getD t rt0).v):=fun hv t h1 h2=>by
    have:=HS.le h1 (by rw[HN.X];exact h2);omega
   generalize R.getD h rt0=x at*;obtain⟨xv,xa,cF,xc⟩:=x;simp only at c1 c2 eM rB;obtain⟨xl,aY⟩:=nmd cF.length;rw[aY.X]at c2;by_cases hv:xv<ab
   ·have fR:=eM.X hv
    have mR:Zb _:=fR;clear fR;have rR:yv0 xv ab= -1:=by unfold yv0;rw[z7 hv]
    have FO:=z27 xv ab xa xl xc wr;rw[rR]at FO;clear hv
    go_wp2_with fail
    refine FO.mono ?_;rintro e w2 ⟨rfl,hb⟩;go_wp2;go_roundw
    case rel=>exact⟨h+1,j,by omega,hj,by first|rfl|go_num,rfl,HB.trans (hb.mono HB.size),mR.X,vM.X⟩
    case measure=>simp[intOf];omega
   ·have mR:Zb _:=rB.X hv
    obtain⟨cv,Dy⟩:=nmd (yv0 xv ab);have rR:0<=cv:=by rw[<-Dy.X];unfold yv0;rw[ye hv];split<;>omega
    have FO:=z27 xv ab xa xl xc wr;rw[Dy.X]at FO;have hd:¬cv<0:=by omega
    clear hv
    go_wp2_with fail
    refine FO.mono ?_;rintro e w2 ⟨rfl,hb⟩;go_wp2;go_roundw
    case rel=>exact⟨i,h,lG,by omega,rfl,rfl,HB.trans (hb.mono HB.size),aF.X,mR.X⟩
    case measure=>simp[intOf];omega
  ·have oC:¬((i:Int)<(j:Int)):=by omega
   have sK:i=j:=by omega
   subst sK;have sH:Zb (y30 R ab i):=⟨by rw[HN.X];exact hj,aF.X,fun t h1 h2=>vM.X t h1 (by rw[<-HN.X];exact h2)⟩;clear oC ah lN;by_cases be:i<n
   ·have km:(i:Int)<(n:Int):=by omega
    have uz:=zW km;obtain⟨b,off,e,c1,c2,-⟩:=(HR.below HB.X) i (by rw[HN.X];omega);subst e;have rB:Zb _:=vM.X i (zT _) be;obtain⟨x,HX⟩:=nmd (R.getD i rt0);rw[HX.X]at c1 c2 rB;obtain⟨xv,xa,cF,xc⟩:=x;simp only at c1 c2 rB;obtain⟨xl,aY⟩:=nmd cF.length;rw[aY.X]at c2;have FO:=z27 xv ab xa xl xc wr;by_cases hv:xv=ab
    ·have rR:yv0 xv ab=0:=by unfold yv0;rw[hv,ye (by omega),ye (by omega)]
     have hr:yo3 R ab i=true:=zW ⟨by rw[HN.X];exact be,by rw[HX.X];exact hv⟩;rw[rR]at FO;clear rR hv
     go_wp2_with fail
     refine FO.mono ?_;rintro e w2 ⟨rfl,hb⟩;go_wp2;go_ret2;exact⟨i,by rw[hr];rfl,sH.X,HB.trans (hb.mono HB.size)⟩
    ·have rR:yv0 xv ab=1:=by unfold yv0;have:=rB.X;rw[ye (by omega),z7 (by omega)]
     have hr:yo3 R ab i=false:=zX (fun h=>by rw[HX.X]at h;exact hv h.2);rw[rR]at FO;clear rR hv
     go_wp2_with fail
     refine FO.mono ?_;rintro e w2 ⟨rfl,hb⟩;go_wp2;go_ret2;exact⟨i,by rw[hr];rfl,sH.X,HB.trans (hb.mono HB.size)⟩
   ·have km:¬((i:Int)<(n:Int)):=by omega
    have uz:=zX km;have hr:yo3 R ab i=false:=zX (fun h=>be (by rw[<-HN.X];exact h.1));go_wp2;go_ret2;exact⟨i,by rw[hr];rfl,sH.X,HB.X⟩
theorem z54(ra la:Option Zd)(rc ln lc:Nat)(R:List RT)(ab:Int)(w:zi)(hR:za9 w ra R)(hn:R.length<=1048576)(hS:zf7 R):
 Zc zh 170 #[.agg #[za ra R.length rc,za la ln lc],ze zd ab] w fun e w'=>∃k:Nat,e=.returned (.tuple #[ze zd k,.bool (yo3 R ab k)])/\y30 R ab k/\Za w.heap.size w w':=by
 have oF:Za w.heap.size w (w.alloc (zg #[za ra R.length rc,za la ln lc] 33)):=zP _;have SA:=yo1 ra rc R ab _ (hR.below oF) hn hS;have hr:(w.alloc (zg #[za ra R.length rc,za la ln lc] 33)).heap[w.heap.size]? =some (zg #[za ra R.length rc,za la ln lc] 33 (0,0)):=zS _ _;obtain⟨t0,t1⟩:=za1 hr;clear hR hS hr;go_enter Tryz.func170,Tryz.ntmps170
 go_wp2_with fail
 refine SA.mono ?_;rintro e w2 ⟨k,rfl,hk,hb⟩;go_wp2;go_ret2;exact⟨k,rfl,hk,oF.trans (hb.mono oF.size)⟩
theorem y53{R:List RT}{ab:Int}{k:Nat}(h:y30 R ab k)(hf:yo3 R ab k=true):k<R.length/\zc7 R ab=R.getD k rt0:=by
 have h1:=zZ hf;exact⟨h1.1,ys0 h1.1 (fun j hj=>by have:=h.lo j hj;omega) h1.2⟩
theorem yG4{R:List RT}{ab:Int}{k:Nat}(hS:zf7 R)(h:y30 R ab k)(hf:yo3 R ab k=false):zc7 R ab=⟨ab,none,[],0⟩:=by
 have h1:=of_decide_eq_false hf;refine yy2 fun j hj e=> ?_;rcases Nat.lt_trichotomy j k with h2|h2|h2
 ·have:=h.lo j h2;omega
 ·exact h1 (by rw[<-h2];exact⟨hj,e⟩)
 ·have h3:=h.hi k (zT _) (by omega)
  have h4:=hS.lt (j - k - 1) k (by omega);rw[show k+(j - k - 1)+1=j by omega]at h4;omega
abbrev zg2:=Int×Int×Nat
def spF:List zg2->List Int
 |[]=>[]
 |p::l=>p.1::p.2.1::(p.2.2:Int)::spF l
theorem zS4:∀l:List zg2,(spF l).length=l.length*3
 |[]=>rfl
 |p::l=>by simp[spF,zS4 l];omega
theorem yx6:∀(l m:List zg2),spF (l++m)=spF l++spF m
 |[],m=>rfl
 |p::l,m=>by simp[spF,yx6 l m]
theorem yB6:∀(l:List zg2) (k:Nat) (p:zg2),l[k]? =some p->(spF l).getD (k*3) 0=p.1/\(spF l).getD (k*3+1) 0=p.2.1/\(spF l).getD (k*3+2) 0=(p.2.2:Int)
 |[],k,p,h=>by simp at h
 |q::l,0,p,h=>by
  simp at h;subst h;simp[spF]
 |q::l,k+1,p,h=>by
  have ih:=yB6 l k p (by simpa using h);have e1:(k+1)*3=k*3+1+1+1:=by omega
  have e2:k*3+1+1+1+1=k*3+1+1+1+1:=rfl;have e3:k*3+1+1+1+2=k*3+2+1+1+1:=by omega
  rw[e1,e3];simpa[spF]using ih
def sp1(id ab:Int)(a:Nat):List zg2:=(List.range a).map (fun k=>(id,ab,k))
theorem y23(id ab:Int)(a:Nat):(sp1 id ab a).length=a:=by simp[sp1]
theorem zS7(id ab:Int)(a:Nat):sp1 id ab (a+1)=sp1 id ab a++[(id,ab,a)]:=by simp[sp1,yN]
def sp2(R:List RT)(V:List Int)(id:Int):Nat->List zg2
 |0=>[]
 |k+1=>sp2 R V id k++sp1 id (V.getD (k*5) 0) ((zc7 R (V.getD (k*5) 0)).ids.length+1)
def sp3(R:List RT)(V:List Int)(kv:Nat)(ids:List Int):Nat->List zg2
 |0=>[]
 |i+1=>sp3 R V kv ids i++sp2 R V (ids.getD i 0) kv
theorem z56{R:List RT}{b:Nat}(h:∀r∈R,r.ids.length<=b)(ab:Int):(zc7 R ab).ids.length<=b:=by
 rcases zv0 R ab with h1|h1
 ·exact h _ h1
 ·rw[h1];exact xi _
theorem yd8{R:List RT}(h:∀r∈R,r.ids.length<=12)(V:List Int)(id:Int):∀k,(sp2 R V id k).length<=k*13
 |0=>zT _
 |k+1=>by
  have h1:=yd8 h V id k;have h2:=z56 h (V.getD (k*5) 0);show(sp2 R V id k++_).length<=_;rw[xY,y23];omega
theorem zR5{R:List RT}(h:∀r∈R,r.ids.length<=12)(V:List Int){kv:Nat}(hk:kv<=5)(ids:List Int):∀i,(sp3 R V kv ids i).length<=i*65
 |0=>zT _
 |i+1=>by
  have h1:=zR5 h V hk ids i;have h2:=yd8 h V (ids.getD i 0) kv;show(sp3 R V kv ids i++_).length<=_;rw[xY];omega
structure QS where
 f:Bool
 s:zg2
 v:Int
def qs0:QS:=⟨false,(0,0,0),0⟩
def zl7(ok:zg2->Bool)(dl:zg2->Int)(s:QS)(p:zg2):QS:=if ok p=true/\(s.f=false∨dl p<s.v)then⟨true,p,dl p⟩else s
def qst(ok:zg2->Bool)(dl:zg2->Int)(l:List zg2):QS:=l.foldl (zl7 ok dl) qs0
theorem zD3(ok:zg2->Bool)(dl:zg2->Int)(l:List zg2)(p:zg2):qst ok dl (l++[p])=zl7 ok dl (qst ok dl l) p:=by simp[qst,yH]
theorem zY6{ok:zg2->Bool}{dl:zg2->Int}{s:QS}{p:zg2}(h1:ok p=true)(h2:s.f=false):zl7 ok dl s p=⟨true,p,dl p⟩:=z7 ⟨h1,.inl h2⟩
theorem z36{ok:zg2->Bool}{dl:zg2->Int}{s:QS}{p:zg2}(h1:ok p=true)(h2:dl p<s.v):zl7 ok dl s p=⟨true,p,dl p⟩:=z7 ⟨h1,.inr h2⟩
theorem zq3{ok:zg2->Bool}{dl:zg2->Int}{s:QS}{p:zg2}(h1:ok p=false):zl7 ok dl s p=s:=ye fun h=>by have:=h.1;rw[h1]at this;cases this
theorem zw4{ok:zg2->Bool}{dl:zg2->Int}{s:QS}{p:zg2}(h1:s.f=true)(h2:¬dl p<s.v):zl7 ok dl s p=s:=ye fun h=>by
 rcases h.2 with h|h
 ·rw[h1]at h;cases h
 ·exact h2 h
theorem zz9{ok:zg2->Bool}{dl:zg2->Int}(l:List zg2):(qst ok dl l).f=true->(qst ok dl l).s∈l/\ok (qst ok dl l).s=true/\dl (qst ok dl l).s=(qst ok dl l).v:=by
 suffices h:∀(m:List zg2) (s:QS),(s.f=true->s.s∈l/\ok s.s=true/\dl s.s=s.v)->(∀p∈m,p∈l)->(m.foldl (zl7 ok dl) s).f=true->(m.foldl (zl7 ok dl) s).s∈l/\ok (m.foldl (zl7 ok dl) s).s=true/\dl (m.foldl (zl7 ok dl) s).s=(m.foldl (zl7 ok dl) s).v from
  h l qs0 (fun e=>by cases e) (fun _ h=>h)
 intro m
 induction m with
 |nil=>intro s hs _ hf;exact hs hf
 |cons p m ih=>
  intro s hs hm hf;rw[yM]at hf⊢;refine ih _ (fun h9=> ?_) (fun q hq=>hm q (yt _ hq)) hf;unfold zl7 at h9⊢;split
  ·rename_i hc
   exact⟨hm p (yB ..),hc.1,rfl⟩
  ·rename_i hc
   rw[ye hc]at h9;exact hs h9
theorem zv9{w:zi}{k:Nat}{c0 c1 c2:Value}{T:TypeId}(r:w.heap[k]? =some (zg #[c0,c1,c2] T (0,0))):w.cell? ⟨k,0,none⟩=some c0/\w.cell? ⟨k,1,none⟩=some c1/\w.cell? ⟨k,2,none⟩=some c2:=
 ⟨zU _ _ 0 _ _ _ r,zU _ _ 1 _ _ _ r,zU _ _ 2 _ _ _ r⟩
def LS(w W:zi)(s:zg2):Prop:=Za w.heap.size w W/\W.heap[w.heap.size]? =some (zg #[ze zd 0,ze zd 0,ze zd 0] 129 (0,0))/\W.heap[w.heap.size+1]? =some (zg #[ze zd s.1,ze zd s.2.1,ze zd (s.2.2:Int)] 129 (0,0))
theorem LS.below{w W W':zi}{s:zg2}(h:LS w W s)(hb:Za W.heap.size W W'):LS w W' s:=⟨h.1.trans (hb.mono h.1.size),za0 hb (za2 h.2.1) h.2.1,za0 hb (za2 h.2.2) h.2.2⟩
theorem LS.b{w W:zi}{s:zg2}(h:LS w W s):Za w.heap.size w W:=h.1
theorem LS.put{w W:zi}{s:zg2}(h:LS w W s)(id ab:Int)(pl:Nat):LS w (((W.setCell ⟨w.heap.size+1,0,none⟩ (ze zd id)).setCell ⟨w.heap.size+1,1,none⟩ (ze zd ab)).setCell ⟨w.heap.size+1,2,none⟩ (ze zd (pl:Int))) (id,ab,pl):=by
 have s1:=xb W (w.heap.size+1) 0 _ _ (ze zd id) h.2.2;have s2:=xb _ (w.heap.size+1) 1 _ _ (ze zd ab) s1;have s3:=xb _ (w.heap.size+1) 2 _ _ (ze zd (pl:Int)) s2;exact⟨((h.1.setCell (by simp) _).setCell (by simp) _).setCell (by simp) _,za8 (za8 (za8 h.2.1 (by omega)) (by omega)) (by omega),by simpa using s3⟩
theorem yh8{W:zi}{b off:Nat}{ps:List zg2}(h:za3 W (some ⟨b,off,none⟩) (spF ps)){k:Nat}{p:zg2}(hk:ps[k]? =some p):
 W.cell? ⟨b,off+k*3,none⟩=some (ze zd p.1)/\W.cell? ⟨b,off+k*3+1,none⟩=some (ze zd p.2.1)/\W.cell? ⟨b,off+k*3+2,none⟩=some (ze zd (p.2.2:Int)):=by
 have ah:k<ps.length:=by
  rcases qp k ps.length with h'|h'
  ·exact h'
  ·rw[yg h']at hk;cases hk
 have hl:=zS4 ps;have ha:=yB6 ps k p hk;have at_:∀j,j<(spF ps).length->W.cell? ⟨b,off+j,none⟩=some (ze zd ((spF ps).getD j 0)):=fun j hj=>by
  obtain⟨b',o',e,h1⟩:=h j hj;simp only[x7,qg,qt]at e;obtain⟨rfl,rfl⟩:=e;exact h1
 have h0:=at_ (k*3) (by omega);have h1:=at_ (k*3+1) (by omega);have h2:=at_ (k*3+2) (by omega);rw[ha.1]at h0;rw[ha.2.1,<-yz]at h1;rw[ha.2.2,<-yz]at h2;exact⟨h0,h1,h2⟩
theorem zn7(ra la:Option Zd)(rc ln lc:Nat)(R:List RT)(ab:Int)(w:zi)(hR:za9 w ra R)(hn:R.length<=1048576)(hS:zf7 R):
 Zc zh 153 #[.agg #[za ra R.length rc,za la ln lc],ze zd ab] w fun e w'=>e=.returned (.agg #[ze zd ab,.slice (zc7 R ab).a (zc7 R ab).ids.length (zc7 R ab).c])/\Za w.heap.size w w':=by
 have HR:=za4 hR;have HS:=za4 hS;clear hR hS;obtain⟨n,HN⟩:=nmd R.length;rw[HN.X]at hn⊢;have uK:=zL0 R ab;obtain⟨r0,tJ⟩:=nmd (zc7 R ab);rw[tJ.X]at uK⊢;have bC:=za4 uK;clear uK;have B0:Zb (Za w.heap.size w ((w.alloc (zg #[za ra n rc,za la ln lc] 33)).alloc (zg #[ze zd 0,za none 0 0] 80))):=(zP _).alloc (by simp) _;have P0:Zb (((w.alloc (zg #[za ra n rc,za la ln lc] 33)).alloc (zg #[ze zd 0,za none 0 0] 80)).heap[w.heap.size]? =some (zg #[za ra n rc,za la ln lc] 33 (0,0))):=xm _ _ _;have T0:Zb (((w.alloc (zg #[za ra n rc,za la ln lc] 33)).alloc (zg #[ze zd 0,za none 0 0] 80)).heap[w.heap.size+1]? =some (zg #[ze zd 0,za none 0 0] 80 (0,0))):=xh _ _ _;have FR:=z54 ra la rc ln lc R ab _ (HR.below B0.X) (by rw[HN.X];exact hn) HS.X;rw[HN.X]at FR;obtain⟨p0,p1⟩:=za1 P0.X;go_enter Tryz.func153,Tryz.ntmps153
 go_wp2_with fail
 generalize(w.alloc _).alloc _=W0 at*;refine FR.mono ?_;rintro e w1 ⟨k,rfl,hk,hb⟩;have HK:=za4 hk;have P1:Zb _:=za0 hb (za2 P0.X) P0.X;have T1:Zb _:=za0 hb (za2 T0.X) T0.X;have B1:Zb _:=B0.trans (hb.mono B0.size);clear hk hb FR p0 p1 B0 P0 T0;obtain⟨p0,p1⟩:=za1 P1.X;obtain⟨t0,t1⟩:=za1 T1.X;have tf:=fun i=>yZ _ _ i _ _ T1.X;obtain⟨f,HF⟩:=nmd (yo3 R ab k);rw[HF.X];cases f
 ·have HE:Zb (r0=⟨ab,none,[],0⟩):=by show _=_;rw[<-tJ.X];exact yG4 HS.X HK.X HF.X
  go_wp2;refine xe (v:=.agg #[ze zd ab,za none 0 0]) (by simp[results,Tryz.results153,go_sem,t0,t1]) rfl ⟨by rw[HE.X];rfl,?_⟩
  repeat(first|with_reducible exact B1.X|refine xq ?_ (by simp<;>omega) _)
 ·obtain⟨dt,he⟩:=y53 HK.X HF.X
  have cL:k<n:=by rw[<-HN.X];exact dt
  have ik:(k:Int)<(n:Int):=by omega
  obtain⟨b,off,e,c1,c2,-⟩:=(HR.below B1.X) k dt;have HE:Zb (R.getD k rt0=r0):=by show _=_;rw[<-tJ.X,he]
  rw[HE.X]at c1 c2;subst e;clear dt he;obtain⟨rv,iA,ay,dE⟩:=r0;simp only at c1 c2 bC;have hv:=bC.X;subst hv;obtain⟨rl,cu⟩:=nmd ay.length;simp only[cu.X]at c2⊢;go_wp2;refine xe (v:=.agg #[ze zd rv,za iA rl dE]) (by simp[results,Tryz.results153,go_sem,t0,t1]) rfl ⟨by rw[cu.X],?_⟩
  repeat(first|with_reducible exact B1.X|refine xq ?_ (by simp<;>omega) _)
def zw3(R:List RT):Prop:=∀r∈R,r.ids≠[]/\r.ids.length<=12/\r.ids.length<=r.c
theorem z98{w:zi}{ra:Option Zd}{R:List RT}(h:za9 w ra R)(hi:zw3 R)(ab:Int):za3 w (zc7 R ab).a (zc7 R ab).ids/\(zc7 R ab).ids.length<=12/\(zc7 R ab).ids.length<=(zc7 R ab).c/\(((zc7 R ab).a=none/\(zc7 R ab).ids.length=0)∨∃b off,(zc7 R ab).a=some ⟨b,off,none⟩):=by
 rcases zv0 R ab with h1|h1
 ·obtain⟨j,hj,e⟩:=xU h1
  obtain⟨_,_,_,_,_,h2⟩:=h j hj;have e2:R.getD j rt0=zc7 R ab:=by rw[zQ,zR hj,e];rfl
  rw[e2]at h2;obtain⟨h3,h4,h5⟩:=hi _ h1;obtain⟨b,off,e3,_⟩:=h2 0 (xV.2 h3);exact⟨h2,h4,h5,.inr ⟨b,off,e3⟩⟩
 ·rw[h1]
  exact⟨fun j hj=>by simp at hj,xi _,zT _,.inl ⟨rfl,rfl⟩⟩
theorem yk1{w:zi}{base k sc:Nat}{sa:Option Zd}{l:List zg2}(h:w.ownsRow base 129 3 (za sa k sc) k ((spF l).map (ze zd))):za3 w sa (spF l):=fun j hj=>by
 rcases own_kinds h with⟨e,h0⟩|⟨g,c,e,_,_⟩
 ·have:=h.1
  rw[qz,h0]at this;omega
 ·simp only[qA,true_and]at e
  obtain⟨rfl,rfl⟩:=e;refine⟨g,0,rfl,?_⟩;rw[yb];exact(zh0 h (by rw[yr,zQ,zR hj];rfl)).1
theorem zH7(ad:Option Zd)(c p0 p1:Nat)(ps:List zg2)(ok:zg2->Bool)(dl:zg2->Int)(w:zi)(hI:za3 w ad (spF ps))(hl:ps.length<=1000)
 (jI:∀(W:zi) (id ab:Int) (pl:Nat),Za w.heap.size w W->Zc zh 158 #[.agg #[ze zd id,ze zd ab,ze zd (pl:Int)],.pointer (some ⟨p0,0,none⟩),.pointer (some ⟨p1,0,none⟩)] W fun e w'=>e=.returned (.tuple #[ze zd (dl (id,ab,pl)),.bool (ok (id,ab,pl))])/\Za W.heap.size W w')
 (s0:QS) (jW:qst ok dl ps=s0):
 Zc zh 156 #[za ad ps.length c,.func (.func 158) #[] #[.pointer (some ⟨p0,0,none⟩),.pointer (some ⟨p1,0,none⟩)]] w fun e w'=>e=.returned (.tuple #[.agg #[ze zd s0.s.1,ze zd s0.s.2.1,ze zd (s0.s.2.2:Int)],ze zd s0.v,.bool s0.f])/\Za w.heap.size w w':=by
 have HI:=za4 hI;have HC:=za4 jI;have gO:=za4 jW;clear hI jI jW;have B0:Zb (LS w ((w.alloc (zg #[ze zd 0,ze zd 0,ze zd 0] 129)).alloc (zg #[ze zd 0,ze zd 0,ze zd 0] 129)) (0,0,0)):=⟨(zP _).alloc (by simp) _,xm _ _ _,xh _ _ _⟩;go_enter Tryz.func156,Tryz.ntmps156
 go_wp2_with fail
 go_loopw[8,9,16] (fun tv tf t wr=>∃k:Nat,k<=ps.length/\t=ze zd k/\tv=ze zd (qst ok dl (ps.take k)).v/\tf=.bool (qst ok dl (ps.take k)).f/\LS w wr (qst ok dl (ps.take k)).s) (fun _ _ t _=>ps.length - (intOf t).toNat)
 case atStart=>exact⟨0,xi _,rfl,rfl,rfl,B0.X⟩
 case round=>
  clear B0;obtain⟨k,hk,rfl,rfl,rfl,hL⟩:=hrel;by_cases ah:k<ps.length
  ·obtain⟨p,hp⟩:∃p,ps[k]? =some p:=⟨ps[k],zR ah⟩
   obtain⟨id,ab,pl⟩:=p;have jt:=zS4 ps;obtain⟨b,off,rfl,aJ⟩:=(HI.X.below hL.1).some (j:=k*3) (by omega);clear aJ;obtain⟨f0,f1,f2⟩:=yh8 (HI.X.below hL.1) hp;have hn:qst ok dl (ps.take (k+1))=zl7 ok dl (qst ok dl (ps.take k)) (id,ab,pl):=by
    rw[yI,hp,<-zD3];rfl
   obtain⟨s,HS⟩:=nmd (qst ok dl (ps.take k));rw[HS.X]at hn hL;rw[HS.X];have HN:=za4 hn;have L1:=za4 hL;clear hn hL;obtain⟨sf,ss,sv⟩:=s;simp only at L1⊢;obtain⟨d,bk⟩:=nmd (dl (id,ab,pl));obtain⟨o,pH⟩:=nmd (ok (id,ab,pl));have N1:=za4 (zS wr (zg #[ze zd id,ze zd ab,ze zd (pl:Int)] 129));have L2:Zb (LS w (wr.alloc (zg #[ze zd id,ze zd ab,ze zd (pl:Int)] 129)) ss):=L1.X.below (zP _);have bz:(k:Int)<(ps.length:Int):=by omega
   obtain⟨n0,n1,n2⟩:=zv9 N1.X;have CC:=HC.X (wr.alloc (zg #[ze zd id,ze zd ab,ze zd (pl:Int)] 129)) id ab pl (L1.X.b.alloc L1.X.b.size _);rw[bk.X,pH.X]at CC
   go_wp2_with fail
   clear f0 f1 f2 n0 n1 n2;refine CC.mono ?_;rintro e w2 ⟨rfl,hb⟩;have L3:=za4 (L2.X.below hb);have N3:=za4 (za0 hb (za2 N1.X) N1.X);clear hb N1 L2 CC;have vl:IntKind.i64.wrap ((k:Int)+1)=((k+1:Nat):Int):=by rw[xz _ (by omega)];omega
   obtain⟨n0,n1,n2⟩:=zv9 N3.X;obtain⟨q0,q1,q2⟩:=zv9 L3.X.2.2;have qf:=fun i=>yZ _ _ i _ _ L3.X.2.2;have L4:Zb (LS w _ (id,ab,pl)):=L3.X.put id ab pl;cases o
   ·have bD:Zb (qst ok dl (ps.take (k+1))=⟨sf,ss,sv⟩):=by
     show qst ok dl (ps.take (k+1))=_;rw[HN.X];exact zq3 pH.X
    go_wp2;go_roundw
    case rel=>exact⟨k+1,by omega,by first|rfl|go_num,by rw[bD.X],by rw[bD.X],by rw[bD.X];exact L3.X⟩
    case measure=>simp[intOf];omega
   ·cases sf
    ·have bD:Zb (qst ok dl (ps.take (k+1))=⟨true,(id,ab,pl),d⟩):=by
      show qst ok dl (ps.take (k+1))=_;rw[HN.X,<-bk.X];exact zY6 pH.X rfl
     go_wp2;go_roundw
     case rel=>exact⟨k+1,by omega,by first|rfl|go_num,by rw[bD.X],by rw[bD.X],by rw[bD.X];exact L4.X⟩
     case measure=>simp[intOf];omega
    ·by_cases ke:d<sv
     ·have bD:Zb (qst ok dl (ps.take (k+1))=⟨true,(id,ab,pl),d⟩):=by
       show qst ok dl (ps.take (k+1))=_;rw[HN.X,<-bk.X];exact z36 pH.X (by rw[bk.X];exact ke)
      go_wp2;go_roundw
      case rel=>exact⟨k+1,by omega,by first|rfl|go_num,by rw[bD.X],by rw[bD.X],by rw[bD.X];exact L4.X⟩
      case measure=>simp[intOf];omega
     ·have bD:Zb (qst ok dl (ps.take (k+1))=⟨true,ss,sv⟩):=by
       show qst ok dl (ps.take (k+1))=_;rw[HN.X];exact zw4 rfl (by rw[bk.X];exact ke)
      go_wp2;go_roundw
      case rel=>exact⟨k+1,by omega,by first|rfl|go_num,by rw[bD.X],by rw[bD.X],by rw[bD.X];exact L3.X⟩
      case measure=>simp[intOf];omega
  ·have cV:k=ps.length:=by omega
   subst cV;have he:qst ok dl (ps.take ps.length)=s0:=by rw[ym];exact gO.X
   rw[he]at hL;rw[he];have L1:=za4 hL;clear hL he;obtain⟨sf,⟨s1,s2,s3⟩,sv⟩:=s0;simp only at L1⊢;have h3:¬((ps.length:Int)<(ps.length:Int)):=by omega
   obtain⟨t0,t1,t2⟩:=zv9 L1.X.2.1;have tf:=fun i=>yZ _ _ i _ _ L1.X.2.1;obtain⟨q0,q1,q2⟩:=zv9 L1.X.2.2;go_wp2;refine xe (v:=.tuple #[.agg #[ze zd s1,ze zd s2,ze zd (s3:Int)],ze zd sv,.bool sf]) (by simp[results,Tryz.results156,go_sem,t0,t1,t2]) rfl ⟨rfl,?_⟩
   repeat(first|with_reducible exact L1.X.b|refine xq ?_ (by simp<;>omega) _)
theorem zJ7(ad:Option Zd)(c p0 p1:Nat)(ps:List zg2)(ok:zg2->Bool)(dl:zg2->Int)(w:zi)(hI:za3 w ad (spF ps))(hl:ps.length<=1000)
 (jI:∀(W:zi) (id ab:Int) (pl:Nat),Za w.heap.size w W->Zc zh 157 #[.agg #[ze zd id,ze zd ab,ze zd (pl:Int)],.pointer (some ⟨p0,0,none⟩),.pointer (some ⟨p1,0,none⟩)] W fun e w'=>e=.returned (.tuple #[ze zd (dl (id,ab,pl)),.bool (ok (id,ab,pl))])/\Za W.heap.size W w')
 (s0:QS) (jW:qst ok dl ps=s0):
 Zc zh 156 #[za ad ps.length c,.func (.func 157) #[] #[.pointer (some ⟨p0,0,none⟩),.pointer (some ⟨p1,0,none⟩)]] w fun e w'=>e=.returned (.tuple #[.agg #[ze zd s0.s.1,ze zd s0.s.2.1,ze zd (s0.s.2.2:Int)],ze zd s0.v,.bool s0.f])/\Za w.heap.size w w':=by
 have HI:=za4 hI;have HC:=za4 jI;have gO:=za4 jW;clear hI jI jW;have B0:Zb (LS w ((w.alloc (zg #[ze zd 0,ze zd 0,ze zd 0] 129)).alloc (zg #[ze zd 0,ze zd 0,ze zd 0] 129)) (0,0,0)):=⟨(zP _).alloc (by simp) _,xm _ _ _,xh _ _ _⟩;go_enter Tryz.func156,Tryz.ntmps156
 go_wp2_with fail
 go_loopw[8,9,16] (fun tv tf t wr=>∃k:Nat,k<=ps.length/\t=ze zd k/\tv=ze zd (qst ok dl (ps.take k)).v/\tf=.bool (qst ok dl (ps.take k)).f/\LS w wr (qst ok dl (ps.take k)).s) (fun _ _ t _=>ps.length - (intOf t).toNat)
 case atStart=>exact⟨0,xi _,rfl,rfl,rfl,B0.X⟩
 case round=>
  clear B0;obtain⟨k,hk,rfl,rfl,rfl,hL⟩:=hrel;by_cases ah:k<ps.length
  ·obtain⟨p,hp⟩:∃p,ps[k]? =some p:=⟨ps[k],zR ah⟩
   obtain⟨id,ab,pl⟩:=p;have jt:=zS4 ps;obtain⟨b,off,rfl,aJ⟩:=(HI.X.below hL.1).some (j:=k*3) (by omega);clear aJ;obtain⟨f0,f1,f2⟩:=yh8 (HI.X.below hL.1) hp;have hn:qst ok dl (ps.take (k+1))=zl7 ok dl (qst ok dl (ps.take k)) (id,ab,pl):=by
    rw[yI,hp,<-zD3];rfl
   obtain⟨s,HS⟩:=nmd (qst ok dl (ps.take k));rw[HS.X]at hn hL;rw[HS.X];have HN:=za4 hn;have L1:=za4 hL;clear hn hL;obtain⟨sf,ss,sv⟩:=s;simp only at L1⊢;obtain⟨d,bk⟩:=nmd (dl (id,ab,pl));obtain⟨o,pH⟩:=nmd (ok (id,ab,pl));have N1:=za4 (zS wr (zg #[ze zd id,ze zd ab,ze zd (pl:Int)] 129));have L2:Zb (LS w (wr.alloc (zg #[ze zd id,ze zd ab,ze zd (pl:Int)] 129)) ss):=L1.X.below (zP _);have bz:(k:Int)<(ps.length:Int):=by omega
   obtain⟨n0,n1,n2⟩:=zv9 N1.X;have CC:=HC.X (wr.alloc (zg #[ze zd id,ze zd ab,ze zd (pl:Int)] 129)) id ab pl (L1.X.b.alloc L1.X.b.size _);rw[bk.X,pH.X]at CC
   go_wp2_with fail
   clear f0 f1 f2 n0 n1 n2;refine CC.mono ?_;rintro e w2 ⟨rfl,hb⟩;have L3:=za4 (L2.X.below hb);have N3:=za4 (za0 hb (za2 N1.X) N1.X);clear hb N1 L2 CC;have vl:IntKind.i64.wrap ((k:Int)+1)=((k+1:Nat):Int):=by rw[xz _ (by omega)];omega
   obtain⟨n0,n1,n2⟩:=zv9 N3.X;obtain⟨q0,q1,q2⟩:=zv9 L3.X.2.2;have qf:=fun i=>yZ _ _ i _ _ L3.X.2.2;have L4:Zb (LS w _ (id,ab,pl)):=L3.X.put id ab pl;cases o
   ·have bD:Zb (qst ok dl (ps.take (k+1))=⟨sf,ss,sv⟩):=by
     show qst ok dl (ps.take (k+1))=_;rw[HN.X];exact zq3 pH.X
    go_wp2;go_roundw
    case rel=>exact⟨k+1,by omega,by first|rfl|go_num,by rw[bD.X],by rw[bD.X],by rw[bD.X];exact L3.X⟩
    case measure=>simp[intOf];omega
   ·cases sf
    ·have bD:Zb (qst ok dl (ps.take (k+1))=⟨true,(id,ab,pl),d⟩):=by
      show qst ok dl (ps.take (k+1))=_;rw[HN.X,<-bk.X];exact zY6 pH.X rfl
     go_wp2;go_roundw
     case rel=>exact⟨k+1,by omega,by first|rfl|go_num,by rw[bD.X],by rw[bD.X],by rw[bD.X];exact L4.X⟩
     case measure=>simp[intOf];omega
    ·by_cases ke:d<sv
     ·have bD:Zb (qst ok dl (ps.take (k+1))=⟨true,(id,ab,pl),d⟩):=by
       show qst ok dl (ps.take (k+1))=_;rw[HN.X,<-bk.X];exact z36 pH.X (by rw[bk.X];exact ke)
      go_wp2;go_roundw
      case rel=>exact⟨k+1,by omega,by first|rfl|go_num,by rw[bD.X],by rw[bD.X],by rw[bD.X];exact L4.X⟩
      case measure=>simp[intOf];omega
     ·have bD:Zb (qst ok dl (ps.take (k+1))=⟨true,ss,sv⟩):=by
       show qst ok dl (ps.take (k+1))=_;rw[HN.X];exact zw4 rfl (by rw[bk.X];exact ke)
      go_wp2;go_roundw
      case rel=>exact⟨k+1,by omega,by first|rfl|go_num,by rw[bD.X],by rw[bD.X],by rw[bD.X];exact L3.X⟩
      case measure=>simp[intOf];omega
  ·have cV:k=ps.length:=by omega
   subst cV;have he:qst ok dl (ps.take ps.length)=s0:=by rw[ym];exact gO.X
   rw[he]at hL;rw[he];have L1:=za4 hL;clear hL he;obtain⟨sf,⟨s1,s2,s3⟩,sv⟩:=s0;simp only at L1⊢;have h3:¬((ps.length:Int)<(ps.length:Int)):=by omega
   obtain⟨t0,t1,t2⟩:=zv9 L1.X.2.1;have tf:=fun i=>yZ _ _ i _ _ L1.X.2.1;obtain⟨q0,q1,q2⟩:=zv9 L1.X.2.2;go_wp2;refine xe (v:=.tuple #[.agg #[ze zd s1,ze zd s2,ze zd (s3:Int)],ze zd sv,.bool sf]) (by simp[results,Tryz.results156,go_sem,t0,t1,t2]) rfl ⟨rfl,?_⟩
   repeat(first|with_reducible exact L1.X.b|refine xq ?_ (by simp<;>omega) _)
