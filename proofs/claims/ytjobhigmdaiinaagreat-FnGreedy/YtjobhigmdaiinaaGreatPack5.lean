import Derived.Test.YtjobhigmdaiinaaGreatPack1
import Derived.Test.YtjobhigmdaiinaaGreatPack3
import Derived.Test.YtjobhigmdaiinaaGreatPack4
import Derived.BigQuiet
namespace Go.Proofs.YtjobhigmdaiinaaGreat
open Go.RowKit
structure PO(w:World)(base:Nat)(rs:Value)(S:List RT)(ls:Value)(L:List Int):Prop where
 r:w.ownsRow base 43 2 rs S.length (zg9 S)
 s:∀s∈S,w.ownsRow base 2 1 (.slice s.a s.ids.length s.c) s.ids.length (s.ids.map (Value.int .i64))
 l:w.ownsRow base 2 1 ls L.length (L.map (Value.int .i64))
theorem PO.below{w w':World}{base:Nat}{rs ls:Value}{S:List RT}{L:List Int}(h:PO w base rs S ls L)(hb:Below w.heap.size w w'):PO w' base rs S ls L:=
 ⟨zc2 h.r hb,fun s hs=>zc2 (h.s s hs) hb,zc2 h.l hb⟩
theorem PO.base{w:World}{base b0:Nat}{rs ls:Value}{S:List RT}{L:List Int}(h:PO w base rs S ls L)(hb:b0<=base):PO w b0 rs S ls L:=
 ⟨zb7 h.r hb,fun s hs=>zb7 (h.s s hs) hb,zb7 h.l hb⟩
theorem PO.set{w:World}{base b i:Nat}{rs ls u:Value}{S:List RT}{L:List Int}(h:PO w base rs S ls L)(hb:b<base):PO (w.setCell ⟨b,i,none⟩ u) base rs S ls L:=
 ⟨ze5 h.r hb,fun s hs=>ze5 (h.s s hs) hb,ze5 h.l hb⟩
theorem zh9{w w':World}{base size n q:Nat}{e:TypeId}{v:Value}{xs:List Value}(h:w.ownsRow base e size v n xs)(hg:w.grownBy w' (some q))(hq:v.ownBlock≠some q):w'.ownsRow base e size v n xs:=by
 obtain⟨h1,h2|⟨g,cap,cur,h2,h3,h4,h5⟩⟩:=h
 ·exact⟨h1,.inl h2⟩
 ·refine⟨h1,.inr ⟨g,cap,cur,h2,h3,za5 hg h4 (fun e=>hq ?_),h5⟩⟩
  rw[h2];exact e
theorem zF1{w:World}{base size n q:Nat}{e:TypeId}{v:Value}{xs:List Value}(h:w.ownsRow base e size v n xs)(hq:q<base∨w.heap.size<=q):v.ownBlock≠some q:=fun e=>by
 have:=h.lt q e;omega
theorem PO.other{w w':World}{base q:Nat}{rs ls:Value}{S:List RT}{L:List Int}(h:PO w base rs S ls L)(hg:w.grownBy w' (some q))(hq:q<base∨w.heap.size<=q):PO w' base rs S ls L:=
 ⟨zh9 h.r hg (zF1 h.r hq),fun s hs=>zh9 (h.s s hs) hg (zF1 (h.s s hs) hq),zh9 h.l hg (zF1 h.l hq)⟩
theorem PO.rv{w:World}{base:Nat}{rs ls:Value}{S:List RT}{L:List Int}(h:PO w base rs S ls L):(rs=.slice none 0 0/\S.length=0)∨∃g c,rs=.slice (some ⟨g,0,none⟩) S.length c/\base<=g/\g<w.heap.size:=own_kinds h.r
theorem PO.ints{w:World}{base:Nat}{rs ls:Value}{S:List RT}{L:List Int}(h:PO w base rs S ls L):∀s∈S,za0 w s.a s.ids/\s.ids.length<=s.c:=fun s hs=>by
 have ho:=h.s s hs;have hoc:=ho;obtain⟨a',c',e,_,hi⟩:=zy0 ho;have e2:s.a=a':=by injection e
 refine⟨by rw[e2];exact hi,?_⟩;obtain⟨_,⟨h1,h2⟩|⟨g',cap,cur,h2,_,_,h3,_⟩⟩:=hoc
 ·omega
 ·injection h2 with _ _ e3
  omega
theorem PO.at{w:World}{base rc:Nat}{ra:Option Addr}{ls:Value}{S:List RT}{L:List Int}(h:PO w base (.slice ra S.length rc) S ls L):za6 w ra S:=fun j hj=>by
 rcases h.rv with⟨_,h0⟩|⟨g,c,e,_,_⟩
 ·omega
 ·simp only[Value.slice.injEq]at e
  obtain⟨rfl,_,rfl⟩:=e;obtain⟨q1,q2⟩:=z71 S j hj;have c1:=(zf6 h.r q1).1;have c2:=(zf6 h.r q2).1;have hm:S.getD j rt0∈S:=by rw[List.getD_eq_getElem?_getD,List.getElem?_eq_getElem hj];simp
  exact⟨g,0,rfl,by rw[Nat.zero_add];exact c1,by rw[Nat.zero_add];exact c2,(h.ints _ hm).1⟩
def zd9(R:List RT)(veh:Int):RT:=(R.find? (fun r=>r.v==veh)).getD ⟨veh,none,[],0⟩
theorem yg2(R:List RT)(veh:Int):(zd9 R veh).v=veh:=by
 unfold zd9;cases h:R.find? (fun r=>r.v==veh)with
 |none=>rfl
 |some r=>simpa using List.find?_some h
theorem z24(R:List RT)(veh:Int):zd9 R veh∈R∨zd9 R veh=⟨veh,none,[],0⟩:=by
 unfold zd9;cases h:R.find? (fun r=>r.v==veh)with
 |none=>exact .inr rfl
 |some r=>exact .inl (List.mem_of_find?_eq_some h)
theorem zZ5{R:List RT}{veh:Int}{k:Nat}(hk:k<R.length)(h1:∀j,j<k->(R.getD j rt0).v≠veh)(h2:(R.getD k rt0).v=veh):zd9 R veh=R.getD k rt0:=by
 induction R generalizing k with
 |nil=>simp at hk
 |cons r R ih=>
  unfold zd9;cases k with
  |zero=>
   have:r.v=veh:=by simpa using h2
   simp[this]
  |succ k=>
   have h0:r.v≠veh:=by simpa using h1 0 (by omega)
   have:=ih (k:=k) (by simpa using hk) (fun j hj=>by simpa using h1 (j+1) (by omega)) (by simpa using h2);unfold zd9 at this;have hb:(r.v==veh)=false:=by simp[h0]
   rw[List.find?_cons,hb];simpa using this
theorem zL5{R:List RT}{veh:Int}(h1:∀j,j<R.length->(R.getD j rt0).v≠veh):zd9 R veh=⟨veh,none,[],0⟩:=by
 unfold zd9;rw[List.find?_eq_none.2]
 ·rfl
 ·intro r hr
  obtain⟨j,hj,e⟩:=List.getElem_of_mem hr;have:=h1 j hj;rw[List.getD_eq_getElem?_getD,List.getElem?_eq_getElem hj]at this;simp only[Option.getD_some,e]at this;simp[this]
set_option maxHeartbeats 2000000 in
theorem z60(ra la:Option Addr)(rc ln lc:Nat)(R:List RT)(veh:Int)(w:World)(hR:za6 w ra R)(hn:R.length<=1048576):
 Calls Tryz.prog 66 #[.agg #[.slice ra R.length rc,.slice la ln lc],.int .i64 veh] w fun e w'=>e=.returned (.agg #[.int .i64 veh,.slice (zd9 R veh).a (zd9 R veh).ids.length (zd9 R veh).c])/\Below w.heap.size w w':=by
 have HR:Hid (za6 w ra R):=hR;clear hR;obtain⟨n,HN⟩:=nmd R.length;rw[HN.out]at hn⊢;have hRV:=yg2 R veh;obtain⟨r0,HR0⟩:=nmd (zd9 R veh);rw[HR0.out]at hRV⊢;have HRV:Hid (r0.v=veh):=hRV;clear hRV;have B0:Hid (Below w.heap.size w ((w.alloc (.cells #[.slice ra n rc,.slice la ln lc] 33)).alloc (.cells #[Value.int .i64 0,Value.slice none 0 0] 43))):=((Below.refl _ _).alloc (Nat.le_refl _) _).alloc (by simp) _;have P0:Hid (((w.alloc (.cells #[.slice ra n rc,.slice la ln lc] 33)).alloc (.cells #[Value.int .i64 0,Value.slice none 0 0] 43)).heap[w.heap.size]? =some (.cells #[.slice ra n rc,.slice la ln lc] 33 (0,0))):=heap_alloc2_old _ _ _;have T0:Hid (((w.alloc (.cells #[.slice ra n rc,.slice la ln lc] 33)).alloc (.cells #[Value.int .i64 0,Value.slice none 0 0] 43)).heap[w.heap.size+1]? =some (.cells #[Value.int .i64 0,Value.slice none 0 0] 43 (0,0))):=heap_alloc2_new _ _ _;go_enter Tryz.func66,Tryz.ntmps66
 go_wp2_with fail
 generalize(w.alloc (.cells #[.slice ra n rc,.slice la ln lc] 33)).alloc (.cells #[Value.int .i64 0,Value.slice none 0 0] 43)=W0 at*
 go_loop [5] (fun t=>∃k:Nat,k<=n/\t=.int .i64 k/\∀j,j<k->(R.getD j rt0).v≠veh) (fun t=>n - (intOf t).toNat)
 case atStart=>exact⟨0,Nat.zero_le _,rfl,fun j hj=>by omega⟩
 case round=>
  obtain⟨k,hk,rfl,hj⟩:=hrel;have HJ:Hid _:=hj;clear hj;obtain⟨p0,p1⟩:=za2 P0.out;obtain⟨t0,t1⟩:=za2 T0.out;have tf:=fun i=>frozen_of_row _ _ i _ _ T0.out;by_cases hlt:k<n
  ·have hkI:(k:Int)<(n:Int):=by omega
   have hkR:k<R.length:=by rw[HN.out];exact hlt
   obtain⟨b,off,e,c1,c2,-⟩:=(HR.below B0.out) k hkR;subst e;have HST:Hid ((R.getD k rt0).v≠veh->∀j,j<k+1->(R.getD j rt0).v≠veh):=fun h j hj=>by
    by_cases e:j=k
    ·rw[e];exact h
    ·exact HJ.out j (by omega)
   have HAT:Hid ((R.getD k rt0).v=veh->r0=R.getD k rt0):=fun h=>by rw[<-HR0.out];exact zZ5 hkR HJ.out h
   obtain⟨r,HRK⟩:=nmd (R.getD k rt0);rw[HRK.out]at c1 c2 HST HAT;by_cases hv:r.v=veh
   ·have HE:Hid (r0=r):=HAT.out hv
    rw[hv]at c1;have hvv:(veh==veh)=true:=by simp
    obtain⟨rv,rra,rids,rcc⟩:=r;simp only at hv c2;obtain⟨rl,HRL⟩:=nmd rids.length;rw[HRL.out]at c2;clear hv;go_wp2;refine bodyPost_ret (v:=.agg #[.int .i64 veh,.slice rra rl rcc]) (by simp[results,Tryz.results66,go_sem,t0,t1]) rfl ⟨by rw[HE.out];simp only;rw[HRL.out],?_⟩
    repeat(first|with_reducible exact B0.out|refine Below.setCell ?_ (by simp<;>omega) _)
   ·have hvv:(r.v==veh)=false:=by simp[hv]
    have HJ2:Hid _:=HST.out hv;obtain⟨rv,HRV2⟩:=nmd r.v;rw[HRV2.out]at c1 hvv;clear hv c2;go_wp2
    go_round
    case rel=>exact⟨k+1,by omega,by go_num,HJ2.out⟩
    case measure=>simp[intOf];omega
  ·have hkI:¬((k:Int)<(n:Int)):=by omega
   have HE:Hid (r0=⟨veh,none,[],0⟩):=by
    show _=_;rw[<-HR0.out];exact zL5 (fun j hj=>HJ.out j (by rw[HN.out]at hj;omega))
   go_wp2;refine bodyPost_ret (v:=.agg #[.int .i64 veh,.slice none 0 0]) (by simp[results,Tryz.results66,go_sem,t0,t1]) rfl ⟨by rw[HE.out];rfl,?_⟩
   repeat(first|with_reducible exact B0.out|refine Below.setCell ?_ (by simp<;>omega) _)
theorem zf3{w:World}{base size n k:Nat}{e T:TypeId}{v:Value}{xs:List Value}{cs:Array Value}(h:w.ownsRow base e size v n xs)(hr:w.heap[k]? =some (.cells cs T (0,0)))(hT:T≠e):v.ownBlock≠some k:=fun he=>by
 rcases h.2 with⟨rfl,_⟩|⟨g,c,cur,rfl,_,hg,_⟩
 ·cases he
 ·simp[Value.ownBlock]at he
  rw[he,hr]at hg;simp at hg;exact hT hg.2
theorem ze4{w:World}{base size n k i:Nat}{e T:TypeId}{v u:Value}{xs:List Value}{cs:Array Value}(h:w.ownsRow base e size v n xs)(hr:w.heap[k]? =some (.cells cs T (0,0)))(hT:T≠e):(w.setCell ⟨k,i,none⟩ u).ownsRow base e size v n xs:=zh9 h (za9 w k i u) (zf3 h hr hT)
theorem zv9(v veh:Int)(a:Option Addr)(l c:Nat)(w:World):Calls Tryz.prog 132 #[.agg #[.int .i64 v,.slice a l c],.int .i64 veh] w fun e w'=>e=.returned (.int .i64 (ya1 v veh))/\Below w.heap.size w w':=by
 have hr:(w.alloc (.cells #[.int .i64 v,.slice a l c] 43)).heap[w.heap.size]? =some (.cells #[.int .i64 v,.slice a l c] 43 (0,0)):=heap_alloc_new _ _;obtain⟨t0,t1⟩:=za2 hr;go_enter Tryz.func132,Tryz.ntmps132
 go_wp2_with(go_at_call 133;refine(zN4 _ _ _).mono ?_;rintro e w' ⟨rfl,hw⟩;subst hw)
 go_ret;exact⟨rfl,(Below.refl _ _).alloc (Nat.le_refl _) _⟩
structure yg5(R:List RT)(veh:Int)(k:Nat):Prop where
 le:k<=R.length
 lo:∀j,j<k->(R.getD j rt0).v<veh
 hi:∀j,k<=j->j<R.length->veh<=(R.getD j rt0).v
def zX2(R:List RT)(veh:Int)(k:Nat):Bool:=decide (k<R.length/\(R.getD k rt0).v=veh)
def ze1(R:List RT):Prop:=∀j,0<j->j<R.length->(R.getD (j - 1) rt0).v<(R.getD j rt0).v
theorem ze1.lt{R:List RT}(h:ze1 R):∀(d i:Nat),i+d+1<R.length->(R.getD i rt0).v<(R.getD (i+d+1) rt0).v
 |0,i,hi=>h (i+1) (by omega) hi
 |d+1,i,hi=>Int.lt_trans (ze1.lt h d i (by omega)) (h (i+d+1+1) (by omega) hi)
theorem ze1.le{R:List RT}(h:ze1 R){i j:Nat}(hij:i<=j)(hj:j<R.length):(R.getD i rt0).v<=(R.getD j rt0).v:=by
 by_cases e:i=j
 ·rw[e];exact Int.le_refl _
 ·have:=h.lt (j - i - 1) i (by omega)
  rw[show i+(j - i - 1)+1=j by omega]at this;omega
set_option maxHeartbeats 2000000 in
set_option maxRecDepth 20000 in
theorem zV1(ra:Option Addr)(rc:Nat)(R:List RT)(veh:Int)(w:World)(hR:za6 w ra R)(hn:R.length<=1048576)(hS:ze1 R):
 Calls Tryz.prog 131 #[.slice ra R.length rc,.int .i64 veh,.func (.func 132) #[] #[]] w fun e w'=>∃k:Nat,e=.returned (.tuple #[.int .i64 k,.bool (zX2 R veh k)])/\yg5 R veh k/\Below w.heap.size w w':=by
 have HR:Hid (za6 w ra R):=hR;have HS:Hid (ze1 R):=hS;clear hR hS;obtain⟨n,HN⟩:=nmd R.length;rw[HN.out]at hn⊢;go_enter Tryz.func131,Tryz.ntmps131
 go_wp2_with fail
 go_loopw[9,10] (fun ti tj wr=>∃i j:Nat,i<=j/\j<=n/\ti=.int .i64 i/\tj=.int .i64 j/\Below w.heap.size w wr/\(∀t,t<i->(R.getD t rt0).v<veh)/\(∀t,j<=t->t<n->veh<=(R.getD t rt0).v)) (fun ti tj _=>(intOf tj).toNat - (intOf ti).toNat)
 case atStart=>exact⟨0,n,Nat.zero_le _,Nat.le_refl _,rfl,rfl,Below.refl _ _,fun t ht=>by omega,fun t h1 h2=>by omega⟩
 case round=>
  obtain⟨i,j,hij,hj,rfl,rfl,hb,hlo,hhi⟩:=hrel;have HB:Hid _:=hb;have HLO:Hid _:=hlo;have HHI:Hid _:=hhi;clear hb hlo hhi;by_cases hlt:i<j
  ·have hiI:(i:Int)<(j:Int):=by omega
   obtain⟨h,HH⟩:∃h:Nat,Hid ((i+j) / 2=h):=⟨_,rfl⟩;have hhi:i<=h:=by have:=HH.out;omega
   have hhj:h<j:=by have:=HH.out;omega
   have hm:((i:Int)+(j:Int)) / 2=(h:Int):=by have:=HH.out;omega
   obtain⟨b,off,e,c1,c2,-⟩:=(HR.below HB.out) h (by rw[HN.out];omega);subst e;have hhn:(h:Int)<(n:Int):=by omega
   have HLT:Hid ((R.getD h rt0).v<veh->∀t,t<h+1->(R.getD t rt0).v<veh):=fun hv t ht=>Int.lt_of_le_of_lt (HS.le (by omega) (by rw[HN.out];omega)) hv
   have HGE:Hid (¬(R.getD h rt0).v<veh->∀t,h<=t->t<n->veh<=(R.getD t rt0).v):=fun hv t h1 h2=>by
    have:=HS.le h1 (by rw[HN.out];exact h2);omega
   generalize R.getD h rt0=x at*;obtain⟨xv,xa,xids,xc⟩:=x;simp only at c1 c2 HLT HGE;obtain⟨xl,HXL⟩:=nmd xids.length;rw[HXL.out]at c2;by_cases hv:xv<veh
   ·have HL2:=HLT.out hv
    have HL3:Hid _:=HL2;clear HL2;have hcv:ya1 xv veh= -1:=by unfold ya1;rw[if_pos hv]
    have FO:=zv9 xv veh xa xl xc wr;rw[hcv]at FO;clear hv
    go_wp2_with fail
    refine FO.mono ?_;rintro e w2 ⟨rfl,hb⟩;go_wp2;go_roundw
    case rel=>exact⟨h+1,j,by omega,hj,by first|rfl|go_num,rfl,HB.trans (hb.mono HB.size),HL3.out,HHI.out⟩
    case measure=>simp[intOf];omega
   ·have HL3:Hid _:=HGE.out hv
    obtain⟨cv,HCV⟩:=nmd (ya1 xv veh);have hcv:0<=cv:=by rw[<-HCV.out];unfold ya1;rw[if_neg hv];split<;>omega
    have FO:=zv9 xv veh xa xl xc wr;rw[HCV.out]at FO;have hd:¬cv<0:=by omega
    clear hv
    go_wp2_with fail
    refine FO.mono ?_;rintro e w2 ⟨rfl,hb⟩;go_wp2;go_roundw
    case rel=>exact⟨i,h,hhi,by omega,rfl,rfl,HB.trans (hb.mono HB.size),HLO.out,HL3.out⟩
    case measure=>simp[intOf];omega
  ·have hiI:¬((i:Int)<(j:Int)):=by omega
   have hije:i=j:=by omega
   subst hije;have HAO:Hid (yg5 R veh i):=⟨by rw[HN.out];exact hj,HLO.out,fun t h1 h2=>HHI.out t h1 (by rw[<-HN.out];exact h2)⟩;clear hiI hlt hij;by_cases hin:i<n
   ·have hinI:(i:Int)<(n:Int):=by omega
    have hgd:=decide_eq_true hinI;obtain⟨b,off,e,c1,c2,-⟩:=(HR.below HB.out) i (by rw[HN.out];omega);subst e;have HGE:Hid _:=HHI.out i (Nat.le_refl _) hin;obtain⟨x,HX⟩:=nmd (R.getD i rt0);rw[HX.out]at c1 c2 HGE;obtain⟨xv,xa,xids,xc⟩:=x;simp only at c1 c2 HGE;obtain⟨xl,HXL⟩:=nmd xids.length;rw[HXL.out]at c2;have FO:=zv9 xv veh xa xl xc wr;by_cases hv:xv=veh
    ·have hcv:ya1 xv veh=0:=by unfold ya1;rw[hv,if_neg (by omega),if_neg (by omega)]
     have hr:zX2 R veh i=true:=decide_eq_true ⟨by rw[HN.out];exact hin,by rw[HX.out];exact hv⟩;rw[hcv]at FO;clear hcv hv
     go_wp2_with fail
     refine FO.mono ?_;rintro e w2 ⟨rfl,hb⟩;go_wp2;go_ret2;exact⟨i,by rw[hr];rfl,HAO.out,HB.trans (hb.mono HB.size)⟩
    ·have hcv:ya1 xv veh=1:=by unfold ya1;have:=HGE.out;rw[if_neg (by omega),if_pos (by omega)]
     have hr:zX2 R veh i=false:=decide_eq_false (fun h=>by rw[HX.out]at h;exact hv h.2);rw[hcv]at FO;clear hcv hv
     go_wp2_with fail
     refine FO.mono ?_;rintro e w2 ⟨rfl,hb⟩;go_wp2;go_ret2;exact⟨i,by rw[hr];rfl,HAO.out,HB.trans (hb.mono HB.size)⟩
   ·have hinI:¬((i:Int)<(n:Int)):=by omega
    have hgd:=decide_eq_false hinI;have hr:zX2 R veh i=false:=decide_eq_false (fun h=>hin (by rw[<-HN.out];exact h.1));go_wp2;go_ret2;exact⟨i,by rw[hr];rfl,HAO.out,HB.out⟩
theorem zy2(ra la:Option Addr)(rc ln lc:Nat)(R:List RT)(veh:Int)(w:World)(hR:za6 w ra R)(hn:R.length<=1048576)(hS:ze1 R):
 Calls Tryz.prog 102 #[.agg #[.slice ra R.length rc,.slice la ln lc],.int .i64 veh] w fun e w'=>∃k:Nat,e=.returned (.tuple #[.int .i64 k,.bool (zX2 R veh k)])/\yg5 R veh k/\Below w.heap.size w w':=by
 have hb0:Below w.heap.size w (w.alloc (.cells #[.slice ra R.length rc,.slice la ln lc] 33)):=(Below.refl _ _).alloc (Nat.le_refl _) _;have SA:=zV1 ra rc R veh _ (hR.below hb0) hn hS;have hr:(w.alloc (.cells #[.slice ra R.length rc,.slice la ln lc] 33)).heap[w.heap.size]? =some (.cells #[.slice ra R.length rc,.slice la ln lc] 33 (0,0)):=heap_alloc_new _ _;obtain⟨t0,t1⟩:=za2 hr;clear hR hS hr;go_enter Tryz.func102,Tryz.ntmps102
 go_wp2_with fail
 refine SA.mono ?_;rintro e w2 ⟨k,rfl,hk,hb⟩;go_wp2;go_ret2;exact⟨k,rfl,hk,hb0.trans (hb.mono hb0.size)⟩
theorem yk2{R:List RT}{veh:Int}{k:Nat}(h:yg5 R veh k)(hf:zX2 R veh k=true):k<R.length/\zd9 R veh=R.getD k rt0:=by
 have h1:=of_decide_eq_true hf;exact⟨h1.1,zZ5 h1.1 (fun j hj=>by have:=h.lo j hj;omega) h1.2⟩
theorem yq1{R:List RT}{veh:Int}{k:Nat}(hS:ze1 R)(h:yg5 R veh k)(hf:zX2 R veh k=false):zd9 R veh=⟨veh,none,[],0⟩:=by
 have h1:=of_decide_eq_false hf;refine zL5 (fun j hj e=> ?_);rcases Nat.lt_trichotomy j k with h2|h2|h2
 ·have:=h.lo j h2;omega
 ·exact h1 (by rw[<-h2];exact⟨hj,e⟩)
 ·have h3:=h.hi k (Nat.le_refl _) (by omega)
  have h4:=hS.lt (j - k - 1) k (by omega);rw[show k+(j - k - 1)+1=j by omega]at h4;omega
abbrev zh4:=Int×Int×Nat
def spF:List zh4->List Int
 |[]=>[]
 |p::l=>p.1::p.2.1::(p.2.2:Int)::spF l
theorem zO2:∀l:List zh4,(spF l).length=l.length*3
 |[]=>rfl
 |p::l=>by simp[spF,zO2 l];omega
theorem zZ9:∀(l m:List zh4),spF (l++m)=spF l++spF m
 |[],m=>rfl
 |p::l,m=>by simp[spF,zZ9 l m]
theorem ym1:∀(l:List zh4) (k:Nat) (p:zh4),l[k]? =some p->(spF l).getD (k*3) 0=p.1/\(spF l).getD (k*3+1) 0=p.2.1/\(spF l).getD (k*3+2) 0=(p.2.2:Int)
 |[],k,p,h=>by simp at h
 |q::l,0,p,h=>by
  simp at h;subst h;simp[spF]
 |q::l,k+1,p,h=>by
  have ih:=ym1 l k p (by simpa using h);have e1:(k+1)*3=k*3+1+1+1:=by omega
  have e2:k*3+1+1+1+1=k*3+1+1+1+1:=rfl;have e3:k*3+1+1+1+2=k*3+2+1+1+1:=by omega
  rw[e1,e3];simpa[spF]using ih
def sp1(id veh:Int)(a:Nat):List zh4:=(List.range a).map (fun k=>(id,veh,k))
theorem yf9(id veh:Int)(a:Nat):(sp1 id veh a).length=a:=by simp[sp1]
theorem zS3(id veh:Int)(a:Nat):sp1 id veh (a+1)=sp1 id veh a++[(id,veh,a)]:=by simp[sp1,List.range_succ]
def sp2(R:List RT)(V:List Int)(id:Int):Nat->List zh4
 |0=>[]
 |k+1=>sp2 R V id k++sp1 id (V.getD (k*5) 0) ((zd9 R (V.getD (k*5) 0)).ids.length+1)
def sp3(R:List RT)(V:List Int)(kv:Nat)(ids:List Int):Nat->List zh4
 |0=>[]
 |i+1=>sp3 R V kv ids i++sp2 R V (ids.getD i 0) kv
theorem z31{R:List RT}{b:Nat}(h:∀r∈R,r.ids.length<=b)(veh:Int):(zd9 R veh).ids.length<=b:=by
 rcases z24 R veh with h1|h1
 ·exact h _ h1
 ·rw[h1];exact Nat.zero_le _
theorem zN6{R:List RT}(h:∀r∈R,r.ids.length<=12)(V:List Int)(id:Int):∀k,(sp2 R V id k).length<=k*13
 |0=>Nat.le_refl _
 |k+1=>by
  have h1:=zN6 h V id k;have h2:=z31 h (V.getD (k*5) 0);show(sp2 R V id k++_).length<=_;rw[List.length_append,yf9];omega
theorem zM2{R:List RT}(h:∀r∈R,r.ids.length<=12)(V:List Int){kv:Nat}(hk:kv<=5)(ids:List Int):∀i,(sp3 R V kv ids i).length<=i*65
 |0=>Nat.le_refl _
 |i+1=>by
  have h1:=zM2 h V hk ids i;have h2:=zN6 h V (ids.getD i 0) kv;show(sp3 R V kv ids i++_).length<=_;rw[List.length_append];omega
structure QS where
 f:Bool
 s:zh4
 v:Int
def qs0:QS:=⟨false,(0,0,0),0⟩
def zk8(ok:zh4->Bool)(dl:zh4->Int)(s:QS)(p:zh4):QS:=if ok p=true/\(s.f=false∨dl p<s.v)then⟨true,p,dl p⟩else s
def qst(ok:zh4->Bool)(dl:zh4->Int)(l:List zh4):QS:=l.foldl (zk8 ok dl) qs0
theorem yj0(ok:zh4->Bool)(dl:zh4->Int)(l:List zh4)(p:zh4):qst ok dl (l++[p])=zk8 ok dl (qst ok dl l) p:=by simp[qst,List.foldl_append]
theorem zX3{ok:zh4->Bool}{dl:zh4->Int}{s:QS}{p:zh4}(h1:ok p=true)(h2:s.f=false):zk8 ok dl s p=⟨true,p,dl p⟩:=if_pos ⟨h1,.inl h2⟩
theorem zK3{ok:zh4->Bool}{dl:zh4->Int}{s:QS}{p:zh4}(h1:ok p=true)(h2:dl p<s.v):zk8 ok dl s p=⟨true,p,dl p⟩:=if_pos ⟨h1,.inr h2⟩
theorem z42{ok:zh4->Bool}{dl:zh4->Int}{s:QS}{p:zh4}(h1:ok p=false):zk8 ok dl s p=s:=if_neg fun h=>by have:=h.1;rw[h1]at this;cases this
theorem z40{ok:zh4->Bool}{dl:zh4->Int}{s:QS}{p:zh4}(h1:s.f=true)(h2:¬dl p<s.v):zk8 ok dl s p=s:=if_neg fun h=>by
 rcases h.2 with h|h
 ·rw[h1]at h;cases h
 ·exact h2 h
theorem z26{ok:zh4->Bool}{dl:zh4->Int}(l:List zh4):(qst ok dl l).f=true->(qst ok dl l).s∈l/\ok (qst ok dl l).s=true/\dl (qst ok dl l).s=(qst ok dl l).v:=by
 suffices h:∀(m:List zh4) (s:QS),(s.f=true->s.s∈l/\ok s.s=true/\dl s.s=s.v)->(∀p∈m,p∈l)->(m.foldl (zk8 ok dl) s).f=true->(m.foldl (zk8 ok dl) s).s∈l/\ok (m.foldl (zk8 ok dl) s).s=true/\dl (m.foldl (zk8 ok dl) s).s=(m.foldl (zk8 ok dl) s).v from
  h l qs0 (fun e=>by cases e) (fun _ h=>h)
 intro m
 induction m with
 |nil=>intro s hs _ hf;exact hs hf
 |cons p m ih=>
  intro s hs hm hf;rw[List.foldl_cons]at hf⊢;refine ih _ (fun h9=> ?_) (fun q hq=>hm q (List.mem_cons_of_mem _ hq)) hf;unfold zk8 at h9⊢;split
  ·rename_i hc
   exact⟨hm p (List.mem_cons_self ..),hc.1,rfl⟩
  ·rename_i hc
   rw[if_neg hc]at h9;exact hs h9
theorem z54{w:World}{k:Nat}{c0 c1 c2:Value}{T:TypeId}(r:w.heap[k]? =some (.cells #[c0,c1,c2] T (0,0))):w.cell? ⟨k,0,none⟩=some c0/\w.cell? ⟨k,1,none⟩=some c1/\w.cell? ⟨k,2,none⟩=some c2:=
 ⟨cell_of_row _ _ 0 _ _ _ r,cell_of_row _ _ 1 _ _ _ r,cell_of_row _ _ 2 _ _ _ r⟩
def LS(w W:World)(s:zh4):Prop:=Below w.heap.size w W/\W.heap[w.heap.size]? =some (.cells #[Value.int .i64 0,Value.int .i64 0,Value.int .i64 0] 86 (0,0))/\W.heap[w.heap.size+1]? =some (.cells #[Value.int .i64 s.1,Value.int .i64 s.2.1,Value.int .i64 (s.2.2:Int)] 86 (0,0))
theorem LS.below{w W W':World}{s:zh4}(h:LS w W s)(hb:Below W.heap.size W W'):LS w W' s:=⟨h.1.trans (hb.mono h.1.size),za1 hb (za3 h.2.1) h.2.1,za1 hb (za3 h.2.2) h.2.2⟩
theorem LS.b{w W:World}{s:zh4}(h:LS w W s):Below w.heap.size w W:=h.1
theorem LS.put{w W:World}{s:zh4}(h:LS w W s)(id veh:Int)(pl:Nat):LS w (((W.setCell ⟨w.heap.size+1,0,none⟩ (.int .i64 id)).setCell ⟨w.heap.size+1,1,none⟩ (.int .i64 veh)).setCell ⟨w.heap.size+1,2,none⟩ (.int .i64 (pl:Int))) (id,veh,pl):=by
 have s1:=heap_setCell_same W (w.heap.size+1) 0 _ _ (Value.int .i64 id) h.2.2;have s2:=heap_setCell_same _ (w.heap.size+1) 1 _ _ (Value.int .i64 veh) s1;have s3:=heap_setCell_same _ (w.heap.size+1) 2 _ _ (Value.int .i64 (pl:Int)) s2;exact⟨((h.1.setCell (by simp) _).setCell (by simp) _).setCell (by simp) _,za7 (za7 (za7 h.2.1 (by omega)) (by omega)) (by omega),by simpa using s3⟩
theorem yl1{W:World}{b off:Nat}{ps:List zh4}(h:za0 W (some ⟨b,off,none⟩) (spF ps)){k:Nat}{p:zh4}(hk:ps[k]? =some p):
 W.cell? ⟨b,off+k*3,none⟩=some (.int .i64 p.1)/\W.cell? ⟨b,off+k*3+1,none⟩=some (.int .i64 p.2.1)/\W.cell? ⟨b,off+k*3+2,none⟩=some (.int .i64 (p.2.2:Int)):=by
 have hlt:k<ps.length:=by
  rcases Nat.lt_or_ge k ps.length with h'|h'
  ·exact h'
  ·rw[List.getElem?_eq_none h']at hk;cases hk
 have hl:=zO2 ps;have ha:=ym1 ps k p hk;have at_:∀j,j<(spF ps).length->W.cell? ⟨b,off+j,none⟩=some (.int .i64 ((spF ps).getD j 0)):=fun j hj=>by
  obtain⟨b',o',e,h1⟩:=h j hj;simp only[Option.some.injEq,Addr.mk.injEq,and_true]at e;obtain⟨rfl,rfl⟩:=e;exact h1
 have h0:=at_ (k*3) (by omega);have h1:=at_ (k*3+1) (by omega);have h2:=at_ (k*3+2) (by omega);rw[ha.1]at h0;rw[ha.2.1,<-Nat.add_assoc]at h1;rw[ha.2.2,<-Nat.add_assoc]at h2;exact⟨h0,h1,h2⟩
set_option maxHeartbeats 1000000 in
theorem zv6(ra la:Option Addr)(rc ln lc:Nat)(R:List RT)(veh:Int)(w:World)(hR:za6 w ra R)(hn:R.length<=1048576)(hS:ze1 R):
 Calls Tryz.prog 62 #[.agg #[.slice ra R.length rc,.slice la ln lc],.int .i64 veh] w fun e w'=>e=.returned (.agg #[.int .i64 veh,.slice (zd9 R veh).a (zd9 R veh).ids.length (zd9 R veh).c])/\Below w.heap.size w w':=by
 have HR:Hid (za6 w ra R):=hR;have HS:Hid (ze1 R):=hS;clear hR hS;obtain⟨n,HN⟩:=nmd R.length;rw[HN.out]at hn⊢;have hRV:=yg2 R veh;obtain⟨r0,HR0⟩:=nmd (zd9 R veh);rw[HR0.out]at hRV⊢;have HRV:Hid (r0.v=veh):=hRV;clear hRV;have B0:Hid (Below w.heap.size w ((w.alloc (.cells #[.slice ra n rc,.slice la ln lc] 33)).alloc (.cells #[Value.int .i64 0,Value.slice none 0 0] 43))):=((Below.refl _ _).alloc (Nat.le_refl _) _).alloc (by simp) _;have P0:Hid (((w.alloc (.cells #[.slice ra n rc,.slice la ln lc] 33)).alloc (.cells #[Value.int .i64 0,Value.slice none 0 0] 43)).heap[w.heap.size]? =some (.cells #[.slice ra n rc,.slice la ln lc] 33 (0,0))):=heap_alloc2_old _ _ _;have T0:Hid (((w.alloc (.cells #[.slice ra n rc,.slice la ln lc] 33)).alloc (.cells #[Value.int .i64 0,Value.slice none 0 0] 43)).heap[w.heap.size+1]? =some (.cells #[Value.int .i64 0,Value.slice none 0 0] 43 (0,0))):=heap_alloc2_new _ _ _;have FR:=zy2 ra la rc ln lc R veh _ (HR.below B0.out) (by rw[HN.out];exact hn) HS.out;rw[HN.out]at FR;obtain⟨p0,p1⟩:=za2 P0.out;go_enter Tryz.func62,Tryz.ntmps62
 go_wp2_with fail
 generalize(w.alloc (.cells #[.slice ra n rc,.slice la ln lc] 33)).alloc (.cells #[Value.int .i64 0,Value.slice none 0 0] 43)=W0 at*;refine FR.mono ?_;rintro e w1 ⟨k,rfl,hk,hb⟩;have HK:Hid (yg5 R veh k):=hk;have P1:Hid _:=za1 hb (za3 P0.out) P0.out;have T1:Hid _:=za1 hb (za3 T0.out) T0.out;have B1:Hid _:=B0.trans (hb.mono B0.size);clear hk hb FR p0 p1 B0 P0 T0;obtain⟨p0,p1⟩:=za2 P1.out;obtain⟨t0,t1⟩:=za2 T1.out;have tf:=fun i=>frozen_of_row _ _ i _ _ T1.out;obtain⟨f,HF⟩:=nmd (zX2 R veh k);rw[HF.out];cases f
 ·have HE:Hid (r0=⟨veh,none,[],0⟩):=by show _=_;rw[<-HR0.out];exact yq1 HS.out HK.out HF.out
  go_wp2;refine bodyPost_ret (v:=.agg #[.int .i64 veh,.slice none 0 0]) (by simp[results,Tryz.results62,go_sem,t0,t1]) rfl ⟨by rw[HE.out];rfl,?_⟩
  repeat(first|with_reducible exact B1.out|refine Below.setCell ?_ (by simp<;>omega) _)
 ·obtain⟨hkR,he⟩:=yk2 HK.out HF.out
  have hkn:k<n:=by rw[<-HN.out];exact hkR
  have hkI:(k:Int)<(n:Int):=by omega
  obtain⟨b,off,e,c1,c2,-⟩:=(HR.below B1.out) k hkR;have HE:Hid (R.getD k rt0=r0):=by show _=_;rw[<-HR0.out,he]
  rw[HE.out]at c1 c2;subst e;clear hkR he;obtain⟨rv,rra,rids,rcc⟩:=r0;simp only at c1 c2 HRV;have hv:=HRV.out;subst hv;obtain⟨rl,HRL⟩:=nmd rids.length;simp only[HRL.out]at c2⊢;go_wp2;refine bodyPost_ret (v:=.agg #[.int .i64 rv,.slice rra rl rcc]) (by simp[results,Tryz.results62,go_sem,t0,t1]) rfl ⟨by rw[HRL.out],?_⟩
  repeat(first|with_reducible exact B1.out|refine Below.setCell ?_ (by simp<;>omega) _)
def zn1(R:List RT):Prop:=∀r∈R,r.ids≠[]/\r.ids.length<=12/\r.ids.length<=r.c
theorem yd4{w:World}{ra:Option Addr}{R:List RT}(h:za6 w ra R)(hi:zn1 R)(veh:Int):za0 w (zd9 R veh).a (zd9 R veh).ids/\(zd9 R veh).ids.length<=12/\(zd9 R veh).ids.length<=(zd9 R veh).c/\(((zd9 R veh).a=none/\(zd9 R veh).ids.length=0)∨∃b off,(zd9 R veh).a=some ⟨b,off,none⟩):=by
 rcases z24 R veh with h1|h1
 ·obtain⟨j,hj,e⟩:=List.getElem_of_mem h1
  obtain⟨_,_,_,_,_,h2⟩:=h j hj;have e2:R.getD j rt0=zd9 R veh:=by rw[List.getD_eq_getElem?_getD,List.getElem?_eq_getElem hj,e];rfl
  rw[e2]at h2;obtain⟨h3,h4,h5⟩:=hi _ h1;obtain⟨b,off,e3,_⟩:=h2 0 (List.length_pos_iff.2 h3);exact⟨h2,h4,h5,.inr ⟨b,off,e3⟩⟩
 ·rw[h1]
  exact⟨fun j hj=>by simp at hj,Nat.zero_le _,Nat.le_refl _,.inl ⟨rfl,rfl⟩⟩
theorem yj2{w:World}{base k sc:Nat}{sa:Option Addr}{l:List zh4}(h:w.ownsRow base 86 3 (.slice sa k sc) k ((spF l).map (Value.int .i64))):za0 w sa (spF l):=fun j hj=>by
 rcases own_kinds h with⟨e,h0⟩|⟨g,c,e,_,_⟩
 ·have:=h.1
  rw[List.length_map,h0]at this;omega
 ·simp only[Value.slice.injEq,true_and]at e
  obtain⟨rfl,rfl⟩:=e;refine⟨g,0,rfl,?_⟩;rw[Nat.zero_add];exact(zf6 h (by rw[List.getElem?_map,List.getD_eq_getElem?_getD,List.getElem?_eq_getElem hj];rfl)).1
set_option maxHeartbeats 2000000 in
theorem z70(ad:Option Addr)(c p0 p1:Nat)(ps:List zh4)(ok:zh4->Bool)(dl:zh4->Int)(w:World)(hI:za0 w ad (spF ps))(hl:ps.length<=1000)
 (hcl:∀(W:World) (id veh:Int) (pl:Nat),Below w.heap.size w W->Calls Tryz.prog 61 #[.agg #[.int .i64 id,.int .i64 veh,.int .i64 (pl:Int)],.pointer (some ⟨p0,0,none⟩),.pointer (some ⟨p1,0,none⟩)] W fun e w'=>e=.returned (.tuple #[.int .i64 (dl (id,veh,pl)),.bool (ok (id,veh,pl))])/\Below W.heap.size W w')
 (s0:QS) (hs0:qst ok dl ps=s0):
 Calls Tryz.prog 59 #[.slice ad ps.length c,.func (.func 61) #[] #[.pointer (some ⟨p0,0,none⟩),.pointer (some ⟨p1,0,none⟩)]] w fun e w'=>e=.returned (.tuple #[.agg #[.int .i64 s0.s.1,.int .i64 s0.s.2.1,.int .i64 (s0.s.2.2:Int)],.int .i64 s0.v,.bool s0.f])/\Below w.heap.size w w':=by
 have HI:Hid (za0 w ad (spF ps)):=hI;have HC:Hid (∀(W:World) (id veh:Int) (pl:Nat),Below w.heap.size w W->Calls Tryz.prog 61 #[.agg #[.int .i64 id,.int .i64 veh,.int .i64 (pl:Int)],.pointer (some ⟨p0,0,none⟩),.pointer (some ⟨p1,0,none⟩)] W fun e w'=>e=.returned (.tuple #[.int .i64 (dl (id,veh,pl)),.bool (ok (id,veh,pl))])/\Below W.heap.size W w'):=hcl;have HS0:Hid (qst ok dl ps=s0):=hs0;clear hI hcl hs0;have B0:Hid (LS w ((w.alloc (.cells #[Value.int .i64 0,Value.int .i64 0,Value.int .i64 0] 86)).alloc (.cells #[Value.int .i64 0,Value.int .i64 0,Value.int .i64 0] 86)) (0,0,0)):=⟨((Below.refl _ _).alloc (Nat.le_refl _) _).alloc (by simp) _,heap_alloc2_old _ _ _,heap_alloc2_new _ _ _⟩;go_enter Tryz.func59,Tryz.ntmps59
 go_wp2_with fail
 go_loopw[8,9,16] (fun tv tf t wr=>∃k:Nat,k<=ps.length/\t=.int .i64 k/\tv=.int .i64 (qst ok dl (ps.take k)).v/\tf=.bool (qst ok dl (ps.take k)).f/\LS w wr (qst ok dl (ps.take k)).s) (fun _ _ t _=>ps.length - (intOf t).toNat)
 case atStart=>exact⟨0,Nat.zero_le _,rfl,rfl,rfl,B0.out⟩
 case round=>
  clear B0;obtain⟨k,hk,rfl,rfl,rfl,hL⟩:=hrel;by_cases hlt:k<ps.length
  ·obtain⟨p,hp⟩:∃p,ps[k]? =some p:=⟨ps[k],List.getElem?_eq_getElem hlt⟩
   obtain⟨id,veh,pl⟩:=p;have hfl:=zO2 ps;obtain⟨b,off,rfl,hcs⟩:=(HI.out.below hL.1).some (j:=k*3) (by omega);clear hcs;obtain⟨f0,f1,f2⟩:=yl1 (HI.out.below hL.1) hp;have hn:qst ok dl (ps.take (k+1))=zk8 ok dl (qst ok dl (ps.take k)) (id,veh,pl):=by
    rw[List.take_add_one,hp,<-yj0];rfl
   obtain⟨s,HS⟩:=nmd (qst ok dl (ps.take k));rw[HS.out]at hn hL;rw[HS.out];have HN:Hid (qst ok dl (ps.take (k+1))=zk8 ok dl s (id,veh,pl)):=hn;have L1:Hid (LS w wr s.s):=hL;clear hn hL;obtain⟨sf,ss,sv⟩:=s;simp only at L1⊢;obtain⟨d,HDD⟩:=nmd (dl (id,veh,pl));obtain⟨o,HOO⟩:=nmd (ok (id,veh,pl));have N1:Hid ((wr.alloc (.cells #[Value.int .i64 id,Value.int .i64 veh,Value.int .i64 (pl:Int)] 86)).heap[wr.heap.size]? =some (.cells #[Value.int .i64 id,Value.int .i64 veh,Value.int .i64 (pl:Int)] 86 (0,0))):=heap_alloc_new _ _;have L2:Hid (LS w (wr.alloc (.cells #[Value.int .i64 id,Value.int .i64 veh,Value.int .i64 (pl:Int)] 86)) ss):=L1.out.below ((Below.refl _ _).alloc (Nat.le_refl _) _);have hkl:(k:Int)<(ps.length:Int):=by omega
   obtain⟨n0,n1,n2⟩:=z54 N1.out;have CC:=HC.out (wr.alloc (.cells #[Value.int .i64 id,Value.int .i64 veh,Value.int .i64 (pl:Int)] 86)) id veh pl (L1.out.b.alloc L1.out.b.size _);rw[HDD.out,HOO.out]at CC
   go_wp2_with fail
   clear f0 f1 f2 n0 n1 n2;refine CC.mono ?_;rintro e w2 ⟨rfl,hb⟩;have L3:Hid (LS w w2 ss):=L2.out.below hb;have N3:Hid (w2.heap[wr.heap.size]? =some (.cells #[Value.int .i64 id,Value.int .i64 veh,Value.int .i64 (pl:Int)] 86 (0,0))):=za1 hb (za3 N1.out) N1.out;clear hb N1 L2 CC;have hwk:IntKind.i64.wrap ((k:Int)+1)=((k+1:Nat):Int):=by rw[IntWalk.i64_in _ (by omega)];omega
   obtain⟨n0,n1,n2⟩:=z54 N3.out;obtain⟨q0,q1,q2⟩:=z54 L3.out.2.2;have qf:=fun i=>frozen_of_row _ _ i _ _ L3.out.2.2;have L4:Hid (LS w _ (id,veh,pl)):=L3.out.put id veh pl;cases o
   ·have HNS:Hid (qst ok dl (ps.take (k+1))=⟨sf,ss,sv⟩):=by
     show qst ok dl (ps.take (k+1))=_;rw[HN.out];exact z42 HOO.out
    go_wp2;go_roundw
    case rel=>exact⟨k+1,by omega,by first|rfl|go_num,by rw[HNS.out],by rw[HNS.out],by rw[HNS.out];exact L3.out⟩
    case measure=>simp[intOf];omega
   ·cases sf
    ·have HNS:Hid (qst ok dl (ps.take (k+1))=⟨true,(id,veh,pl),d⟩):=by
      show qst ok dl (ps.take (k+1))=_;rw[HN.out,<-HDD.out];exact zX3 HOO.out rfl
     go_wp2;go_roundw
     case rel=>exact⟨k+1,by omega,by first|rfl|go_num,by rw[HNS.out],by rw[HNS.out],by rw[HNS.out];exact L4.out⟩
     case measure=>simp[intOf];omega
    ·by_cases hdv:d<sv
     ·have HNS:Hid (qst ok dl (ps.take (k+1))=⟨true,(id,veh,pl),d⟩):=by
       show qst ok dl (ps.take (k+1))=_;rw[HN.out,<-HDD.out];exact zK3 HOO.out (by rw[HDD.out];exact hdv)
      go_wp2;go_roundw
      case rel=>exact⟨k+1,by omega,by first|rfl|go_num,by rw[HNS.out],by rw[HNS.out],by rw[HNS.out];exact L4.out⟩
      case measure=>simp[intOf];omega
     ·have HNS:Hid (qst ok dl (ps.take (k+1))=⟨true,ss,sv⟩):=by
       show qst ok dl (ps.take (k+1))=_;rw[HN.out];exact z40 rfl (by rw[HDD.out];exact hdv)
      go_wp2;go_roundw
      case rel=>exact⟨k+1,by omega,by first|rfl|go_num,by rw[HNS.out],by rw[HNS.out],by rw[HNS.out];exact L3.out⟩
      case measure=>simp[intOf];omega
  ·have hke:k=ps.length:=by omega
   subst hke;have he:qst ok dl (ps.take ps.length)=s0:=by rw[List.take_length];exact HS0.out
   rw[he]at hL;rw[he];have L1:Hid (LS w wr s0.s):=hL;clear hL he;obtain⟨sf,⟨s1,s2,s3⟩,sv⟩:=s0;simp only at L1⊢;have h3:¬((ps.length:Int)<(ps.length:Int)):=by omega
   obtain⟨t0,t1,t2⟩:=z54 L1.out.2.1;have tf:=fun i=>frozen_of_row _ _ i _ _ L1.out.2.1;obtain⟨q0,q1,q2⟩:=z54 L1.out.2.2;go_wp2;refine bodyPost_ret (v:=.tuple #[.agg #[.int .i64 s1,.int .i64 s2,.int .i64 (s3:Int)],.int .i64 sv,.bool sf]) (by simp[results,Tryz.results59,go_sem,t0,t1,t2]) rfl ⟨rfl,?_⟩
   repeat(first|with_reducible exact L1.out.b|refine Below.setCell ?_ (by simp<;>omega) _)
end Go.Proofs.YtjobhigmdaiinaaGreat
