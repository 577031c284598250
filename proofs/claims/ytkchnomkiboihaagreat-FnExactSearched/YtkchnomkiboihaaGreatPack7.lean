import Derived.Test.YtkchnomkiboihaaGreatPack3
import Derived.Test.YtkchnomkiboihaaGreatPack6
set_option linter.unusedSimpArgs false
set_option maxHeartbeats 2000000
set_option maxRecDepth 100000
namespace Go.Proofs.YtkchnomkiboihaaGreat
theorem qi:type_of% @List.length_map:=@List.length_map
theorem qj:type_of% @List.length_eq_zero_iff:=@List.length_eq_zero_iff
theorem qk:type_of% @of_decide_eq_false:=@of_decide_eq_false
open Value renaming slice→za,int→zc
open IntKind renaming i64→zb
open Obj renaming cells→zd
open Proofs.Tryz renaming prog→ze
open Go renaming World→zg
open Go.RowKit
open Q
theorem yC4{n:Int}{zs os vs:List Int}{ko kv:Nat}{fine:Int}{R:List RT}{k m:Nat}(hc:zc8 n zs os vs ko kv fine=true)(hk:k<m)(h:¬yo2 R k<(R.getD k rt0).v):¬zi6 n zs os vs ko kv R m:=fun H=>
 h ((ym8 hc (H k hk).2.2).1 (H k hk).1)
theorem zZ5(n fine:Int)(a ao av ra:Option Addr)(cap ko co kv cv rc:Nat)(zs os vs:List Int)(R:List RT)(w:zg)(hA:za3 w a zs)(hO:za3 w ao os)(hV:za3 w av vs)(hR:za9 w ra R)(hlo:os.length=ko*6)(hlv:vs.length=kv*5)(hko:ko<=9223372036854775807)(hkv:kv<=9223372036854775807)(hn:R.length<=1048576)(hi:∀r∈R,r.ids.length<=1048576)(hrc:∀r∈R,r.ids.length<=r.c)(hcB:zc8 n zs os vs ko kv fine=true):
 Calls ze 99 #[.agg #[zc zb n,za a zs.length cap,za ao ko co,za av kv cv,zc zb fine],za ra R.length rc] w fun e w'=>Below w.heap.size w w'/\((e=.returned (.bool true)/\zi6 n zs os vs ko kv R R.length)∨(e=.returned (.bool false)/\¬zi6 n zs os vs ko kv R R.length)):=by
 have HA:=za4 hA;have HO:=za4 hO;have HV:=za4 hV;have HR:=za4 hR;have HLO:Hid _:=hlo;have HLV:Hid _:=hlv;have HI:Hid _:=hi;have HRC:Hid _:=hrc;have HC:Hid _:=hcB;clear hA hO hV hR hlo hlv hi hrc hcB;obtain⟨m,HN⟩:=nmd R.length;rw[HN.X]at hn⊢;have hnn:=HN.X;have B0:Hid (Below w.heap.size w (w.alloc (zd #[zc zb n,za a zs.length cap,za ao ko co,za av kv cv,zc zb fine] 30))):=zK _;have G0:Hid ((w.alloc (zd #[zc zb n,za a zs.length cap,za ao ko co,za av kv cv,zc zb fine] 30)).heap[w.heap.size]? =_):=zN _ _;go_enter Tryz.func99,Tryz.ntmps99
 go_wp2_with fail
 generalize(w.alloc (zd #[zc zb n,za a zs.length cap,za ao ko co,za av kv cv,zc zb fine] 30))=W0 at*;go_loopw[5,12] (fun tl t wr=>∃k:Nat,k<=m/\t=zc zb k/\tl=zc zb (yo2 R k)/\zi6 n zs os vs ko kv R k/\Below w.heap.size w wr/\wr.heap[w.heap.size]? =some (zd #[zc zb n,za a zs.length cap,za ao ko co,za av kv cv,zc zb fine] 30 (0,0))) (fun _ t _=>m - (intOf t).toNat)
 case atStart=>exact⟨0,yZ _,rfl,rfl,zi6.zero _ _ _ _ _ _ _,B0.X,G0.X⟩
 case round=>
  clear B0 G0;obtain⟨k,hk,rfl,rfl,hok,hb,hp⟩:=hrel;have OK:=za4 hok;have B1:Hid _:=hb;have P1:=za4 hp;clear hok hb hp;by_cases hlt:k<m
  ·have hkl:k<R.length:=by omega
   have hmem:R.getD k rt0∈R:=by rw[zM,zO hkl];simp
   obtain⟨b,off,rfl,h1,h2,h3⟩:=(HR.below B1.X) k hkl;have hml:=HI.X _ hmem;have hrcl:=HRC.X _ hmem;have HLOW:Hid (¬yo2 R k<(R.getD k rt0).v->¬zi6 n zs os vs ko kv R m):=yC4 HC.X hlt;have HNIL:Hid ((R.getD k rt0).ids=[]->¬zi6 n zs os vs ko kv R m):=fun h H=>(H k hlt).2.1 h;have HCOD:Hid (codeV true n zs os vs ko kv (R.getD k rt0).v (R.getD k rt0).ids≠0->¬zi6 n zs os vs ko kv R m):=fun h H=>h (H k hlt).2.2;have HSTEP:Hid _:=fun h1 h2 h3=>OK.step ((ym8 HC.X h3).2 h1) h2 h3;have HLN:Hid (yo2 R (k+1)=(R.getD k rt0).v):=rfl;obtain⟨r,HRT⟩:=nmd (R.getD k rt0);obtain⟨last,HLA⟩:=nmd (yo2 R k);rw[HRT.X]at h1 h2 h3 hml hrcl HLOW HNIL HCOD HSTEP HLN;rw[HLA.X]at HLOW HSTEP;rw[HLA.X];have IR:=za4 h3;clear h3 hmem;have HQ:Hid (r.ids.length=0↔r.ids=[]):=qj;have HRCL:Hid _:=hrcl;clear hrcl;have HMAT:=za4 (HA.below B1.X);have HORD:=za4 (HO.below B1.X);have HVEH:=za4 (HV.below B1.X);by_cases hv:last<r.v
   ·have hv1:¬(r.v<=last):=by omega
    by_cases hq:r.ids.length=0
    ·have HNOT:Hid _:=HNIL.X (HQ.1 hq)
     have HQE:Hid _:=hq;rw[HQE.X]at h2;clear hq hml;go_wp2;go_ret;exact⟨B1.alloc B1.size _,.inr ⟨rfl,HNOT.X⟩⟩
    ·have HNE:Hid (r.ids≠[]):=fun e=>hq (HQ.2 e)
     have BX:Hid (Below wr.heap.size wr (wr.alloc (zd #[zc zb r.v,za r.a r.ids.length r.c] 80))):=zK _;have GX:Hid ((wr.alloc (zd #[zc zb r.v,za r.a r.ids.length r.c] 80)).heap[wr.heap.size]? =_):=zN _ _;obtain⟨c0,c1,c2,c3,c4⟩:=za7 (za0 BX.X (za2 P1.X) P1.X);obtain⟨d0,d1⟩:=za1 GX.X
     go_wp2_with fail
     clear c0 c1 c2 c3 c4 d0 d1;generalize(wr.alloc (zd #[zc zb r.v,za r.a r.ids.length r.c] 80))=W1 at*;refine(z73 n fine r.v a ao av r.a cap ko co kv cv r.c zs os vs r.ids W1 (HMAT.below BX.X) (HORD.below BX.X) (HVEH.below BX.X) (IR.below BX.X) HLO.X HLV.X hko hkv (by omega) HRCL.X HC.X).mono ?_;have B2:Hid _:=B1.trans (BX.mono B1.size);have P2:=za4 (za0 BX.X (za2 P1.X) P1.X);clear HMAT HORD HVEH IR BX B1 P1 h1 h2;rintro e w2 ⟨hb,⟨hcode,rfl⟩|⟨hcode,g,-,rfl,-⟩⟩
     ·have HNOT:Hid _:=HCOD.X hcode
      have B3:Hid _:=B2.trans (hb.mono B2.size);clear hb;obtain⟨cd,HCD⟩:=nmd (codeV true n zs os vs ko kv r.v r.ids);rw[HCD.X]at hcode⊢;go_wp2;go_ret;exact⟨B3.alloc B3.size _,.inr ⟨rfl,HNOT.X⟩⟩
     ·have HST:Hid _:=HSTEP.X hv HNE.X hcode
      have B3:Hid _:=B2.trans (hb.mono B2.size);have P3:=za4 (za0 hb (za2 P2.X) P2.X);have BY:Hid (Below w2.heap.size w2 (w2.alloc (zd #[zc zb n,za a zs.length cap,zc zb (zc2 vs kv r.v 0),zc zb (zc2 vs kv r.v 1),zc zb (zc2 vs kv r.v 2),zc zb (zc2 vs kv r.v 3),zc zb (zc2 vs kv r.v 4),za (some ⟨g,0,none⟩) r.ids.length r.ids.length] 119))):=zK _;have GY:=za4 (za0 hb (za2 GX.X) GX.X);have GZ:Hid _:=za0 BY.X (za2 GY.X) GY.X;obtain⟨d0,d1⟩:=za1 GZ.X;clear hb hcode d1;go_wp2;clear d0
      first
       |exact⟨⟨k+1,by omega,by go_num,by rw[HLN.X],HST.X,B3.trans (BY.mono B3.size),za0 BY.X (za2 P3.X) P3.X⟩,by simp[intOf];omega⟩
       |(go_roundw
         case rel=>exact⟨k+1,by omega,by go_num,by rw[HLN.X],HST.X,B3.trans (BY.mono B3.size),za0 BY.X (za2 P3.X) P3.X⟩
         case measure=>simp[intOf];omega)
   ·have HNOT:Hid _:=HLOW.X hv
    have hv1:r.v<=last:=by omega
    clear hv;go_wp2;go_ret;exact⟨B1.alloc B1.size _,.inr ⟨rfl,HNOT.X⟩⟩
  ·have hkn:k=m:=by omega
   have HALL:Hid (zi6 n zs os vs ko kv R m):=hkn▸OK.X;clear hkn;go_wp2;go_ret;exact⟨B1.X,.inl ⟨rfl,HALL.X⟩⟩
structure PO(w:zg)(base:Nat)(rs:Value)(S:List RT)(ls:Value)(L:List Int):Prop where
 r:w.ownsRow base 80 2 rs S.length (zg5 S)
 s:∀s∈S,w.ownsRow base 2 1 (za s.a s.ids.length s.c) s.ids.length (s.ids.map (zc zb))
 l:w.ownsRow base 2 1 ls L.length (L.map (zc zb))
theorem PO.below{w w':zg}{base:Nat}{rs ls:Value}{S:List RT}{L:List Int}(h:PO w base rs S ls L)(hb:Below w.heap.size w w'):PO w' base rs S ls L:=
 ⟨zc5 h.r hb,fun s hs=>zc5 (h.s s hs) hb,zc5 h.l hb⟩
theorem PO.base{w:zg}{base b0:Nat}{rs ls:Value}{S:List RT}{L:List Int}(h:PO w base rs S ls L)(hb:b0<=base):PO w b0 rs S ls L:=
 ⟨zc4 h.r hb,fun s hs=>zc4 (h.s s hs) hb,zc4 h.l hb⟩
theorem PO.set{w:zg}{base b i:Nat}{rs ls u:Value}{S:List RT}{L:List Int}(h:PO w base rs S ls L)(hb:b<base):PO (w.setCell ⟨b,i,none⟩ u) base rs S ls L:=
 ⟨zm5 h.r hb,fun s hs=>zm5 (h.s s hs) hb,zm5 h.l hb⟩
theorem zt1{w w':zg}{base size n q:Nat}{e:TypeId}{v:Value}{xs:List Value}(h:w.ownsRow base e size v n xs)(hg:w.grownBy w' (some q))(hq:v.ownBlock≠some q):w'.ownsRow base e size v n xs:=by
 obtain⟨h1,h2|⟨g,cap,cur,h2,h3,h4,h5⟩⟩:=h
 ·exact⟨h1,.inl h2⟩
 ·refine⟨h1,.inr ⟨g,cap,cur,h2,h3,zb9 hg h4 (fun e=>hq ?_),h5⟩⟩
  rw[h2];exact e
theorem yD7{w:zg}{base size n q:Nat}{e:TypeId}{v:Value}{xs:List Value}(h:w.ownsRow base e size v n xs)(hq:q<base∨w.heap.size<=q):v.ownBlock≠some q:=fun e=>by
 have:=h.lt q e;omega
theorem PO.rv{w:zg}{base:Nat}{rs ls:Value}{S:List RT}{L:List Int}(h:PO w base rs S ls L):(rs=za none 0 0/\S.length=0)∨∃g c,rs=za (some ⟨g,0,none⟩) S.length c/\base<=g/\g<w.heap.size:=own_kinds h.r
theorem PO.ints{w:zg}{base:Nat}{rs ls:Value}{S:List RT}{L:List Int}(h:PO w base rs S ls L):∀s∈S,za3 w s.a s.ids/\s.ids.length<=s.c:=fun s hs=>by
 have ho:=h.s s hs;have hoc:=ho;obtain⟨a',c',e,_,hi⟩:=zv4 ho;have e2:s.a=a':=by injection e
 refine⟨by rw[e2];exact hi,?_⟩;obtain⟨_,⟨h1,h2⟩|⟨g',cap,cur,h2,_,_,h3,_⟩⟩:=hoc
 ·omega
 ·injection h2 with _ _ e3
  omega
theorem PO.at{w:zg}{base rc:Nat}{ra:Option Addr}{ls:Value}{S:List RT}{L:List Int}(h:PO w base (za ra S.length rc) S ls L):za9 w ra S:=fun j hj=>by
 rcases h.rv with⟨_,h0⟩|⟨g,c,e,_,_⟩
 ·omega
 ·simp only[xW]at e
  obtain⟨rfl,_,rfl⟩:=e;obtain⟨q1,q2⟩:=zp0 S j hj;have c1:=(zd5 h.r q1).1;have c2:=(zd5 h.r q2).1;have hm:S.getD j rt0∈S:=by rw[zM,zO hj];simp
  exact⟨g,0,rfl,by rw[z6];exact c1,by rw[z6];exact c2,(h.ints _ hm).1⟩
def zc6(R:List RT)(veh:Int):RT:=(R.find? (fun r=>r.v==veh)).getD ⟨veh,none,[],0⟩
theorem zN3(R:List RT)(veh:Int):(zc6 R veh).v=veh:=by
 unfold zc6;cases h:R.find? (fun r=>r.v==veh)with
 |none=>rfl
 |some r=>simpa using List.find?_some h
theorem zz2(R:List RT)(veh:Int):zc6 R veh∈R∨zc6 R veh=⟨veh,none,[],0⟩:=by
 unfold zc6;cases h:R.find? (fun r=>r.v==veh)with
 |none=>exact .inr rfl
 |some r=>exact .inl (xQ h)
theorem yv3{R:List RT}{veh:Int}{k:Nat}(hk:k<R.length)(h1:∀j,j<k->(R.getD j rt0).v≠veh)(h2:(R.getD k rt0).v=veh):zc6 R veh=R.getD k rt0:=by
 induction R generalizing k with
 |nil=>simp at hk
 |cons r R ih=>
  unfold zc6;cases k with
  |zero=>
   have:r.v=veh:=by simpa using h2
   simp[this]
  |succ k=>
   have h0:r.v≠veh:=by simpa using h1 0 (by omega)
   have:=ih (k:=k) (by simpa using hk) (fun j hj=>by simpa using h1 (j+1) (by omega)) (by simpa using h2);unfold zc6 at this;have hb:(r.v==veh)=false:=by simp[h0]
   rw[List.find?_cons,hb];simpa using this
theorem yu0{R:List RT}{veh:Int}(h1:∀j,j<R.length->(R.getD j rt0).v≠veh):zc6 R veh=⟨veh,none,[],0⟩:=by
 unfold zc6;rw[yP.2]
 ·rfl
 ·intro r hr
  obtain⟨j,hj,e⟩:=xK hr;have:=h1 j hj;rw[zM,zO hj]at this;simp only[yJ,e]at this;simp[this]
theorem z30(v veh:Int)(a:Option Addr)(l c:Nat)(w:zg):Calls ze 194 #[.agg #[zc zb v,za a l c],zc zb veh] w fun e w'=>e=.returned (zc zb (yu4 v veh))/\Below w.heap.size w w':=by
 have hr:(w.alloc (zd #[zc zb v,za a l c] 80)).heap[w.heap.size]? =some (zd #[zc zb v,za a l c] 80 (0,0)):=zN _ _;obtain⟨t0,t1⟩:=za1 hr;go_enter Tryz.func194,Tryz.ntmps194
 go_wp2_with(go_at_call 195;refine(ye6 _ _ _).mono ?_;rintro e w' ⟨rfl,hw⟩;subst hw)
 go_ret;exact⟨rfl,zK _⟩
structure y26(R:List RT)(veh:Int)(k:Nat):Prop where
 le:k<=R.length
 lo:∀j,j<k->(R.getD j rt0).v<veh
 hi:∀j,k<=j->j<R.length->veh<=(R.getD j rt0).v
def yn9(R:List RT)(veh:Int)(k:Nat):Bool:=decide (k<R.length/\(R.getD k rt0).v=veh)
def zg1(R:List RT):Prop:=∀j,0<j->j<R.length->(R.getD (j - 1) rt0).v<(R.getD j rt0).v
theorem zg1.lt{R:List RT}(h:zg1 R):∀(d i:Nat),i+d+1<R.length->(R.getD i rt0).v<(R.getD (i+d+1) rt0).v
 |0,i,hi=>h (i+1) (by omega) hi
 |d+1,i,hi=>Int.lt_trans (zg1.lt h d i (by omega)) (h (i+d+1+1) (by omega) hi)
theorem zg1.le{R:List RT}(h:zg1 R){i j:Nat}(hij:i<=j)(hj:j<R.length):(R.getD i rt0).v<=(R.getD j rt0).v:=by
 by_cases e:i=j
 ·rw[e];exact Int.le_refl _
 ·have:=h.lt (j - i - 1) i (by omega)
  rw[show i+(j - i - 1)+1=j by omega]at this;omega
theorem yo8(ra:Option Addr)(rc:Nat)(R:List RT)(veh:Int)(w:zg)(hR:za9 w ra R)(hn:R.length<=1048576)(hS:zg1 R):
 Calls ze 193 #[za ra R.length rc,zc zb veh,.func (.func 194) #[] #[]] w fun e w'=>∃k:Nat,e=.returned (.tuple #[zc zb k,.bool (yn9 R veh k)])/\y26 R veh k/\Below w.heap.size w w':=by
 have HR:=za4 hR;have HS:=za4 hS;clear hR hS;obtain⟨n,HN⟩:=nmd R.length;rw[HN.X]at hn⊢;go_enter Tryz.func193,Tryz.ntmps193
 go_wp2_with fail
 go_loopw[9,10] (fun ti tj wr=>∃i j:Nat,i<=j/\j<=n/\ti=zc zb i/\tj=zc zb j/\Below w.heap.size w wr/\(∀t,t<i->(R.getD t rt0).v<veh)/\(∀t,j<=t->t<n->veh<=(R.getD t rt0).v)) (fun ti tj _=>(intOf tj).toNat - (intOf ti).toNat)
 case atStart=>exact⟨0,n,yZ _,zQ _,rfl,rfl,yV _ _,fun t ht=>by omega,fun t h1 h2=>by omega⟩
 case round=>
  obtain⟨i,j,hij,hj,rfl,rfl,hb,hlo,hhi⟩:=hrel;have HB:Hid _:=hb;have HLO:Hid _:=hlo;have HHI:Hid _:=hhi;clear hb hlo hhi;by_cases hlt:i<j
  ·have hiI:(i:Int)<(j:Int):=by omega
   obtain⟨h,HH⟩:∃h:Nat,Hid ((i+j) / 2=h):=⟨_,rfl⟩;have hhi:i<=h:=by have:=HH.X;omega
   have hhj:h<j:=by have:=HH.X;omega
   have hm:((i:Int)+(j:Int)) / 2=(h:Int):=by have:=HH.X;omega
   obtain⟨b,off,e,c1,c2,-⟩:=(HR.below HB.X) h (by rw[HN.X];omega);subst e;have hhn:(h:Int)<(n:Int):=by omega
   have HLT:Hid ((R.getD h rt0).v<veh->∀t,t<h+1->(R.getD t rt0).v<veh):=fun hv t ht=>Int.lt_of_le_of_lt (HS.le (by omega) (by rw[HN.X];omega)) hv
   have HGE:Hid (¬(R.getD h rt0).v<veh->∀t,h<=t->t<n->veh<=(R.getD t rt0).v):=fun hv t h1 h2=>by
    have:=HS.le h1 (by rw[HN.X];exact h2);omega
   generalize R.getD h rt0=x at*;obtain⟨xv,xa,xids,xc⟩:=x;simp only at c1 c2 HLT HGE;obtain⟨xl,HXL⟩:=nmd xids.length;rw[HXL.X]at c2;by_cases hv:xv<veh
   ·have HL2:=HLT.X hv
    have HL3:Hid _:=HL2;clear HL2;have hcv:yu4 xv veh= -1:=by unfold yu4;rw[zV hv]
    have FO:=z30 xv veh xa xl xc wr;rw[hcv]at FO;clear hv
    go_wp2_with fail
    refine FO.mono ?_;rintro e w2 ⟨rfl,hb⟩;go_wp2;go_roundw
    case rel=>exact⟨h+1,j,by omega,hj,by first|rfl|go_num,rfl,HB.trans (hb.mono HB.size),HL3.X,HHI.X⟩
    case measure=>simp[intOf];omega
   ·have HL3:Hid _:=HGE.X hv
    obtain⟨cv,HCV⟩:=nmd (yu4 xv veh);have hcv:0<=cv:=by rw[<-HCV.X];unfold yu4;rw[zW hv];split<;>omega
    have FO:=z30 xv veh xa xl xc wr;rw[HCV.X]at FO;have hd:¬cv<0:=by omega
    clear hv
    go_wp2_with fail
    refine FO.mono ?_;rintro e w2 ⟨rfl,hb⟩;go_wp2;go_roundw
    case rel=>exact⟨i,h,hhi,by omega,rfl,rfl,HB.trans (hb.mono HB.size),HLO.X,HL3.X⟩
    case measure=>simp[intOf];omega
  ·have hiI:¬((i:Int)<(j:Int)):=by omega
   have hije:i=j:=by omega
   subst hije;have HAO:Hid (y26 R veh i):=⟨by rw[HN.X];exact hj,HLO.X,fun t h1 h2=>HHI.X t h1 (by rw[<-HN.X];exact h2)⟩;clear hiI hlt hij;by_cases hin:i<n
   ·have hinI:(i:Int)<(n:Int):=by omega
    have hgd:=zS hinI;obtain⟨b,off,e,c1,c2,-⟩:=(HR.below HB.X) i (by rw[HN.X];omega);subst e;have HGE:Hid _:=HHI.X i (zQ _) hin;obtain⟨x,HX⟩:=nmd (R.getD i rt0);rw[HX.X]at c1 c2 HGE;obtain⟨xv,xa,xids,xc⟩:=x;simp only at c1 c2 HGE;obtain⟨xl,HXL⟩:=nmd xids.length;rw[HXL.X]at c2;have FO:=z30 xv veh xa xl xc wr;by_cases hv:xv=veh
    ·have hcv:yu4 xv veh=0:=by unfold yu4;rw[hv,zW (by omega),zW (by omega)]
     have hr:yn9 R veh i=true:=zS ⟨by rw[HN.X];exact hin,by rw[HX.X];exact hv⟩;rw[hcv]at FO;clear hcv hv
     go_wp2_with fail
     refine FO.mono ?_;rintro e w2 ⟨rfl,hb⟩;go_wp2;go_ret2;exact⟨i,by rw[hr];rfl,HAO.X,HB.trans (hb.mono HB.size)⟩
    ·have hcv:yu4 xv veh=1:=by unfold yu4;have:=HGE.X;rw[zW (by omega),zV (by omega)]
     have hr:yn9 R veh i=false:=zU (fun h=>by rw[HX.X]at h;exact hv h.2);rw[hcv]at FO;clear hcv hv
     go_wp2_with fail
     refine FO.mono ?_;rintro e w2 ⟨rfl,hb⟩;go_wp2;go_ret2;exact⟨i,by rw[hr];rfl,HAO.X,HB.trans (hb.mono HB.size)⟩
   ·have hinI:¬((i:Int)<(n:Int)):=by omega
    have hgd:=zU hinI;have hr:yn9 R veh i=false:=zU (fun h=>hin (by rw[<-HN.X];exact h.1));go_wp2;go_ret2;exact⟨i,by rw[hr];rfl,HAO.X,HB.X⟩
theorem z61(ra la:Option Addr)(rc ln lc:Nat)(R:List RT)(veh:Int)(w:zg)(hR:za9 w ra R)(hn:R.length<=1048576)(hS:zg1 R):
 Calls ze 170 #[.agg #[za ra R.length rc,za la ln lc],zc zb veh] w fun e w'=>∃k:Nat,e=.returned (.tuple #[zc zb k,.bool (yn9 R veh k)])/\y26 R veh k/\Below w.heap.size w w':=by
 have hb0:Below w.heap.size w (w.alloc (zd #[za ra R.length rc,za la ln lc] 33)):=zK _;have SA:=yo8 ra rc R veh _ (hR.below hb0) hn hS;have hr:(w.alloc (zd #[za ra R.length rc,za la ln lc] 33)).heap[w.heap.size]? =some (zd #[za ra R.length rc,za la ln lc] 33 (0,0)):=zN _ _;obtain⟨t0,t1⟩:=za1 hr;clear hR hS hr;go_enter Tryz.func170,Tryz.ntmps170
 go_wp2_with fail
 refine SA.mono ?_;rintro e w2 ⟨k,rfl,hk,hb⟩;go_wp2;go_ret2;exact⟨k,rfl,hk,hb0.trans (hb.mono hb0.size)⟩
theorem zE8(ra la:Option Addr)(rc ln lc:Nat)(R:List RT)(veh:Int)(w:zg)(hR:za9 w ra R)(hn:R.length<=1048576):
 Calls ze 70 #[.agg #[za ra R.length rc,za la ln lc],zc zb veh] w fun e w'=>e=.returned (.agg #[zc zb veh,.slice (zc6 R veh).a (zc6 R veh).ids.length (zc6 R veh).c])/\Below w.heap.size w w':=by
 have HR:=za4 hR;clear hR;obtain⟨n,HN⟩:=nmd R.length;rw[HN.X]at hn⊢;have hRV:=zN3 R veh;obtain⟨r0,HR0⟩:=nmd (zc6 R veh);rw[HR0.X]at hRV⊢;have HRV:=za4 hRV;clear hRV;have B0:Hid (Below w.heap.size w ((w.alloc (zd #[za ra n rc,za la ln lc] 33)).alloc (zd #[zc zb 0,za none 0 0] 80))):=(zK _).alloc (by simp) _;have P0:Hid (((w.alloc (zd #[za ra n rc,za la ln lc] 33)).alloc (zd #[zc zb 0,za none 0 0] 80)).heap[w.heap.size]? =some (zd #[za ra n rc,za la ln lc] 33 (0,0))):=xb _ _ _;have T0:Hid (((w.alloc (zd #[za ra n rc,za la ln lc] 33)).alloc (zd #[zc zb 0,za none 0 0] 80)).heap[w.heap.size+1]? =some (zd #[zc zb 0,za none 0 0] 80 (0,0))):=y8 _ _ _;go_enter Tryz.func70,Tryz.ntmps70
 go_wp2_with fail
 generalize(w.alloc (zd #[za ra n rc,za la ln lc] 33)).alloc (zd #[zc zb 0,za none 0 0] 80)=W0 at*
 go_loop [5] (fun t=>∃k:Nat,k<=n/\t=zc zb k/\∀j,j<k->(R.getD j rt0).v≠veh) (fun t=>n - (intOf t).toNat)
 case atStart=>exact⟨0,yZ _,rfl,fun j hj=>by omega⟩
 case round=>
  obtain⟨k,hk,rfl,hj⟩:=hrel;have HJ:Hid _:=hj;clear hj;obtain⟨p0,p1⟩:=za1 P0.X;obtain⟨t0,t1⟩:=za1 T0.X;have tf:=fun i=>yU _ _ i _ _ T0.X;by_cases hlt:k<n
  ·have hkI:(k:Int)<(n:Int):=by omega
   have hkR:k<R.length:=by rw[HN.X];exact hlt
   obtain⟨b,off,e,c1,c2,-⟩:=(HR.below B0.X) k hkR;subst e;have HST:Hid ((R.getD k rt0).v≠veh->∀j,j<k+1->(R.getD j rt0).v≠veh):=fun h j hj=>by
    by_cases e:j=k
    ·rw[e];exact h
    ·exact HJ.X j (by omega)
   have HAT:Hid ((R.getD k rt0).v=veh->r0=R.getD k rt0):=fun h=>by rw[<-HR0.X];exact yv3 hkR HJ.X h
   obtain⟨r,HRK⟩:=nmd (R.getD k rt0);rw[HRK.X]at c1 c2 HST HAT;by_cases hv:r.v=veh
   ·have HE:Hid (r0=r):=HAT.X hv
    rw[hv]at c1;have hvv:(veh==veh)=true:=by simp
    obtain⟨rv,rra,rids,rcc⟩:=r;simp only at hv c2;obtain⟨rl,HRL⟩:=nmd rids.length;rw[HRL.X]at c2;clear hv;go_wp2;refine yX (v:=.agg #[zc zb veh,za rra rl rcc]) (by simp[results,Tryz.results70,go_sem,t0,t1]) rfl ⟨by rw[HE.X];simp only;rw[HRL.X],?_⟩
    repeat(first|with_reducible exact B0.X|refine xd ?_ (by simp<;>omega) _)
   ·have hvv:(r.v==veh)=false:=by simp[hv]
    have HJ2:Hid _:=HST.X hv;obtain⟨rv,HRV2⟩:=nmd r.v;rw[HRV2.X]at c1 hvv;clear hv c2;go_wp2
    go_round
    case rel=>exact⟨k+1,by omega,by go_num,HJ2.X⟩
    case measure=>simp[intOf];omega
  ·have hkI:¬((k:Int)<(n:Int)):=by omega
   have HE:Hid (r0=⟨veh,none,[],0⟩):=by
    show _=_;rw[<-HR0.X];exact yu0 (fun j hj=>HJ.X j (by rw[HN.X]at hj;omega))
   go_wp2;refine yX (v:=.agg #[zc zb veh,za none 0 0]) (by simp[results,Tryz.results70,go_sem,t0,t1]) rfl ⟨by rw[HE.X];rfl,?_⟩
   repeat(first|with_reducible exact B0.X|refine xd ?_ (by simp<;>omega) _)
abbrev zg2:=Int×Int×Nat
def spF:List zg2->List Int
 |[]=>[]
 |p::l=>p.1::p.2.1::(p.2.2:Int)::spF l
theorem zQ7:∀l:List zg2,(spF l).length=l.length*3
 |[]=>rfl
 |p::l=>by simp[spF,zQ7 l];omega
theorem yv5:∀(l m:List zg2),spF (l++m)=spF l++spF m
 |[],m=>rfl
 |p::l,m=>by simp[spF,yv5 l m]
theorem y92:∀(l:List zg2) (k:Nat) (p:zg2),l[k]? =some p->(spF l).getD (k*3) 0=p.1/\(spF l).getD (k*3+1) 0=p.2.1/\(spF l).getD (k*3+2) 0=(p.2.2:Int)
 |[],k,p,h=>by simp at h
 |q::l,0,p,h=>by
  simp at h;subst h;simp[spF]
 |q::l,k+1,p,h=>by
  have ih:=y92 l k p (by simpa using h);have e1:(k+1)*3=k*3+1+1+1:=by omega
  have e2:k*3+1+1+1+1=k*3+1+1+1+1:=rfl;have e3:k*3+1+1+1+2=k*3+2+1+1+1:=by omega
  rw[e1,e3];simpa[spF]using ih
def sp1(id veh:Int)(a:Nat):List zg2:=(List.range a).map (fun k=>(id,veh,k))
theorem y24(id veh:Int)(a:Nat):(sp1 id veh a).length=a:=by simp[sp1]
theorem zR9(id veh:Int)(a:Nat):sp1 id veh (a+1)=sp1 id veh a++[(id,veh,a)]:=by simp[sp1,yG]
def sp2(R:List RT)(V:List Int)(id:Int):Nat->List zg2
 |0=>[]
 |k+1=>sp2 R V id k++sp1 id (V.getD (k*5) 0) ((zc6 R (V.getD (k*5) 0)).ids.length+1)
def sp3(R:List RT)(V:List Int)(kv:Nat)(ids:List Int):Nat->List zg2
 |0=>[]
 |i+1=>sp3 R V kv ids i++sp2 R V (ids.getD i 0) kv
theorem z50{R:List RT}{b:Nat}(h:∀r∈R,r.ids.length<=b)(veh:Int):(zc6 R veh).ids.length<=b:=by
 rcases zz2 R veh with h1|h1
 ·exact h _ h1
 ·rw[h1];exact yZ _
theorem yc2{R:List RT}(h:∀r∈R,r.ids.length<=12)(V:List Int)(id:Int):∀k,(sp2 R V id k).length<=k*13
 |0=>zQ _
 |k+1=>by
  have h1:=yc2 h V id k;have h2:=z50 h (V.getD (k*5) 0);show(sp2 R V id k++_).length<=_;rw[xU,y24];omega
theorem zO4{R:List RT}(h:∀r∈R,r.ids.length<=12)(V:List Int){kv:Nat}(hk:kv<=5)(ids:List Int):∀i,(sp3 R V kv ids i).length<=i*65
 |0=>zQ _
 |i+1=>by
  have h1:=zO4 h V hk ids i;have h2:=yc2 h V (ids.getD i 0) kv;show(sp3 R V kv ids i++_).length<=_;rw[xU];omega
structure QS where
 f:Bool
 s:zg2
 v:Int
def qs0:QS:=⟨false,(0,0,0),0⟩
def zl9(ok:zg2->Bool)(dl:zg2->Int)(s:QS)(p:zg2):QS:=if ok p=true/\(s.f=false∨dl p<s.v)then⟨true,p,dl p⟩else s
def qst(ok:zg2->Bool)(dl:zg2->Int)(l:List zg2):QS:=l.foldl (zl9 ok dl) qs0
theorem zD3(ok:zg2->Bool)(dl:zg2->Int)(l:List zg2)(p:zg2):qst ok dl (l++[p])=zl9 ok dl (qst ok dl l) p:=by simp[qst,yA]
theorem zX6{ok:zg2->Bool}{dl:zg2->Int}{s:QS}{p:zg2}(h1:ok p=true)(h2:s.f=false):zl9 ok dl s p=⟨true,p,dl p⟩:=zV ⟨h1,.inl h2⟩
theorem z58{ok:zg2->Bool}{dl:zg2->Int}{s:QS}{p:zg2}(h1:ok p=true)(h2:dl p<s.v):zl9 ok dl s p=⟨true,p,dl p⟩:=zV ⟨h1,.inr h2⟩
theorem zr0{ok:zg2->Bool}{dl:zg2->Int}{s:QS}{p:zg2}(h1:ok p=false):zl9 ok dl s p=s:=zW fun h=>by have:=h.1;rw[h1]at this;cases this
theorem zy9{ok:zg2->Bool}{dl:zg2->Int}{s:QS}{p:zg2}(h1:s.f=true)(h2:¬dl p<s.v):zl9 ok dl s p=s:=zW fun h=>by
 rcases h.2 with h|h
 ·rw[h1]at h;cases h
 ·exact h2 h
theorem zz8{ok:zg2->Bool}{dl:zg2->Int}(l:List zg2):(qst ok dl l).f=true->(qst ok dl l).s∈l/\ok (qst ok dl l).s=true/\dl (qst ok dl l).s=(qst ok dl l).v:=by
 suffices h:∀(m:List zg2) (s:QS),(s.f=true->s.s∈l/\ok s.s=true/\dl s.s=s.v)->(∀p∈m,p∈l)->(m.foldl (zl9 ok dl) s).f=true->(m.foldl (zl9 ok dl) s).s∈l/\ok (m.foldl (zl9 ok dl) s).s=true/\dl (m.foldl (zl9 ok dl) s).s=(m.foldl (zl9 ok dl) s).v from
  h l qs0 (fun e=>by cases e) (fun _ h=>h)
 intro m
 induction m with
 |nil=>intro s hs _ hf;exact hs hf
 |cons p m ih=>
  intro s hs hm hf;rw[yD]at hf⊢;refine ih _ (fun h9=> ?_) (fun q hq=>hm q (yh _ hq)) hf;unfold zl9 at h9⊢;split
  ·rename_i hc
   exact⟨hm p (ym ..),hc.1,rfl⟩
  ·rename_i hc
   rw[zW hc]at h9;exact hs h9
theorem zw8{w:zg}{k:Nat}{c0 c1 c2:Value}{T:TypeId}(r:w.heap[k]? =some (zd #[c0,c1,c2] T (0,0))):w.cell? ⟨k,0,none⟩=some c0/\w.cell? ⟨k,1,none⟩=some c1/\w.cell? ⟨k,2,none⟩=some c2:=
 ⟨zR _ _ 0 _ _ _ r,zR _ _ 1 _ _ _ r,zR _ _ 2 _ _ _ r⟩
def LS(w W:zg)(s:zg2):Prop:=Below w.heap.size w W/\W.heap[w.heap.size]? =some (zd #[zc zb 0,zc zb 0,zc zb 0] 129 (0,0))/\W.heap[w.heap.size+1]? =some (zd #[zc zb s.1,zc zb s.2.1,zc zb (s.2.2:Int)] 129 (0,0))
theorem LS.below{w W W':zg}{s:zg2}(h:LS w W s)(hb:Below W.heap.size W W'):LS w W' s:=⟨h.1.trans (hb.mono h.1.size),za0 hb (za2 h.2.1) h.2.1,za0 hb (za2 h.2.2) h.2.2⟩
theorem LS.b{w W:zg}{s:zg2}(h:LS w W s):Below w.heap.size w W:=h.1
theorem LS.put{w W:zg}{s:zg2}(h:LS w W s)(id veh:Int)(pl:Nat):LS w (((W.setCell ⟨w.heap.size+1,0,none⟩ (zc zb id)).setCell ⟨w.heap.size+1,1,none⟩ (zc zb veh)).setCell ⟨w.heap.size+1,2,none⟩ (zc zb (pl:Int))) (id,veh,pl):=by
 have s1:=zP W (w.heap.size+1) 0 _ _ (zc zb id) h.2.2;have s2:=zP _ (w.heap.size+1) 1 _ _ (zc zb veh) s1;have s3:=zP _ (w.heap.size+1) 2 _ _ (zc zb (pl:Int)) s2;exact⟨((h.1.setCell (by simp) _).setCell (by simp) _).setCell (by simp) _,za6 (za6 (za6 h.2.1 (by omega)) (by omega)) (by omega),by simpa using s3⟩
theorem yl9{W:zg}{b off:Nat}{ps:List zg2}(h:za3 W (some ⟨b,off,none⟩) (spF ps)){k:Nat}{p:zg2}(hk:ps[k]? =some p):
 W.cell? ⟨b,off+k*3,none⟩=some (zc zb p.1)/\W.cell? ⟨b,off+k*3+1,none⟩=some (zc zb p.2.1)/\W.cell? ⟨b,off+k*3+2,none⟩=some (zc zb (p.2.2:Int)):=by
 have hlt:k<ps.length:=by
  rcases qc k ps.length with h'|h'
  ·exact h'
  ·rw[yb h']at hk;cases hk
 have hl:=zQ7 ps;have ha:=y92 ps k p hk;have at_:∀j,j<(spF ps).length->W.cell? ⟨b,off+j,none⟩=some (zc zb ((spF ps).getD j 0)):=fun j hj=>by
  obtain⟨b',o',e,h1⟩:=h j hj;simp only[xV,xZ,qb]at e;obtain⟨rfl,rfl⟩:=e;exact h1
 have h0:=at_ (k*3) (by omega);have h1:=at_ (k*3+1) (by omega);have h2:=at_ (k*3+2) (by omega);rw[ha.1]at h0;rw[ha.2.1,<-yx]at h1;rw[ha.2.2,<-yx]at h2;exact⟨h0,h1,h2⟩
theorem y42{R:List RT}{veh:Int}{k:Nat}(h:y26 R veh k)(hf:yn9 R veh k=true):k<R.length/\zc6 R veh=R.getD k rt0:=by
 have h1:=zX hf;exact⟨h1.1,yv3 h1.1 (fun j hj=>by have:=h.lo j hj;omega) h1.2⟩
theorem yE0{R:List RT}{veh:Int}{k:Nat}(hS:zg1 R)(h:y26 R veh k)(hf:yn9 R veh k=false):zc6 R veh=⟨veh,none,[],0⟩:=by
 have h1:=qk hf;refine yu0 (fun j hj e=> ?_);rcases Nat.lt_trichotomy j k with h2|h2|h2
 ·have:=h.lo j h2;omega
 ·exact h1 (by rw[<-h2];exact⟨hj,e⟩)
 ·have h3:=h.hi k (zQ _) (by omega)
  have h4:=hS.lt (j - k - 1) k (by omega);rw[show k+(j - k - 1)+1=j by omega]at h4;omega
theorem zn8(ra la:Option Addr)(rc ln lc:Nat)(R:List RT)(veh:Int)(w:zg)(hR:za9 w ra R)(hn:R.length<=1048576)(hS:zg1 R):
 Calls ze 153 #[.agg #[za ra R.length rc,za la ln lc],zc zb veh] w fun e w'=>e=.returned (.agg #[zc zb veh,.slice (zc6 R veh).a (zc6 R veh).ids.length (zc6 R veh).c])/\Below w.heap.size w w':=by
 have HR:=za4 hR;have HS:=za4 hS;clear hR hS;obtain⟨n,HN⟩:=nmd R.length;rw[HN.X]at hn⊢;have hRV:=zN3 R veh;obtain⟨r0,HR0⟩:=nmd (zc6 R veh);rw[HR0.X]at hRV⊢;have HRV:=za4 hRV;clear hRV;have B0:Hid (Below w.heap.size w ((w.alloc (zd #[za ra n rc,za la ln lc] 33)).alloc (zd #[zc zb 0,za none 0 0] 80))):=(zK _).alloc (by simp) _;have P0:Hid (((w.alloc (zd #[za ra n rc,za la ln lc] 33)).alloc (zd #[zc zb 0,za none 0 0] 80)).heap[w.heap.size]? =some (zd #[za ra n rc,za la ln lc] 33 (0,0))):=xb _ _ _;have T0:Hid (((w.alloc (zd #[za ra n rc,za la ln lc] 33)).alloc (zd #[zc zb 0,za none 0 0] 80)).heap[w.heap.size+1]? =some (zd #[zc zb 0,za none 0 0] 80 (0,0))):=y8 _ _ _;have FR:=z61 ra la rc ln lc R veh _ (HR.below B0.X) (by rw[HN.X];exact hn) HS.X;rw[HN.X]at FR;obtain⟨p0,p1⟩:=za1 P0.X;go_enter Tryz.func153,Tryz.ntmps153
 go_wp2_with fail
 generalize(w.alloc (zd #[za ra n rc,za la ln lc] 33)).alloc (zd #[zc zb 0,za none 0 0] 80)=W0 at*;refine FR.mono ?_;rintro e w1 ⟨k,rfl,hk,hb⟩;have HK:=za4 hk;have P1:Hid _:=za0 hb (za2 P0.X) P0.X;have T1:Hid _:=za0 hb (za2 T0.X) T0.X;have B1:Hid _:=B0.trans (hb.mono B0.size);clear hk hb FR p0 p1 B0 P0 T0;obtain⟨p0,p1⟩:=za1 P1.X;obtain⟨t0,t1⟩:=za1 T1.X;have tf:=fun i=>yU _ _ i _ _ T1.X;obtain⟨f,HF⟩:=nmd (yn9 R veh k);rw[HF.X];cases f
 ·have HE:Hid (r0=⟨veh,none,[],0⟩):=by show _=_;rw[<-HR0.X];exact yE0 HS.X HK.X HF.X
  go_wp2;refine yX (v:=.agg #[zc zb veh,za none 0 0]) (by simp[results,Tryz.results153,go_sem,t0,t1]) rfl ⟨by rw[HE.X];rfl,?_⟩
  repeat(first|with_reducible exact B1.X|refine xd ?_ (by simp<;>omega) _)
 ·obtain⟨hkR,he⟩:=y42 HK.X HF.X
  have hkn:k<n:=by rw[<-HN.X];exact hkR
  have hkI:(k:Int)<(n:Int):=by omega
  obtain⟨b,off,e,c1,c2,-⟩:=(HR.below B1.X) k hkR;have HE:Hid (R.getD k rt0=r0):=by show _=_;rw[<-HR0.X,he]
  rw[HE.X]at c1 c2;subst e;clear hkR he;obtain⟨rv,rra,rids,rcc⟩:=r0;simp only at c1 c2 HRV;have hv:=HRV.X;subst hv;obtain⟨rl,HRL⟩:=nmd rids.length;simp only[HRL.X]at c2⊢;go_wp2;refine yX (v:=.agg #[zc zb rv,za rra rl rcc]) (by simp[results,Tryz.results153,go_sem,t0,t1]) rfl ⟨by rw[HRL.X],?_⟩
  repeat(first|with_reducible exact B1.X|refine xd ?_ (by simp<;>omega) _)
def zx3(R:List RT):Prop:=∀r∈R,r.ids≠[]/\r.ids.length<=12/\r.ids.length<=r.c
theorem z87{w:zg}{ra:Option Addr}{R:List RT}(h:za9 w ra R)(hi:zx3 R)(veh:Int):za3 w (zc6 R veh).a (zc6 R veh).ids/\(zc6 R veh).ids.length<=12/\(zc6 R veh).ids.length<=(zc6 R veh).c/\(((zc6 R veh).a=none/\(zc6 R veh).ids.length=0)∨∃b off,(zc6 R veh).a=some ⟨b,off,none⟩):=by
 rcases zz2 R veh with h1|h1
 ·obtain⟨j,hj,e⟩:=xK h1
  obtain⟨_,_,_,_,_,h2⟩:=h j hj;have e2:R.getD j rt0=zc6 R veh:=by rw[zM,zO hj,e];rfl
  rw[e2]at h2;obtain⟨h3,h4,h5⟩:=hi _ h1;obtain⟨b,off,e3,_⟩:=h2 0 (xL.2 h3);exact⟨h2,h4,h5,.inr ⟨b,off,e3⟩⟩
 ·rw[h1]
  exact⟨fun j hj=>by simp at hj,yZ _,zQ _,.inl ⟨rfl,rfl⟩⟩
theorem ym6{w:zg}{base k sc:Nat}{sa:Option Addr}{l:List zg2}(h:w.ownsRow base 129 3 (za sa k sc) k ((spF l).map (zc zb))):za3 w sa (spF l):=fun j hj=>by
 rcases own_kinds h with⟨e,h0⟩|⟨g,c,e,_,_⟩
 ·have:=h.1
  rw[qi,h0]at this;omega
 ·simp only[xW,qg]at e
  obtain⟨rfl,rfl⟩:=e;refine⟨g,0,rfl,?_⟩;rw[z6];exact(zd5 h (by rw[ye,zM,zO hj];rfl)).1
theorem zl5{w:zg}{base size n k:Nat}{e T:TypeId}{v:Value}{xs:List Value}{cs:Array Value}(h:w.ownsRow base e size v n xs)(hr:w.heap[k]? =some (.cells cs T (0,0)))(hT:T≠e):v.ownBlock≠some k:=fun he=>by
 rcases h.2 with⟨rfl,_⟩|⟨g,c,cur,rfl,_,hg,_⟩
 ·cases he
 ·simp[Value.ownBlock]at he
  rw[he,hr]at hg;simp at hg;exact hT hg.2
theorem ze6{w:zg}{base size n k i:Nat}{e T:TypeId}{v u:Value}{xs:List Value}{cs:Array Value}(h:w.ownsRow base e size v n xs)(hr:w.heap[k]? =some (.cells cs T (0,0)))(hT:T≠e):(w.setCell ⟨k,i,none⟩ u).ownsRow base e size v n xs:=zt1 h (ze2 w k i u) (zl5 h hr hT)
theorem zF1(ad:Option Addr)(c p0 p1:Nat)(ps:List zg2)(ok:zg2->Bool)(dl:zg2->Int)(w:zg)(hI:za3 w ad (spF ps))(hl:ps.length<=1000)
 (hcl:∀(W:zg) (id veh:Int) (pl:Nat),Below w.heap.size w W->Calls ze 158 #[.agg #[zc zb id,zc zb veh,zc zb (pl:Int)],.pointer (some ⟨p0,0,none⟩),.pointer (some ⟨p1,0,none⟩)] W fun e w'=>e=.returned (.tuple #[zc zb (dl (id,veh,pl)),.bool (ok (id,veh,pl))])/\Below W.heap.size W w')
 (s0:QS) (hs0:qst ok dl ps=s0):
 Calls ze 156 #[za ad ps.length c,.func (.func 158) #[] #[.pointer (some ⟨p0,0,none⟩),.pointer (some ⟨p1,0,none⟩)]] w fun e w'=>e=.returned (.tuple #[.agg #[zc zb s0.s.1,zc zb s0.s.2.1,zc zb (s0.s.2.2:Int)],zc zb s0.v,.bool s0.f])/\Below w.heap.size w w':=by
 have HI:=za4 hI;have HC:=za4 hcl;have HS0:=za4 hs0;clear hI hcl hs0;have B0:Hid (LS w ((w.alloc (zd #[zc zb 0,zc zb 0,zc zb 0] 129)).alloc (zd #[zc zb 0,zc zb 0,zc zb 0] 129)) (0,0,0)):=⟨(zK _).alloc (by simp) _,xb _ _ _,y8 _ _ _⟩;go_enter Tryz.func156,Tryz.ntmps156
 go_wp2_with fail
 go_loopw[8,9,16] (fun tv tf t wr=>∃k:Nat,k<=ps.length/\t=zc zb k/\tv=zc zb (qst ok dl (ps.take k)).v/\tf=.bool (qst ok dl (ps.take k)).f/\LS w wr (qst ok dl (ps.take k)).s) (fun _ _ t _=>ps.length - (intOf t).toNat)
 case atStart=>exact⟨0,yZ _,rfl,rfl,rfl,B0.X⟩
 case round=>
  clear B0;obtain⟨k,hk,rfl,rfl,rfl,hL⟩:=hrel;by_cases hlt:k<ps.length
  ·obtain⟨p,hp⟩:∃p,ps[k]? =some p:=⟨ps[k],zO hlt⟩
   obtain⟨id,veh,pl⟩:=p;have hfl:=zQ7 ps;obtain⟨b,off,rfl,hcs⟩:=(HI.X.below hL.1).some (j:=k*3) (by omega);clear hcs;obtain⟨f0,f1,f2⟩:=yl9 (HI.X.below hL.1) hp;have hn:qst ok dl (ps.take (k+1))=zl9 ok dl (qst ok dl (ps.take k)) (id,veh,pl):=by
    rw[yz,hp,<-zD3];rfl
   obtain⟨s,HS⟩:=nmd (qst ok dl (ps.take k));rw[HS.X]at hn hL;rw[HS.X];have HN:=za4 hn;have L1:=za4 hL;clear hn hL;obtain⟨sf,ss,sv⟩:=s;simp only at L1⊢;obtain⟨d,HDD⟩:=nmd (dl (id,veh,pl));obtain⟨o,HOO⟩:=nmd (ok (id,veh,pl));have N1:Hid ((wr.alloc (zd #[zc zb id,zc zb veh,zc zb (pl:Int)] 129)).heap[wr.heap.size]? =some (zd #[zc zb id,zc zb veh,zc zb (pl:Int)] 129 (0,0))):=zN _ _;have L2:Hid (LS w (wr.alloc (zd #[zc zb id,zc zb veh,zc zb (pl:Int)] 129)) ss):=L1.X.below (zK _);have hkl:(k:Int)<(ps.length:Int):=by omega
   obtain⟨n0,n1,n2⟩:=zw8 N1.X;have CC:=HC.X (wr.alloc (zd #[zc zb id,zc zb veh,zc zb (pl:Int)] 129)) id veh pl (L1.X.b.alloc L1.X.b.size _);rw[HDD.X,HOO.X]at CC
   go_wp2_with fail
   clear f0 f1 f2 n0 n1 n2;refine CC.mono ?_;rintro e w2 ⟨rfl,hb⟩;have L3:=za4 (L2.X.below hb);have N3:=za4 (za0 hb (za2 N1.X) N1.X);clear hb N1 L2 CC;have hwk:IntKind.i64.wrap ((k:Int)+1)=((k+1:Nat):Int):=by rw[xM _ (by omega)];omega
   obtain⟨n0,n1,n2⟩:=zw8 N3.X;obtain⟨q0,q1,q2⟩:=zw8 L3.X.2.2;have qf:=fun i=>yU _ _ i _ _ L3.X.2.2;have L4:Hid (LS w _ (id,veh,pl)):=L3.X.put id veh pl;cases o
   ·have HNS:Hid (qst ok dl (ps.take (k+1))=⟨sf,ss,sv⟩):=by
     show qst ok dl (ps.take (k+1))=_;rw[HN.X];exact zr0 HOO.X
    go_wp2;go_roundw
    case rel=>exact⟨k+1,by omega,by first|rfl|go_num,by rw[HNS.X],by rw[HNS.X],by rw[HNS.X];exact L3.X⟩
    case measure=>simp[intOf];omega
   ·cases sf
    ·have HNS:Hid (qst ok dl (ps.take (k+1))=⟨true,(id,veh,pl),d⟩):=by
      show qst ok dl (ps.take (k+1))=_;rw[HN.X,<-HDD.X];exact zX6 HOO.X rfl
     go_wp2;go_roundw
     case rel=>exact⟨k+1,by omega,by first|rfl|go_num,by rw[HNS.X],by rw[HNS.X],by rw[HNS.X];exact L4.X⟩
     case measure=>simp[intOf];omega
    ·by_cases hdv:d<sv
     ·have HNS:Hid (qst ok dl (ps.take (k+1))=⟨true,(id,veh,pl),d⟩):=by
       show qst ok dl (ps.take (k+1))=_;rw[HN.X,<-HDD.X];exact z58 HOO.X (by rw[HDD.X];exact hdv)
      go_wp2;go_roundw
      case rel=>exact⟨k+1,by omega,by first|rfl|go_num,by rw[HNS.X],by rw[HNS.X],by rw[HNS.X];exact L4.X⟩
      case measure=>simp[intOf];omega
     ·have HNS:Hid (qst ok dl (ps.take (k+1))=⟨true,ss,sv⟩):=by
       show qst ok dl (ps.take (k+1))=_;rw[HN.X];exact zy9 rfl (by rw[HDD.X];exact hdv)
      go_wp2;go_roundw
      case rel=>exact⟨k+1,by omega,by first|rfl|go_num,by rw[HNS.X],by rw[HNS.X],by rw[HNS.X];exact L3.X⟩
      case measure=>simp[intOf];omega
  ·have hke:k=ps.length:=by omega
   subst hke;have he:qst ok dl (ps.take ps.length)=s0:=by rw[yc];exact HS0.X
   rw[he]at hL;rw[he];have L1:=za4 hL;clear hL he;obtain⟨sf,⟨s1,s2,s3⟩,sv⟩:=s0;simp only at L1⊢;have h3:¬((ps.length:Int)<(ps.length:Int)):=by omega
   obtain⟨t0,t1,t2⟩:=zw8 L1.X.2.1;have tf:=fun i=>yU _ _ i _ _ L1.X.2.1;obtain⟨q0,q1,q2⟩:=zw8 L1.X.2.2;go_wp2;refine yX (v:=.tuple #[.agg #[zc zb s1,zc zb s2,zc zb (s3:Int)],zc zb sv,.bool sf]) (by simp[results,Tryz.results156,go_sem,t0,t1,t2]) rfl ⟨rfl,?_⟩
   repeat(first|with_reducible exact L1.X.b|refine xd ?_ (by simp<;>omega) _)
theorem zJ4(ad:Option Addr)(c p0 p1:Nat)(ps:List zg2)(ok:zg2->Bool)(dl:zg2->Int)(w:zg)(hI:za3 w ad (spF ps))(hl:ps.length<=1000)
 (hcl:∀(W:zg) (id veh:Int) (pl:Nat),Below w.heap.size w W->Calls ze 157 #[.agg #[zc zb id,zc zb veh,zc zb (pl:Int)],.pointer (some ⟨p0,0,none⟩),.pointer (some ⟨p1,0,none⟩)] W fun e w'=>e=.returned (.tuple #[zc zb (dl (id,veh,pl)),.bool (ok (id,veh,pl))])/\Below W.heap.size W w')
 (s0:QS) (hs0:qst ok dl ps=s0):
 Calls ze 156 #[za ad ps.length c,.func (.func 157) #[] #[.pointer (some ⟨p0,0,none⟩),.pointer (some ⟨p1,0,none⟩)]] w fun e w'=>e=.returned (.tuple #[.agg #[zc zb s0.s.1,zc zb s0.s.2.1,zc zb (s0.s.2.2:Int)],zc zb s0.v,.bool s0.f])/\Below w.heap.size w w':=by
 have HI:=za4 hI;have HC:=za4 hcl;have HS0:=za4 hs0;clear hI hcl hs0;have B0:Hid (LS w ((w.alloc (zd #[zc zb 0,zc zb 0,zc zb 0] 129)).alloc (zd #[zc zb 0,zc zb 0,zc zb 0] 129)) (0,0,0)):=⟨(zK _).alloc (by simp) _,xb _ _ _,y8 _ _ _⟩;go_enter Tryz.func156,Tryz.ntmps156
 go_wp2_with fail
 go_loopw[8,9,16] (fun tv tf t wr=>∃k:Nat,k<=ps.length/\t=zc zb k/\tv=zc zb (qst ok dl (ps.take k)).v/\tf=.bool (qst ok dl (ps.take k)).f/\LS w wr (qst ok dl (ps.take k)).s) (fun _ _ t _=>ps.length - (intOf t).toNat)
 case atStart=>exact⟨0,yZ _,rfl,rfl,rfl,B0.X⟩
 case round=>
  clear B0;obtain⟨k,hk,rfl,rfl,rfl,hL⟩:=hrel;by_cases hlt:k<ps.length
  ·obtain⟨p,hp⟩:∃p,ps[k]? =some p:=⟨ps[k],zO hlt⟩
   obtain⟨id,veh,pl⟩:=p;have hfl:=zQ7 ps;obtain⟨b,off,rfl,hcs⟩:=(HI.X.below hL.1).some (j:=k*3) (by omega);clear hcs;obtain⟨f0,f1,f2⟩:=yl9 (HI.X.below hL.1) hp;have hn:qst ok dl (ps.take (k+1))=zl9 ok dl (qst ok dl (ps.take k)) (id,veh,pl):=by
    rw[yz,hp,<-zD3];rfl
   obtain⟨s,HS⟩:=nmd (qst ok dl (ps.take k));rw[HS.X]at hn hL;rw[HS.X];have HN:=za4 hn;have L1:=za4 hL;clear hn hL;obtain⟨sf,ss,sv⟩:=s;simp only at L1⊢;obtain⟨d,HDD⟩:=nmd (dl (id,veh,pl));obtain⟨o,HOO⟩:=nmd (ok (id,veh,pl));have N1:Hid ((wr.alloc (zd #[zc zb id,zc zb veh,zc zb (pl:Int)] 129)).heap[wr.heap.size]? =some (zd #[zc zb id,zc zb veh,zc zb (pl:Int)] 129 (0,0))):=zN _ _;have L2:Hid (LS w (wr.alloc (zd #[zc zb id,zc zb veh,zc zb (pl:Int)] 129)) ss):=L1.X.below (zK _);have hkl:(k:Int)<(ps.length:Int):=by omega
   obtain⟨n0,n1,n2⟩:=zw8 N1.X;have CC:=HC.X (wr.alloc (zd #[zc zb id,zc zb veh,zc zb (pl:Int)] 129)) id veh pl (L1.X.b.alloc L1.X.b.size _);rw[HDD.X,HOO.X]at CC
   go_wp2_with fail
   clear f0 f1 f2 n0 n1 n2;refine CC.mono ?_;rintro e w2 ⟨rfl,hb⟩;have L3:=za4 (L2.X.below hb);have N3:=za4 (za0 hb (za2 N1.X) N1.X);clear hb N1 L2 CC;have hwk:IntKind.i64.wrap ((k:Int)+1)=((k+1:Nat):Int):=by rw[xM _ (by omega)];omega
   obtain⟨n0,n1,n2⟩:=zw8 N3.X;obtain⟨q0,q1,q2⟩:=zw8 L3.X.2.2;have qf:=fun i=>yU _ _ i _ _ L3.X.2.2;have L4:Hid (LS w _ (id,veh,pl)):=L3.X.put id veh pl;cases o
   ·have HNS:Hid (qst ok dl (ps.take (k+1))=⟨sf,ss,sv⟩):=by
     show qst ok dl (ps.take (k+1))=_;rw[HN.X];exact zr0 HOO.X
    go_wp2;go_roundw
    case rel=>exact⟨k+1,by omega,by first|rfl|go_num,by rw[HNS.X],by rw[HNS.X],by rw[HNS.X];exact L3.X⟩
    case measure=>simp[intOf];omega
   ·cases sf
    ·have HNS:Hid (qst ok dl (ps.take (k+1))=⟨true,(id,veh,pl),d⟩):=by
      show qst ok dl (ps.take (k+1))=_;rw[HN.X,<-HDD.X];exact zX6 HOO.X rfl
     go_wp2;go_roundw
     case rel=>exact⟨k+1,by omega,by first|rfl|go_num,by rw[HNS.X],by rw[HNS.X],by rw[HNS.X];exact L4.X⟩
     case measure=>simp[intOf];omega
    ·by_cases hdv:d<sv
     ·have HNS:Hid (qst ok dl (ps.take (k+1))=⟨true,(id,veh,pl),d⟩):=by
       show qst ok dl (ps.take (k+1))=_;rw[HN.X,<-HDD.X];exact z58 HOO.X (by rw[HDD.X];exact hdv)
      go_wp2;go_roundw
      case rel=>exact⟨k+1,by omega,by first|rfl|go_num,by rw[HNS.X],by rw[HNS.X],by rw[HNS.X];exact L4.X⟩
      case measure=>simp[intOf];omega
     ·have HNS:Hid (qst ok dl (ps.take (k+1))=⟨true,ss,sv⟩):=by
       show qst ok dl (ps.take (k+1))=_;rw[HN.X];exact zy9 rfl (by rw[HDD.X];exact hdv)
      go_wp2;go_roundw
      case rel=>exact⟨k+1,by omega,by first|rfl|go_num,by rw[HNS.X],by rw[HNS.X],by rw[HNS.X];exact L3.X⟩
      case measure=>simp[intOf];omega
  ·have hke:k=ps.length:=by omega
   subst hke;have he:qst ok dl (ps.take ps.length)=s0:=by rw[yc];exact HS0.X
   rw[he]at hL;rw[he];have L1:=za4 hL;clear hL he;obtain⟨sf,⟨s1,s2,s3⟩,sv⟩:=s0;simp only at L1⊢;have h3:¬((ps.length:Int)<(ps.length:Int)):=by omega
   obtain⟨t0,t1,t2⟩:=zw8 L1.X.2.1;have tf:=fun i=>yU _ _ i _ _ L1.X.2.1;obtain⟨q0,q1,q2⟩:=zw8 L1.X.2.2;go_wp2;refine yX (v:=.tuple #[.agg #[zc zb s1,zc zb s2,zc zb (s3:Int)],zc zb sv,.bool sf]) (by simp[results,Tryz.results156,go_sem,t0,t1,t2]) rfl ⟨rfl,?_⟩
   repeat(first|with_reducible exact L1.X.b|refine xd ?_ (by simp<;>omega) _)
