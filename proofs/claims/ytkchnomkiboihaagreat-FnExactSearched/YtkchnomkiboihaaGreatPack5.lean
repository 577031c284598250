import Derived.Test.YtkchnomkiboihaaGreatPack1
import Derived.Deep.RegionLaw
set_option linter.unusedSimpArgs false
set_option maxHeartbeats 2000000
namespace Go.Proofs.YtkchnomkiboihaaGreat
theorem xU:type_of% @List.length_append:=@List.length_append
theorem xV:type_of% @Option.some.injEq:=@Option.some.injEq
theorem xW:type_of% @Go.Value.slice.injEq:=@Go.Value.slice.injEq
theorem xX:type_of% @List.map_append:=@List.map_append
theorem xY:type_of% @List.append_nil:=@List.append_nil
theorem xZ:type_of% @Go.Addr.mk.injEq:=@Go.Addr.mk.injEq
theorem x6:type_of% @List.getElem?_drop:=@List.getElem?_drop
theorem x7:type_of% @List.length_drop:=@List.length_drop
theorem x8:type_of% @Go.ownsRow_setCell_other:=@Go.ownsRow_setCell_other
theorem qa:type_of% @Go.World.ownsRow_made:=@Go.World.ownsRow_made
theorem qb:type_of% @and_true:=@and_true
theorem qc:type_of% @Nat.lt_or_ge:=@Nat.lt_or_ge
theorem qd:type_of% @Bool.eq_false_or_eq_true:=@Bool.eq_false_or_eq_true
theorem qe:type_of% @Go.info_parts:=@Go.info_parts
theorem qg:type_of% @true_and:=@true_and
open Value renaming slice→za,int→zc,oneCell'→zr
open IntKind renaming i64→zb
open Obj renaming cells→zd
open Proofs.Tryz renaming prog→ze
open Go renaming World→zg
open World renaming setCell→zh
open Region renaming wanted→zq
open Builtin renaming append_→zt,append→zv
open Callee renaming builtin→zu
open List renaming getD→zw
open Addr renaming add→zG
open Op renaming call→zH
open Go.RowKit
open Q
theorem zb9{w w':zg}{row:Option Nat}{k:Nat}{o:Obj}(hg:w.grownBy w' row)(h:w.heap[k]? =some o)(hne:some k≠row):w'.heap[k]? =some o:=(hg.block k (za2 h) hne).trans h
theorem ze9{w:zg}{base size g n cap:Nat}{e:TypeId}{zs:List Int}(h:w.ownsRow base e size (za (some ⟨g,0,none⟩) n cap) n (zs.map (zc zb))):za3 w (some ⟨g,0,none⟩) zs:=by
 intro j hj;refine⟨g,0,rfl,?_⟩;have:=h.cells (g:=g) rfl j (zc zb (zs.getD j 0)) (by simp[zw,hj]);have hadd:(⟨g,0,none⟩:Addr).add j=⟨g,0+j,none⟩:=by unfold zG;split<;>simp_all
 rw[hadd]at this;exact this
theorem zc5{w w':zg}{base size n:Nat}{e:TypeId}{v:Value}{xs:List Value}(h:w.ownsRow base e size v n xs)(hb:Below w.heap.size w w'):w'.ownsRow base e size v n xs:=by
 obtain⟨h1,h2|⟨g,cap,cur,h2,h3,h4,h5⟩⟩:=h
 ·exact⟨h1,.inl h2⟩
 ·exact⟨h1,.inr ⟨g,cap,cur,h2,h3,za0 hb (za2 h4) h4,h5⟩⟩
theorem y51{w:zg}{base k:Nat}{v:Value}{e:TypeId}{size:Nat}{xs:List Value}(h:w.ownsRow base e size v (k+1) xs):∃g c,v=za (some ⟨g,0,none⟩) (k+1) c/\base<=g:=by
 obtain⟨_,⟨_,h2⟩|⟨g,cap,cur,h2,h3,_⟩⟩:=h
 ·omega
 ·exact⟨g,cap,h2,h3⟩
theorem zu0{w:zg}{base k:Nat}{v:Value}{e:TypeId}{size:Nat}{xs:List Value}(h:w.ownsRow base e size v k xs):v=za none 0 0∨∃g c,v=za (some ⟨g,0,none⟩) k c:=by
 obtain⟨_,⟨h1,_⟩|⟨g,cap,cur,h2,_⟩⟩:=h
 ·exact .inl h1
 ·exact .inr ⟨g,cap,h2⟩
theorem zc4{w:zg}{base b0 k:Nat}{v:Value}{e:TypeId}{size:Nat}{xs:List Value}(h:w.ownsRow base e size v k xs)(hb:b0<=base):w.ownsRow b0 e size v k xs:=by
 obtain⟨h0,h1|⟨g,cap,cur,h2,h3,h4⟩⟩:=h
 ·exact⟨h0,.inl h1⟩
 ·exact⟨h0,.inr ⟨g,cap,cur,h2,y7 hb h3,h4⟩⟩
theorem zm5{w:zg}{base k b i:Nat}{v u:Value}{e:TypeId}{size:Nat}{xs:List Value}(h:w.ownsRow base e size v k xs)(hb:b<base):(w.setCell ⟨b,i,none⟩ u).ownsRow base e size v k xs:=ownsRow_setCell_below h hb u
theorem zv4{w:zg}{base n:Nat}{e:TypeId}{sl:Value}{xs:List Int}(h:w.ownsRow base e 1 sl n (xs.map (zc zb))):∃a c,sl=za a xs.length c/\xs.length=n/\za3 w a xs:=by
 obtain⟨h1,⟨rfl,h2⟩|⟨g,cap,cur,rfl,h3,h4,h5⟩⟩:=id h
 ·subst h2
  have:xs=[]:=by simpa using h1
  subst this;exact⟨none,0,rfl,rfl,fun j hj=>by simp at hj⟩
 ·have hl:xs.length=n:=by simpa using h1
  exact⟨_,_,by rw[hl],hl,ze9 h⟩
theorem zt8(W:zg)(v:Value)(T:TypeId)(g:Nat)(hg:W.heap.size=g):(W.alloc (zd #[v] T)).cell? ⟨g,0,none⟩=some v:=by
 subst hg;rw[zR _ _ 0 _ _ _ (zN W (zd #[v] T))];simp
theorem yi7{w:zg}{ad:Addr}{x0:Value}(hc:w.cell? ad=some x0):∀j u,[x0][j]? =some u->w.cell? (ad.add j)=some u:=by
 intro j u hu;have hj:j=0:=by
  rcases j with _|j
  ·rfl
  ·simp at hu
 subst hj;have:ad.add 0=ad:=by unfold zG;split<;>simp_all
 rw[this,hc];simpa using hu
theorem yn7(w:zg){ops:Array Oper}{rest:List Oper}{o:Oper}{a:Act}{Q:Exit->Act->zg->Prop}
 (hg:o.guard=none) (s x:Operand) (hop:o.op=zH {callee:=zu zv,args:=#[s,x],argTypes:=#[24,24]})
 (base:Nat) (v:Value) (k:Nat) (xs:List Value) (hs:a.eval s=v) (hown:w.ownsRow base 2 1 v k xs) (ad:Addr) (c:Nat) (x0:Value) (hx:a.eval x=za (some ad) 1 c)
 (hc:w.cell? ad=some x0) (h1c:x0.oneCell'=true) (b1:k<=1000) (hb:base<=w.heap.size)
 (hK:∀v' w',w'.ownsRow base 2 1 v' (k+1) (xs++[x0])->w.grownBy w' v.ownBlock->wpList ze ops Q rest (a.put o.dst v') w'):
 wpList ze ops Q (o::rest) a w:=by
 obtain⟨i0,hi,hz0,hz1,hz2⟩:=qe Tryz.info2;exact wpList_append_own w hg s x _ hop base _ i0 _ 1 8 xi hi hz0 hz1 hz2 rfl (by decide) v k xs hs hown ad 1 c [x0] hx rfl (yi7 hc) (by simpa using h1c) (by unfold maxLen;omega) (by omega) hb (fun v' w' h1 h2 _=>hK v' w' h1 h2)
theorem ym7:(Tryz.prog.info? 103).map (fun i=>(i.zero,i.size,i.bytes))=some (some (.agg #[zc zb 0,zc zb 0,zc zb 0,zc zb 0,zc zb 0,zc zb 0]),6,48):=by kernel_rfl
theorem yb3(w:zg){ops:Array Oper}{rest:List Oper}{o:Oper}{a:Act}{Q:Exit->Act->zg->Prop}
 (hg:o.guard=none) (l c:Operand) (hop:o.op=Op.makeSlice 27 l c) (base:Nat)
 (kl kc:IntKind) (C:Int) (n:Nat) (hl:a.eval l=.int kl 0) (hc:a.eval c=.int kc C) (hC:C=(n:Int)) (b2:n<=1048576) (b4:base<=w.heap.size)
 (hK:∀w',w'.ownsRow base 103 6 (za (some ⟨w.heap.size,0,none⟩) 0 n) 0 []->w.grownBy w' none->wpList ze ops Q rest (a.put o.dst (za (some ⟨w.heap.size,0,none⟩) 0 n)) w'):
 wpList ze ops Q (o::rest) a w:=by
 obtain⟨i0,hi,hz0,hz1,hz2⟩:=qe ym7;exact wpList_make_own w hg l c _ hop base _ i0 _ 6 Tryz.underlying27 hi hz0 hz1 kl kc C n hl hc hC (by rw[hz2];omega) (by unfold maxLen;omega) b4 hK
theorem zN7(w:zg){ops:Array Oper}{rest:List Oper}{o:Oper}{a:Act}{Q:Exit->Act->zg->Prop}
 (hg:o.guard=none) (s x:Operand) (hop:o.op=zH {callee:=zu zv,args:=#[s,x],argTypes:=#[27,27]})
 (base:Nat) (g k cap:Nat) (xs:List Value) (hs:a.eval s=za (some ⟨g,0,none⟩) k cap) (hown:w.ownsRow base 103 6 (za (some ⟨g,0,none⟩) k cap) k xs) (ad:Addr) (m c:Nat) (news:List Value) (hx:a.eval x=za (some ad) m c) (hn:news.length=m*6)
 (hc:∀j u,news[j]? =some u->w.cell? (ad.add j)=some u) (h1c:∀u∈news,u.oneCell'=true) (b1:k+m<=cap)
 (hK:∀w',w'.ownsRow base 103 6 (za (some ⟨g,0,none⟩) (k+m) cap) (k+m) (xs++news)->w.grownBy w' (some g)->wpList ze ops Q rest (a.put o.dst (za (some ⟨g,0,none⟩) (k+m) cap)) w'):
 wpList ze ops Q (o::rest) a w:=by
 obtain⟨i0,hi,hz0,hz1,hz2⟩:=qe ym7;exact wpList_append_fits w hg s x _ hop base _ i0 6 Tryz.underlying27 hi hz1 g k cap xs hs hown ad m c news hx hn hc h1c b1 hK
theorem y79(os:List Int)(ko:Nat)(ids:List Int){k:Nat}{id:Int}(hk:k<ids.length)(hid:ids.getD k 0=id){o0 o1 o2 o3 o4 o5:Int}(h0:zd0 os ko id 0=o0)(h1:zd0 os ko id 1=o1)(h2:zd0 os ko id 2=o2)(h3:zd0 os ko id 3=o3)(h4:zd0 os ko id 4=o4)(h5:zd0 os ko id 5=o5):
 (((zd1 os ko ids).take (k*6)).map (zc zb))++[zc zb o0,zc zb o1,zc zb o2,zc zb o3,zc zb o4,zc zb o5]=((zd1 os ko ids).take ((k+1)*6)).map (zc zb):=by
 have hl:=zj4 os ko ids;have e:(k+1)*6=k*6+1+1+1+1+1+1:=by omega
 have g:∀f,f<6->(zd1 os ko ids).getD (k*6+f) 0=zd0 os ko id f:=fun f hf=>hid▸zk5 os ko ids hk hf;rw[e,zg0 _ _ (by omega),zg0 _ _ (by omega),zg0 _ _ (by omega),zg0 _ _ (by omega),zg0 _ _ (by omega),zg0 _ _ (by omega)];have g0:=g 0 (by omega);have g1:=g 1 (by omega);have g2:=g 2 (by omega);have g3:=g 3 (by omega);have g4:=g 4 (by omega);have g5:=g 5 (by omega);simp only[Nat.add_zero]at g0;simp only[g0,g1,g2,g3,g4,g5,h0,h1,h2,h3,h4,h5];simp
theorem yq0(W:zg)(o0 o1 o2 o3 o4 o5:Value)(T:TypeId)(g:Nat)(hg:W.heap.size=g):∀j u,[o0,o1,o2,o3,o4,o5][j]? =some u->(W.alloc (zd #[o0,o1,o2,o3,o4,o5] T)).cell? ((⟨g,0,none⟩:Addr).add j)=some u:=by
 intro j u hu;subst hg;have hadd:(⟨W.heap.size,0,none⟩:Addr).add j=⟨W.heap.size,j,none⟩:=by unfold zG;split<;>simp_all
 rw[hadd,zR _ _ j _ _ _ (zN W (zd #[o0,o1,o2,o3,o4,o5] T))];simpa using hu
theorem yk0{W:zg}{g o k i:Nat}{zs:List Int}{v:Value}(h:za3 W (some ⟨g,o,none⟩) zs)(hne:g≠k):za3 (W.setCell ⟨k,i,none⟩ v) (some ⟨g,o,none⟩) zs:=by
 intro j hj;exact⟨g,o,rfl,za5 (zu2 h hj rfl) hne⟩
theorem zl2{w:zg}{k:Nat}{c0 c1 c2 c3 c4 c5 c6 c7:Value}{T:TypeId}(r:w.heap[k]? =some (zd #[c0,c1,c2,c3,c4,c5,c6,c7] T (0,0))):
 w.cell? ⟨k,0,none⟩=some c0/\w.cell? ⟨k,1,none⟩=some c1/\w.cell? ⟨k,2,none⟩=some c2/\w.cell? ⟨k,3,none⟩=some c3/\w.cell? ⟨k,4,none⟩=some c4/\w.cell? ⟨k,5,none⟩=some c5/\w.cell? ⟨k,6,none⟩=some c6/\w.cell? ⟨k,7,none⟩=some c7:=by
 refine⟨?_,?_,?_,?_,?_,?_,?_,?_⟩
 ·rw[zR _ _ 0 _ _ _ r];simp
 ·rw[zR _ _ 1 _ _ _ r];simp
 ·rw[zR _ _ 2 _ _ _ r];simp
 ·rw[zR _ _ 3 _ _ _ r];simp
 ·rw[zR _ _ 4 _ _ _ r];simp
 ·rw[zR _ _ 5 _ _ _ r];simp
 ·rw[zR _ _ 6 _ _ _ r];simp
 ·rw[zR _ _ 7 _ _ _ r];simp
theorem z55(n lo hi:Int)(w:zg)(v:Bool)(hv:inB n lo hi=v):
 Calls ze 32 #[zc zb n,zc zb lo,zc zb hi] w fun e w'=>e=.returned (.bool v)/\w'=w:=hv▸zc1 n lo hi w
theorem yd2(n fine:Int)(a ao av bi:Option Addr)(cap ko co kv cv c2:Nat)(zs os ids:List Int)(w:zg)(hO:za3 w ao os)(hI:za3 w bi ids)(hlo:os.length=ko*6)(hko:ko<=9223372036854775807)(hli:ids.length<=9223372036854775807)(hc2:ids.length<=c2):
 Calls ze 149 #[.agg #[zc zb n,za a zs.length cap,za ao ko co,za av kv cv,zc zb fine],za bi ids.length c2] w fun e w'=>Below w.heap.size w w'/\((zp1 os ko ids=false/\e=.returned (.tuple #[za none 0 0,.bool false]))∨(zp1 os ko ids=true/\e=.returned (.tuple #[za (some ⟨w.heap.size+1,0,none⟩) ids.length ids.length,.bool true])/\za3 w' (some ⟨w.heap.size+1,0,none⟩) (zd1 os ko ids))):=by
 have HO:=za4 hO;have HI:=za4 hI;have HLO:Hid _:=hlo;clear hO hI hlo;have HB0:Hid (Below w.heap.size w (w.alloc (zd #[zc zb n,za a zs.length cap,za ao ko co,za av kv cv,zc zb fine] 30))):=zK _;have HP0:Hid ((w.alloc (zd #[zc zb n,za a zs.length cap,za ao ko co,za av kv cv,zc zb fine] 30)).heap[w.heap.size]? =_):=zN _ _;by_cases h12:ids.length<=12
 ·go_enter Tryz.func149,Tryz.ntmps149
  go_wp2_with(first
   |(at_make;refine yb3 _ rfl _ _ rfl (w.heap.size+1) zb zb _ ids.length rfl rfl rfl (by omega) (by simp) ?_;intro w1 hown0 hgrow0))
  have HB1:Hid _:=HB0.grown hgrow0 HB0.size (fun k e=>by cases e);have HP1:Hid (w1.heap[w.heap.size]? =_):=zb9 hgrow0 HP0.X (by simp);have HW1:Hid (w1.ownsRow (w.heap.size+1) 103 6 (za (some ⟨w.heap.size+1,0,none⟩) 0 ids.length) 0 []):=by
   show w1.ownsRow _ _ _ _ _ _;simpa using hown0
  clear hown0 hgrow0 HB0 HP0;go_loopw[6,19] (fun sl t wr=>∃k:Nat,k<=ids.length/\t=zc zb k/\sl=za (some ⟨w.heap.size+1,0,none⟩) k ids.length/\zv7 os ko ids k/\Below w.heap.size w wr/\wr.heap[w.heap.size]? =some (zd #[zc zb n,za a zs.length cap,za ao ko co,za av kv cv,zc zb fine] 30 (0,0))/\wr.ownsRow (w.heap.size+1) 103 6 (za (some ⟨w.heap.size+1,0,none⟩) k ids.length) k (((zd1 os ko ids).take (k*6)).map (zc zb))) (fun _ t _=>ids.length - (intOf t).toNat)
  case atStart=>exact⟨0,yZ _,rfl,rfl,zA0 _ _ _,HB1.X,HP1.X,by simpa using HW1.X⟩
  case round=>
   clear HB1 HP1 HW1;obtain⟨k,hk,rfl,rfl,hth,hb,hp,hw⟩:=hrel;have HT:=za4 hth;have HB:Hid _:=hb;have HP:=za4 hp;have HW:=za4 hw;obtain⟨c0,c1,c2',c3,c4⟩:=za7 hp;clear hth hb hp hw;by_cases hlt:k<ids.length
   ·obtain⟨b,off,rfl,hcs⟩:=za3.some (za3.below HI.X HB.X) hlt
    have ct:=hcs k hlt;clear hcs;obtain⟨id,HID⟩:=nmd (ids.getD k 0);rw[HID.X]at ct;have hkc:k<=c2:=by omega
    obtain⟨o0,H0⟩:=nmd (zd0 os ko id 0);obtain⟨o1,H1⟩:=nmd (zd0 os ko id 1);obtain⟨o2,H2⟩:=nmd (zd0 os ko id 2);obtain⟨o3,H3⟩:=nmd (zd0 os ko id 3);obtain⟨o4,H4⟩:=nmd (zd0 os ko id 4);obtain⟨o5,H5⟩:=nmd (zd0 os ko id 5);obtain⟨tt,HTT⟩:=nmd (zm0 os ko id)
    go_wp2_with fail
    refine(z31 n fine id a ao av _ cap ko co kv cv os _ (HO.below HB.X) HLO.X hko).mono ?_;rintro e w2 ⟨rfl,hb2⟩;rw[H0.X,H1.X,H2.X,H3.X,H4.X,H5.X,HTT.X];have HB2:Hid (Below w.heap.size w (w2.alloc (zd #[zc zb o0,zc zb o1,zc zb o2,zc zb o3,zc zb o4,zc zb o5] 103))):=(HB.trans (hb2.mono HB.size)).alloc (y7 HB.size hb2.size) _;have HP2:Hid ((w2.alloc (zd #[zc zb o0,zc zb o1,zc zb o2,zc zb o3,zc zb o4,zc zb o5] 103)).heap[w.heap.size]? =_):=(yY _ _ (za2 (za0 hb2 (za2 HP.X) HP.X))).trans (za0 hb2 (za2 HP.X) HP.X);have HW2:Hid ((w2.alloc (zd #[zc zb o0,zc zb o1,zc zb o2,zc zb o3,zc zb o4,zc zb o5] 103)).ownsRow _ _ _ _ _ _):=(zc5 HW.X hb2).alloc _;have HRO:Hid ((w2.alloc (zd #[zc zb o0,zc zb o1,zc zb o2,zc zb o3,zc zb o4,zc zb o5] 103)).heap[w2.heap.size]? =_):=zN _ _;obtain⟨p0,p1,p2,p3,p4,p5⟩:=zh8 HRO.X;clear hb2 c0 c1 c2' c3 c4 ct;cases tt
    ·have HN:Hid _:=zz1 hlt (zz0 HID.X HTT.X rfl)
     go_wp2;go_ret2;exact⟨HB2.X,.inl ⟨HN.X,rfl⟩⟩
    ·obtain⟨hh,HH⟩:=nmd (zx5 ids k id)
     cases hh
     ·have HS1:Hid (zv7 os ko ids (k+1)):=zA5 HT.X (zz0 HID.X HTT.X HH.X)
      go_wp2_with(first
       |(go_at_call 178;refine(zA3 _ k _ id ids _ (HI.below HB2.X) hk (by omega)).mono ?_;rintro e w3 ⟨rfl,rfl⟩;rw[HH.X])
       |(at_builtin;refine zN7 _ rfl _ _ rfl (w.heap.size+1) (w.heap.size+1) k ids.length _ rfl (HW2.alloc _) _ 1 1 [zc zb o0,zc zb o1,zc zb o2,zc zb o3,zc zb o4,zc zb o5] rfl rfl (yq0 _ _ _ _ _ _ _ _ _ (by simp)) (by simp[zr]) (by omega) ?_;intro w4 hown4 hgrow4))
      have hne:some w.heap.size≠some (w.heap.size+1):=by simp
      refine⟨⟨k+1,by omega,by go_num,rfl,HS1.X,(HB2.alloc HB2.size _).grown hgrow4 (y7 HB2.size (by simp)) (fun j e=>by cases e;omega),zb9 hgrow4 ((yY _ _ (za2 HP2.X)).trans HP2.X) (by simp),?_⟩,by simp[intOf];omega⟩;rw[y79 os ko ids hlt HID.X H0.X H1.X H2.X H3.X H4.X H5.X]at hown4;exact hown4
     ·have HN:Hid _:=zz1 hlt (zz0 HID.X HTT.X HH.X)
      go_wp2_with(first
       |(go_at_call 178;refine(zA3 _ k _ id ids _ (HI.below HB2.X) hk (by omega)).mono ?_;rintro e w3 ⟨rfl,rfl⟩;rw[HH.X]))
      go_ret2;exact⟨HB2.X,.inl ⟨HN.X,rfl⟩⟩
   ·have hkl:k=ids.length:=by omega
    have HN:Hid _:=z78 h12 (hkl▸HT.X);subst hkl;go_wp2;go_ret2;refine⟨HB.X,.inr ⟨HN.X,rfl,?_⟩⟩;have:=HW.X;rw[xu (by rw[zj4];omega)]at this;exact ze9 this
 ·have HN:Hid (zp1 os ko ids=false):=zF8 h12
  go_enter Tryz.func149,Tryz.ntmps149;go_wp2;go_ret2;exact⟨HB0.X,.inl ⟨HN.X,rfl⟩⟩
def CRT(w W:zg)(cs rs ts:Array Value):Prop:=CR w W cs rs/\W.heap[w.heap.size+2]? =some (.cells ts 119 (0,0))
theorem CRT.new(w:zg)(cs rs ts:Array Value):CRT w (((w.alloc (.cells cs 30)).alloc (.cells rs 80)).alloc (.cells ts 119)) cs rs ts:=by
 refine⟨(CR.new w cs rs).alloc _,?_⟩;have:=zN ((w.alloc (.cells cs 30)).alloc (.cells rs 80)) (.cells ts 119);simpa using this
theorem CRT.below{w W W':zg}{cs rs ts:Array Value}(h:CRT w W cs rs ts)(hb:Below W.heap.size W W'):CRT w W' cs rs ts:=
 ⟨h.1.below hb,za0 hb (za2 h.2) h.2⟩
theorem CRT.b{w W:zg}{cs rs ts:Array Value}(h:CRT w W cs rs ts):Below w.heap.size w W:=h.1.1
theorem CRT.alloc{w W:zg}{cs rs ts:Array Value}(h:CRT w W cs rs ts)(o:Obj):CRT w (W.alloc o) cs rs ts:=h.below (zK _)
theorem zI8(n fine veh:Int)(a ao av bi:Option Addr)(cap ko co kv cv c2:Nat)(zs os vs ids:List Int)(w:zg)(hA:za3 w a zs)(hO:za3 w ao os)(hV:za3 w av vs)(hI:za3 w bi ids)(hlo:os.length=ko*6)(hlv:vs.length=kv*5)(hko:ko<=9223372036854775807)(hkv:kv<=9223372036854775807)(hli:ids.length<=9223372036854775807)(hc2:ids.length<=c2)(hcB:zc8 n zs os vs ko kv fine=true):
 Calls ze 116 #[.agg #[zc zb n,za a zs.length cap,za ao ko co,za av kv cv,zc zb fine],.agg #[zc zb veh,za bi ids.length c2]] w fun e w'=>Below w.heap.size w w'/\((zm9 true vs os kv ko veh ids≠0/\e=.returned (.tuple #[.agg #[zc zb 0,za none 0 0,zc zb 0,zc zb 0,zc zb 0,zc zb 0,zc zb 0,za none 0 0],zc zb (zm9 true vs os kv ko veh ids)]))∨(zm9 true vs os kv ko veh ids=0/\∃g,w.heap.size<=g/\e=.returned (.tuple #[.agg #[zc zb n,za a zs.length cap,zc zb (zc2 vs kv veh 0),zc zb (zc2 vs kv veh 1),zc zb (zc2 vs kv veh 2),zc zb (zc2 vs kv veh 3),zc zb (zc2 vs kv veh 4),za (some ⟨g,0,none⟩) ids.length ids.length],zc zb 0])/\za3 w' (some ⟨g,0,none⟩) (zd1 os ko ids))):=by
 have HA:=za4 hA;have HO:=za4 hO;have HV:=za4 hV;have HI:=za4 hI;have HLO:Hid _:=hlo;have HLV:Hid _:=hlv;clear hA hO hV hI hlo hlv;have HC:Hid _:=hcB;clear hcB;have HC0:Hid (CRT w (((w.alloc (zd #[zc zb n,za a zs.length cap,za ao ko co,za av kv cv,zc zb fine] 30)).alloc (zd #[zc zb veh,za bi ids.length c2] 80)).alloc (zd #[zc zb 0,za none 0 0,zc zb 0,zc zb 0,zc zb 0,zc zb 0,zc zb 0,za none 0 0] 119)) _ _ _):=CRT.new w _ _ _;obtain⟨r,HR⟩:=nmd (zm9 true vs os kv ko veh ids);rw[HR.X];go_enter Tryz.func116,Tryz.ntmps116;obtain⟨c0,c1,c2',c3,c4⟩:=za7 HC0.X.1.2.1;obtain⟨d0,d1⟩:=za1 HC0.X.1.2.2
 go_wp2_with fail
 clear c0 c1 c2' c3 c4 d0 d1;refine(zI6 n fine veh a ao av _ cap ko co kv cv vs _ (HV.X.below HC0.X.1.1) HLV.X hkv).mono ?_;rintro e w2 ⟨rfl,hb⟩;obtain⟨v0,G0⟩:=nmd (zc2 vs kv veh 0);obtain⟨v1,G1⟩:=nmd (zc2 vs kv veh 1);obtain⟨v2,G2⟩:=nmd (zc2 vs kv veh 2);obtain⟨v3,G3⟩:=nmd (zc2 vs kv veh 3);obtain⟨v4,G4⟩:=nmd (zc2 vs kv veh 4);rw[G0.X,G1.X,G2.X,G3.X,G4.X];have C2:Hid (CRT w (w2.alloc (zd #[zc zb v0,zc zb v1,zc zb v2,zc zb v3,zc zb v4] 107)) _ _ _):=(HC0.X.below hb).alloc _;have RV2:Hid ((w2.alloc (zd #[zc zb v0,zc zb v1,zc zb v2,zc zb v3,zc zb v4] 107)).heap[w2.heap.size]? =_):=zN _ _;clear hb HC0;obtain⟨t0,t1,t2,t3,t4,t5,t6,t7⟩:=zl2 C2.X.2;have tf:=fun i=>yU _ _ i _ _ C2.X.2;cases ht:fnd5T vs kv veh
 ·have HV1:Hid _:=HR.X.symm.trans (yw1 rfl ht)
  go_wp2;refine yX (v:=.tuple #[.agg #[zc zb 0,za none 0 0,zc zb 0,zc zb 0,zc zb 0,zc zb 0,zc zb 0,za none 0 0],zc zb 2]) (by simp[results,Tryz.results116,go_sem,t0,t1,t2,t3,t4,t5,t6,t7]) rfl ⟨?_,.inl ⟨by rw[HV1.X];decide,by rw[HV1.X]⟩⟩
  repeat(first|with_reducible exact C2.X.b|refine xd ?_ (by simp<;>omega) _)
 ·have HT5:Hid _:=ht
  clear ht;obtain⟨c0,c1,c2',c3,c4⟩:=za7 C2.X.1.2.1;obtain⟨d0,d1⟩:=za1 C2.X.1.2.2
  go_wp2_with fail
  clear c0 c1 c2' c3 c4 d0 d1 t0 t1 t2 t3 t4 t5 t6 t7 tf;generalize w2.alloc (zd #[zc zb v0,zc zb v1,zc zb v2,zc zb v3,zc zb v4] 107)=W2 at*;generalize w2.heap.size=gv at*;refine(yd2 n fine a ao av bi cap ko co kv cv c2 zs os ids W2 (HO.X.below C2.X.1.1) (HI.X.below C2.X.1.1) HLO.X hko hli hc2).mono ?_;rintro e w3 ⟨hb,⟨hst,rfl⟩|⟨hst,rfl,hros⟩⟩
  ·have C3:Hid (CRT w w3 _ _ _):=C2.X.below hb
   have HV1:Hid _:=HR.X.symm.trans (zQ6 rfl HT5.X hst);obtain⟨t0,t1,t2,t3,t4,t5,t6,t7⟩:=zl2 C3.X.2;have tf:=fun i=>yU _ _ i _ _ C3.X.2;clear hb hst;go_wp2;refine yX (v:=.tuple #[.agg #[zc zb 0,za none 0 0,zc zb 0,zc zb 0,zc zb 0,zc zb 0,zc zb 0,za none 0 0],zc zb 3]) (by simp[results,Tryz.results116,go_sem,t0,t1,t2,t3,t4,t5,t6,t7]) rfl ⟨?_,.inl ⟨by rw[HV1.X];decide,by rw[HV1.X]⟩⟩
   repeat(first|with_reducible exact C3.X.b|refine xd ?_ (by simp<;>omega) _)
  ·have HST:Hid _:=hst
   have C3:=za4 (C2.X.below hb);have RV3:=za4 (za0 hb (za2 RV2.X) RV2.X);have HROS:=za4 hros;have HGR:Hid (w.heap.size+2<W2.heap.size+1):=Nat.lt_succ_of_lt (za2 C2.X.2);clear hb hst hros C2 RV2;generalize W2.heap.size+1=gr at*;obtain⟨q0,q1,q2,q3,q4⟩:=za7 RV3.X;obtain⟨hmat,hords,hvehs,hn1,_⟩:=zb3 HC.X;have hroom:=(zs3 hvehs hn1 veh).2.1;rw[G2.X]at hroom;have HOB:Hid _:=hords;have HN1:Hid _:=hn1;clear hmat hords hvehs hn1;have h12:=(zg3 HST.X).1
   go_wp2_with fail
   clear q0 q1 q2 q3 q4;go_loopw[9,36] (fun rm t wr=>∃k:Nat,k<=ids.length/\t=zc zb k/\rm=zc zb (v2 - zn2 os ko ids k)/\CRT w wr #[zc zb n,za a zs.length cap,za ao ko co,za av kv cv,zc zb fine] #[zc zb veh,za bi ids.length c2] #[zc zb 0,za none 0 0,zc zb 0,zc zb 0,zc zb 0,zc zb 0,zc zb 0,za none 0 0]/\wr.heap[gv]? =some (zd #[zc zb v0,zc zb v1,zc zb v2,zc zb v3,zc zb v4] 107 (0,0))/\za3 wr (some ⟨gr,0,none⟩) (zd1 os ko ids)) (fun _ t _=>ids.length - (intOf t).toNat)
   case atStart=>exact⟨0,yZ _,rfl,by simp[zn2],C3.X,RV3.X,HROS.X⟩
   case round=>
    clear C3 RV3 HROS;obtain⟨k,hk,rfl,rfl,hb,hrv,hros⟩:=hrel;have hbd:=zE4 HOB.X ids k;have HB:=za4 hb;have HRV:=za4 hrv;have HROS:=za4 hros;obtain⟨s0,HS0⟩:=nmd (zn2 os ko ids k);rw[HS0.X]at hbd⊢;clear hb hrv hros;by_cases hlt:k<ids.length
    ·obtain⟨b',off',e,hcs⟩:=za3.some HROS.X (j:=k*6) (by rw[zj4];omega)
     simp at e;obtain⟨rfl,rfl⟩:=e;obtain⟨r0,r1,r2,r3,r4,r5⟩:=zq2 hcs (zj4 os ko ids) k hlt;clear hcs;simp only[z6]at r0 r1 r2 r3 r4 r5;obtain⟨id,HID⟩:=nmd (ids.getD k 0);rw[zk5 os ko ids hlt (by omega),HID.X]at r0 r1 r2 r3 r4 r5;have hl2:=z86 HOB.X id;obtain⟨o0,H0⟩:=nmd (zd0 os ko id 0);obtain⟨o1,H1⟩:=nmd (zd0 os ko id 1);obtain⟨o2,H2⟩:=nmd (zd0 os ko id 2);obtain⟨o3,H3⟩:=nmd (zd0 os ko id 3);obtain⟨o4,H4⟩:=nmd (zd0 os ko id 4);obtain⟨o5,H5⟩:=nmd (zd0 os ko id 5);rw[H2.X]at hl2;rw[H0.X]at r0;rw[H1.X]at r1;rw[H2.X]at r2;rw[H3.X]at r3;rw[H4.X]at r4;rw[H5.X]at r5;have HL1:Hid (zn2 os ko ids (k+1)=s0+o2):=by
      show _=_;unfold zn2;rw[HS0.X,HID.X,H2.X]
     go_wp2;exact⟨⟨k+1,by omega,by go_num,by rw[HL1.X];go_num,HB.X.alloc _,(yY _ _ (za2 HRV.X)).trans HRV.X,HROS.X.below (zK _)⟩,by simp[intOf];omega⟩
    ·have hkl:k=ids.length:=by omega
     have HS0':Hid _:=hkl▸HS0.X;obtain⟨t0,t1,t2,t3,t4,t5,t6,t7⟩:=zl2 HB.X.2;have tf:=fun i=>yU _ _ i _ _ HB.X.2;clear hkl;by_cases hroom2:v2<s0
     ·have HV1:Hid _:=HR.X.symm.trans (yv1 rfl HT5.X HST.X (by rw[HS0'.X,G2.X];exact hroom2))
      go_wp2;refine yX (v:=.tuple #[.agg #[zc zb 0,za none 0 0,zc zb 0,zc zb 0,zc zb 0,zc zb 0,zc zb 0,za none 0 0],zc zb 4]) (by simp[results,Tryz.results116,go_sem,t0,t1,t2,t3,t4,t5,t6,t7]) rfl ⟨?_,.inl ⟨by rw[HV1.X];decide,by rw[HV1.X]⟩⟩
      repeat(first|with_reducible exact HB.X.b|refine xd ?_ (by simp<;>omega) _)
     ·have HV1:Hid _:=HR.X.symm.trans (yy7 rfl HT5.X HST.X (by rw[HS0'.X,G2.X];exact hroom2))
      obtain⟨q0,q1,q2,q3,q4⟩:=za7 HRV.X;obtain⟨c0,c1,c2',c3,c4⟩:=za7 HB.X.1.2.1;go_wp2;refine yX (v:=.tuple #[.agg #[zc zb n,za a zs.length cap,zc zb v0,zc zb v1,zc zb v2,zc zb v3,zc zb v4,za (some ⟨gr,0,none⟩) ids.length ids.length],zc zb 0]) (by simp[results,Tryz.results116,go_sem,t0,t1,t2,t3,t4,t5,t6,t7]) rfl ⟨?_,.inr ⟨HV1.X,gr,by have:=HGR.X;omega,?_,?_⟩⟩
      ·repeat(first|with_reducible exact HB.X.b|refine xd ?_ (by simp<;>omega) _)
      ·rw[G0.X,G1.X,G2.X,G3.X,G4.X]
      ·repeat(first|with_reducible exact HROS.X|with_reducible refine yk0 ?_ (by have:=HGR.X;omega))
theorem zD4(n x y:Int)(v0 v1 v2 v3 v4:Int)(a ar:Option Addr)(cap kr cr:Nat)(zs:List Int)(w:zg)(d:Int)(hd:tmI n zs x y=d)(hm:zs6 n zs=true)(hx:0<=x/\x<n)(hy:0<=y/\y<n)(hA:za3 w a zs):
 Calls ze 118 #[.agg #[zc zb n,za a zs.length cap,zc zb v0,zc zb v1,zc zb v2,zc zb v3,zc zb v4,za ar kr cr],zc zb x,zc zb y] w fun e w'=>e=.returned (zc zb d)/\Below w.heap.size w w':=hd▸yD9 n x y v0 v1 v2 v3 v4 a ar cap kr cr zs w hm hx hy hA
def yL2(n:Int)(zs ros:List Int)(home frm:Int)(k f:Nat):Int:=
 if f=0 then og6 ros k 0 else if f=1 then ym4 n zs ros home frm k else if f=2 then zi0 n zs ros home frm k else z02 n zs ros home frm (k+1)
def y61(n:Int)(zs ros:List Int)(home frm:Int)(m:Nat):List Int:=(List.range (m*4)).map fun j=>yL2 n zs ros home frm (j / 4) (j % 4)
theorem zE2(n:Int)(zs ros:List Int)(home frm:Int)(m:Nat):(y61 n zs ros home frm m).length=m*4:=by simp[y61]
theorem zO8(n:Int)(zs ros:List Int)(home frm:Int){m k f:Nat}(hk:k<m)(hf:f<4):(y61 n zs ros home frm m).getD (k*4+f) 0=yL2 n zs ros home frm k f:=by
 unfold y61;have hj:k*4+f<m*4:=by omega
 have e1:(k*4+f) / 4=k:=by omega
 have e2:(k*4+f) % 4=f:=by omega
 rw[zw,ye,List.getElem?_range hj];simp only[yC,yJ,e1,e2]
theorem yw6(n:Int)(zs ros:List Int)(home frm:Int){m k:Nat}(hk:k<m){x0 x1 x2 x3:Int}(h0:og6 ros k 0=x0)(h1:ym4 n zs ros home frm k=x1)(h2:zi0 n zs ros home frm k=x2)(h3:z02 n zs ros home frm (k+1)=x3):
 (((y61 n zs ros home frm m).take (k*4)).map (zc zb))++[zc zb x0,zc zb x1,zc zb x2,zc zb x3]=((y61 n zs ros home frm m).take ((k+1)*4)).map (zc zb):=by
 have hl:=zE2 n zs ros home frm m;have e:(k+1)*4=k*4+1+1+1+1:=by omega
 have g0:=zO8 n zs ros home frm hk (f:=0) (by omega);have g1:=zO8 n zs ros home frm hk (f:=1) (by omega);have g2:=zO8 n zs ros home frm hk (f:=2) (by omega);have g3:=zO8 n zs ros home frm hk (f:=3) (by omega);simp only[Nat.add_zero,yL2]at g0 g1 g2 g3;rw[e,zg0 _ _ (by omega),zg0 _ _ (by omega),zg0 _ _ (by omega),zg0 _ _ (by omega)];simp only[g0,g1,g2,g3];simp[h0,h1,h2,h3]
theorem y49:(Tryz.prog.info? 205).map (fun i=>(i.zero,i.size,i.bytes))=some (some (.agg #[zc zb 0,zc zb 0,zc zb 0,zc zb 0]),4,32):=by kernel_rfl
theorem zR8(w:zg){ops:Array Oper}{rest:List Oper}{o:Oper}{a:Act}{Q:Exit->Act->zg->Prop}
 (hg:o.guard=none) (s x:Operand) (hop:o.op=zH {callee:=zu zv,args:=#[s,x],argTypes:=#[172,172]})
 (base:Nat) (v:Value) (k:Nat) (xs:List Value) (hs:a.eval s=v) (hown:w.ownsRow base 205 4 v k xs) (ad:Addr) (c:Nat) (news:List Value) (hx:a.eval x=za (some ad) 1 c) (hn:news.length=4)
 (hc:∀j u,news[j]? =some u->w.cell? (ad.add j)=some u) (h1c:∀u∈news,u.oneCell'=true) (b1:k<=1000) (hb:base<=w.heap.size)
 (hK:∀v' w',w'.ownsRow base 205 4 v' (k+1) (xs++news)->w.grownBy w' v.ownBlock->wpList ze ops Q rest (a.put o.dst v') w'):
 wpList ze ops Q (o::rest) a w:=by
 obtain⟨i0,hi,hz0,hz1,hz2⟩:=qe y49;exact wpList_append_own w hg s x _ hop base _ i0 _ 4 32 Tryz.underlying172 hi hz0 hz1 hz2 rfl (by decide) v k xs hs hown ad 1 c news hx (by rw[hn]) hc h1c (by unfold maxLen;omega) (by omega) hb (fun v' w' h1 h2 _=>hK v' w' h1 h2)
theorem yp9(W:zg)(o0 o1 o2 o3:Value)(T:TypeId)(g:Nat)(hg:W.heap.size=g):∀j u,[o0,o1,o2,o3][j]? =some u->(W.alloc (zd #[o0,o1,o2,o3] T)).cell? ((⟨g,0,none⟩:Addr).add j)=some u:=by
 intro j u hu;subst hg;have hadd:(⟨W.heap.size,0,none⟩:Addr).add j=⟨W.heap.size,j,none⟩:=by unfold zG;split<;>simp_all
 rw[hadd,zR _ _ j _ _ _ (zN W (zd #[o0,o1,o2,o3] T))];simpa using hu
theorem y38{w:zg}{base k:Nat}{v:Value}{e:TypeId}{size:Nat}{xs:List Value}(h:w.ownsRow base e size v (k+1) xs):∃g c,v=za (some ⟨g,0,none⟩) (k+1) c/\base<=g:=by
 obtain⟨_,⟨_,h2⟩|⟨g,cap,cur,h2,h3,_⟩⟩:=h
 ·omega
 ·exact⟨g,cap,h2,h3⟩
theorem CR.grown{w W W':zg}{cs rs:Array Value}{g:Nat}(h:CR w W cs rs)(hg:W.grownBy W' (some g))(hlt:w.heap.size+1<g):CR w W' cs rs:=
 ⟨h.1.grown hg h.1.size (fun k e=>by cases e;omega),(hg.block _ (za2 h.2.1) (fun e=>by cases e;omega)).trans h.2.1,(hg.block _ (za2 h.2.2) (fun e=>by cases e;omega)).trans h.2.2⟩
theorem zz9(n x y:Int)(a:Option Addr)(cap:Nat)(zs:List Int)(w:zg)(d:Int)(hd:tmI n zs x y=d)(hm:zs6 n zs=true)(hx:0<=x/\x<n)(hy:0<=y/\y<n)(hA:za3 w a zs):
 Calls ze 109 #[.agg #[zc zb n,za a zs.length cap],zc zb x,zc zb y] w fun e w'=>e=.returned (zc zb d)/\Below w.heap.size w w':=hd▸y46 n x y a cap zs w hm hx hy hA
theorem zA9(n fine veh:Int)(a ao av bi:Option Addr)(cap ko co kv cv c2:Nat)(zs os vs ids:List Int)(w:zg)(hA:za3 w a zs)(hO:za3 w ao os)(hV:za3 w av vs)(hI:za3 w bi ids)(hlo:os.length=ko*6)(hlv:vs.length=kv*5)(hko:ko<=9223372036854775807)(hkv:kv<=9223372036854775807)(hli:ids.length<=9223372036854775807)(hc2:ids.length<=c2):
 Calls ze 128 #[.agg #[zc zb n,za a zs.length cap,za ao ko co,za av kv cv,zc zb fine],.agg #[zc zb veh,za bi ids.length c2]] w fun e w'=>Below w.heap.size w w'/\((codeV (zc8 n zs os vs ko kv fine) n zs os vs ko kv veh ids≠0/\e=.returned (.tuple #[za none 0 0,zc zb 0,zc zb (codeV (zc8 n zs os vs ko kv fine) n zs os vs ko kv veh ids)]))∨(codeV (zc8 n zs os vs ko kv fine) n zs os vs ko kv veh ids=0/\∃g c,w.heap.size<=g/\e=.returned (.tuple #[za (some ⟨g,0,none⟩) ids.length c,zc zb (homeV n zs (zd1 os ko ids) ids.length (zc2 vs kv veh 1) (zc2 vs kv veh 3)),zc zb 0])/\za3 w' (some ⟨g,0,none⟩) (y61 n zs (zd1 os ko ids) (zc2 vs kv veh 1) (zc2 vs kv veh 3) ids.length))):=by
 have HA:=za4 hA;have HO:=za4 hO;have HV:=za4 hV;have HI:=za4 hI;have HLO:Hid _:=hlo;have HLV:Hid _:=hlv;clear hA hO hV hI hlo hlv;have HC0:Hid (CR w ((w.alloc (zd #[zc zb n,za a zs.length cap,za ao ko co,za av kv cv,zc zb fine] 30)).alloc (zd #[zc zb veh,za bi ids.length c2] 80)) _ _):=CR.new w _ _;obtain⟨r,HR⟩:=nmd (codeV (zc8 n zs os vs ko kv fine) n zs os vs ko kv veh ids);rw[HR.X];go_enter Tryz.func128,Tryz.ntmps128;obtain⟨c0,c1,c2',c3,c4⟩:=za7 HC0.2.1;obtain⟨d0,d1⟩:=za1 HC0.2.2
 go_wp2_with fail
 clear c0 c1 c2' c3 c4 d0 d1;refine(yq1 n fine veh a ao av bi cap ko co kv cv c2 zs os vs ids _ (HA.below HC0.1) (HO.below HC0.1) (HV.below HC0.1) (HI.below HC0.1) HLO.X HLV.X hko hkv hli hc2).mono ?_;rintro e w1 ⟨rfl,hb⟩;have C1:=za4 (HC0.below hb);clear hb HC0;obtain⟨fv,HFV⟩:=nmd (zm9 (zc8 n zs os vs ko kv fine) vs os kv ko veh ids);rw[HFV.X];by_cases hfv:fv=0
 ·subst hfv
  have HRV:=(zv3 (n:=n) (zs:=zs) HFV.X).symm.trans HR.X;obtain⟨hcb,_,hstB⟩:=zf5 HFV.X;obtain⟨hmat,hords,hvehs,hn1,_⟩:=zb3 hcb;have hvb:=zs3 hvehs hn1 veh;have HMAT:Hid _:=hmat;have HOB:Hid _:=hords;have HN1:Hid _:=hn1;have h12:=(zg3 hstB).1;clear hmat hords hvehs hn1 hcb hstB;obtain⟨c0,c1,c2',c3,c4⟩:=za7 C1.2.1;obtain⟨d0,d1⟩:=za1 C1.2.2
  go_wp2_with fail
  clear c0 c1 c2' c3 c4 d0 d1;refine(zE5 n fine veh a ao av _ cap ko co kv cv vs _ (HV.below C1.1) HLV.X hkv).mono ?_;rintro e w2 ⟨rfl,hb⟩;obtain⟨v0,G0⟩:=nmd (zc2 vs kv veh 0);obtain⟨v1,G1⟩:=nmd (zc2 vs kv veh 1);obtain⟨v2,G2⟩:=nmd (zc2 vs kv veh 2);obtain⟨v3,G3⟩:=nmd (zc2 vs kv veh 3);obtain⟨v4,G4⟩:=nmd (zc2 vs kv veh 4);rw[G1.X,G2.X,G3.X,G4.X]at hvb;rw[G1.X,G3.X,G4.X]at HRV;rw[G0.X,G1.X,G2.X,G3.X,G4.X];generalize fnd5T vs kv veh=tv;have HV1:Hid _:=HRV;have HX1:Hid _:=hvb.1;have HX3:Hid _:=hvb.2.2.1;clear hvb HRV;have C3:Hid (CR w ((w2.alloc (zd #[zc zb v0,zc zb v1,zc zb v2,zc zb v3,zc zb v4] 107)).alloc (zd #[] 205)) _ _):=CR.alloc (CR.alloc (C1.below hb) _) _;have RV3:Hid (((w2.alloc (zd #[zc zb v0,zc zb v1,zc zb v2,zc zb v3,zc zb v4] 107)).alloc (zd #[] 205)).heap[w2.heap.size]? =_):=xb _ _ _;have RO3:Hid (((w2.alloc (zd #[zc zb v0,zc zb v1,zc zb v2,zc zb v3,zc zb v4] 107)).alloc (zd #[] 205)).heap[w2.heap.size+1]? =_):=y8 _ _ _;have HGV:Hid _:=za2 (C1.below hb).2.2;clear hb C1;obtain⟨q0,q1,q2,q3,q4⟩:=za7 RV3.X
  go_wp2_with fail
  clear q0 q1 q2 q3 q4;generalize(w2.alloc (zd #[zc zb v0,zc zb v1,zc zb v2,zc zb v3,zc zb v4] 107)).alloc (zd #[] 205)=W2 at*;generalize w2.heap.size=gv at*;have HW0:Hid (W2.ownsRow (gv+1) 205 4 (za (some ⟨gv+1,0,none⟩) 0 0) 0 []):=⟨by simp,.inr ⟨gv+1,0,#[],rfl,zQ _,RO3.X,zQ _,yZ _,by simp,by simp⟩⟩;have HBD:Hid (z64 n (zd1 os ko ids) ids.length):=z56 HOB.X HN1.X ids;go_loopw[10,11,12,13] (fun sl nw pl t wr=>∃k gg cc:Nat,k<=ids.length/\t=zc zb k/\sl=za (some ⟨gg,0,none⟩) k cc/\gv+1<=gg/\wr.ownsRow (gv+1) 205 4 (za (some ⟨gg,0,none⟩) k cc) k (((y61 n zs (zd1 os ko ids) v1 v3 ids.length).take (k*4)).map (zc zb))/\pl=zc zb (plc (zd1 os ko ids) v1 k)/\nw=zc zb (z02 n zs (zd1 os ko ids) v1 v3 k)/\zr9 n zs (zd1 os ko ids) v1 v3 k/\CR w wr #[zc zb n,za a zs.length cap,za ao ko co,za av kv cv,zc zb fine] #[zc zb veh,za bi ids.length c2]/\wr.heap[gv]? =some (zd #[zc zb v0,zc zb v1,zc zb v2,zc zb v3,zc zb v4] 107 (0,0))) (fun _ _ _ t _=>ids.length - (intOf t).toNat)
  case atStart=>exact⟨0,gv+1,0,yZ _,rfl,rfl,zQ _,by simpa using HW0.X,rfl,rfl,fun j hj=>by omega,C3.X,RV3.X⟩
  case round=>
   clear C3 RV3 RO3 HW0;obtain⟨k,gg,cc,hk,rfl,rfl,hgg,hw,rfl,rfl,htm,hb,hrv⟩:=hrel;have hpl:=zT1 HBD.X HX1.1 HX1.2 k hk;have hnw:=zN9 (home:=v1) HMAT.X HBD.X HX3.X k hk;have HTM:=za4 htm;have HB:=za4 hb;have HRV:=za4 hrv;have HW:=za4 hw;have HGG:Hid _:=hgg;obtain⟨c0,c1,c2',c3,c4⟩:=za7 hb.2.1;obtain⟨d0,d1⟩:=za1 hb.2.2;obtain⟨p,HPL⟩:=nmd (plc (zd1 os ko ids) v1 k);obtain⟨f,HFR⟩:=nmd (z02 n zs (zd1 os ko ids) v1 v3 k);rw[HPL.X]at hpl;rw[HFR.X]at hnw;rw[HPL.X,HFR.X];have HPB:Hid _:=hpl;clear htm hb hrv hpl hw hgg;by_cases hlt:k<ids.length
   ·obtain⟨b,off,rfl,hcs⟩:=za3.some (za3.below HI.X HB.1) hlt
    have ct:=hcs k hlt;clear hcs;obtain⟨id,HID⟩:=nmd (ids.getD k 0);rw[HID.X]at ct;obtain⟨h1b,h2b,h3b,h4b,h5b⟩:=zN8 HOB.X HN1.X id;obtain⟨o0,H0⟩:=nmd (zd0 os ko id 0);obtain⟨o1,H1⟩:=nmd (zd0 os ko id 1);obtain⟨o2,H2⟩:=nmd (zd0 os ko id 2);obtain⟨o3,H3⟩:=nmd (zd0 os ko id 3);obtain⟨o4,H4⟩:=nmd (zd0 os ko id 4);obtain⟨o5,H5⟩:=nmd (zd0 os ko id 5);rw[H1.X]at h1b;rw[H3.X]at h3b;rw[H4.X]at h4b;rw[H5.X]at h5b;have HO1:Hid _:=h1b;clear h1b h2b;obtain⟨d,HD⟩:=nmd (tmI n zs p o1);have hdb:=zx8 HMAT.X p o1;rw[HD.X]at hdb;have K0:Hid (og6 (zd1 os ko ids) k 0=o0):=(zk5 os ko ids hlt (by omega)).trans (by rw[HID.X];exact H0.X);have K1:Hid (og6 (zd1 os ko ids) k 1=o1):=(zk5 os ko ids hlt (by omega)).trans (by rw[HID.X];exact H1.X);have K3:Hid (og6 (zd1 os ko ids) k 3=o3):=(zk5 os ko ids hlt (by omega)).trans (by rw[HID.X];exact H3.X);have K4:Hid (og6 (zd1 os ko ids) k 4=o4):=(zk5 os ko ids hlt (by omega)).trans (by rw[HID.X];exact H4.X);have K5:Hid (og6 (zd1 os ko ids) k 5=o5):=(zk5 os ko ids hlt (by omega)).trans (by rw[HID.X];exact H5.X);obtain⟨mx,HMX⟩:=nmd (max (f+d) o3);have HAR:Hid (ym4 n zs (zd1 os ko ids) v1 v3 k=f+d):=by
     show _=_;unfold ym4;rw[HFR.X,HPL.X,K1.X,HD.X]
    have HSTV:Hid (zi0 n zs (zd1 os ko ids) v1 v3 k=mx):=by
     show _=_;unfold zi0;rw[HAR.X,K3.X,HMX.X]
    have HNX:Hid (z02 n zs (zd1 os ko ids) v1 v3 (k+1)=mx+o5):=by
     show _=_;rw[zV9,HSTV.X,K5.X]
    have hmb:0<=mx/\mx<=3000000:=by
     have:=HMX.X;omega
    obtain⟨tt,HTT⟩:=nmd (zm0 os ko id)
    go_wp2_with fail
    have HCT:=za4 ct;have HCA:Hid ((wr.alloc (zd #[zc zb 0,zc zb 0,zc zb 0,zc zb 0,zc zb 0,zc zb 0] 103)).cell? ⟨b,off+k,none⟩=_):=(((yV wr.heap.size wr).alloc (zQ _) _).cell (p:=⟨b,off+k,none⟩) (zT ct)).trans ct;have HVA:Hid ((wr.alloc (zd #[zc zb 0,zc zb 0,zc zb 0,zc zb 0,zc zb 0,zc zb 0] 103)).heap[gv]? =_):=(yY _ _ (za2 HRV.X)).trans HRV.X;have hlb:=zT ct;simp at hlb;have hlw:=za2 HB.2.1;have hlr:=za2 HB.2.2
    go_region_held3 (fun W=>W.cell? ⟨w.heap.size,0,none⟩=some (zc zb n)/\W.cell? ⟨w.heap.size,1,none⟩=some (za a zs.length cap)/\W.cell? ⟨w.heap.size,2,none⟩=some (za ao ko co)/\W.cell? ⟨w.heap.size,3,none⟩=some (za av kv cv)/\W.cell? ⟨w.heap.size,4,none⟩=some (zc zb fine)/\W.cell? ⟨w.heap.size+1,1,none⟩=some (za (some ⟨b,off,none⟩) ids.length c2)/\W.cell? ⟨b,off+k,none⟩=some (zc zb id)) (first|with_reducible exact kS|with_reducible exact⟨(za5 (za5 (za5 (za5 (za5 (za5 kS.1 (yW hlw)) (yW hlw)) (yW hlw)) (yW hlw)) (yW hlw)) (yW hlw)),(za5 (za5 (za5 (za5 (za5 (za5 kS.2.1 (yW hlw)) (yW hlw)) (yW hlw)) (yW hlw)) (yW hlw)) (yW hlw)),(za5 (za5 (za5 (za5 (za5 (za5 kS.2.2.1 (yW hlw)) (yW hlw)) (yW hlw)) (yW hlw)) (yW hlw)) (yW hlw)),(za5 (za5 (za5 (za5 (za5 (za5 kS.2.2.2.1 (yW hlw)) (yW hlw)) (yW hlw)) (yW hlw)) (yW hlw)) (yW hlw)),(za5 (za5 (za5 (za5 (za5 (za5 kS.2.2.2.2.1 (yW hlw)) (yW hlw)) (yW hlw)) (yW hlw)) (yW hlw)) (yW hlw)),(za5 (za5 (za5 (za5 (za5 (za5 kS.2.2.2.2.2.1 (yW hlr)) (yW hlr)) (yW hlr)) (yW hlr)) (yW hlr)) (yW hlr)),(za5 (za5 (za5 (za5 (za5 (za5 kS.2.2.2.2.2.2 (yW hlb)) (yW hlb)) (yW hlb)) (yW hlb)) (yW hlb)) (yW hlb))⟩|go_keep) ((first
     |(go_at_call 88
       with_reducible refine(zr7 n fine id a ao av _ cap ko co kv cv os wr.drew ?_ HLO.X hko).mono ?_
       ·exact HO.below HB.1.drew
       rintro e w2 ⟨rfl,hb2⟩;rw[H0.X,H1.X,H2.X,H3.X,H4.X,H5.X,HTT.X];have hcr2:=CR.below (CR.drew HB.X) hb2;obtain⟨k0,k1,k2,k3,k4⟩:=za7 hcr2.2.1;have k5:=(za1 hcr2.2.2).2;have k6:=(hb2.cell (p:=⟨b,off+k,none⟩) (zT HCT.X)).trans HCT.X;have kS:=xe k0 (xe k1 (xe k2 (xe k3 (xe k4 (xe k5 k6)))));have CR2:=za4 hcr2;have RV2:=za4 (za0 hb2 (za2 HRV.X) HRV.X);have B2:Hid (Below wr.heap.size wr w2):=(yV _ wr).drew.trans hb2;clear hb2 hcr2 k0 k1 k2 k3 k4 k5 k6)
     |(go_at_call 88
       with_reducible refine(zr7 n fine id a ao av _ cap ko co kv cv os (wr.alloc (zd #[zc zb 0,zc zb 0,zc zb 0,zc zb 0,zc zb 0,zc zb 0] 103)).drew ?_ HLO.X hko).mono ?_
       ·exact HO.below (CR.alloc HB.X (zd #[zc zb 0,zc zb 0,zc zb 0,zc zb 0,zc zb 0,zc zb 0] 103)).1.drew
       rintro e w2 ⟨rfl,hb2⟩;rw[H0.X,H1.X,H2.X,H3.X,H4.X,H5.X,HTT.X];have hcr2:=CR.below (CR.drew (CR.alloc HB.X (zd #[zc zb 0,zc zb 0,zc zb 0,zc zb 0,zc zb 0,zc zb 0] 103))) hb2;obtain⟨k0,k1,k2,k3,k4⟩:=za7 hcr2.2.1;have k5:=(za1 hcr2.2.2).2;have k6:=(hb2.cell (p:=⟨b,off+k,none⟩) (zT HCA.X)).trans HCA.X;have kS:=xe k0 (xe k1 (xe k2 (xe k3 (xe k4 (xe k5 k6)))));have CR2:=za4 hcr2;have RV2:=za4 (za0 hb2 (za2 HVA.X) HVA.X);obtain⟨z0,z1,z2,z3,z4,z5⟩:=zh8 (za0 hb2 (k:=wr.heap.size) (by simp) (zN wr (zd #[zc zb 0,zc zb 0,zc zb 0,zc zb 0,zc zb 0,zc zb 0] 103)));have zf:=fun i=>yU _ _ i _ _ (za0 hb2 (k:=wr.heap.size) (by simp) (zN wr (zd #[zc zb 0,zc zb 0,zc zb 0,zc zb 0,zc zb 0,zc zb 0] 103)))
       have RO2:Hid (w2.heap[wr.heap.size]? =_):=za0 hb2 (k:=wr.heap.size) (by simp) (zN wr (zd #[zc zb 0,zc zb 0,zc zb 0,zc zb 0,zc zb 0,zc zb 0] 103));have B2:Hid _:=((yV _ wr).alloc (zQ _) _).drew.trans (hb2.mono (by simp));clear hb2 hcr2 k0 k1 k2 k3 k4 k5 k6)))
    all_goals(first
     |(have CRW:Hid (CR w (zh (zh (zh (zh (zh (zh w2 ⟨wr.heap.size,0,none⟩ (zc zb o0)) ⟨wr.heap.size,1,none⟩ (zc zb o1)) ⟨wr.heap.size,2,none⟩ (zc zb o2)) ⟨wr.heap.size,3,none⟩ (zc zb o3)) ⟨wr.heap.size,4,none⟩ (zc zb o4)) ⟨wr.heap.size,5,none⟩ (zc zb o5)) _ _):=CR.set (CR.set (CR.set (CR.set (CR.set (CR.set CR2.X HB.big) HB.big) HB.big) HB.big) HB.big) HB.big
       have RVW:Hid ((zh (zh (zh (zh (zh (zh w2 ⟨wr.heap.size,0,none⟩ (zc zb o0)) ⟨wr.heap.size,1,none⟩ (zc zb o1)) ⟨wr.heap.size,2,none⟩ (zc zb o2)) ⟨wr.heap.size,3,none⟩ (zc zb o3)) ⟨wr.heap.size,4,none⟩ (zc zb o4)) ⟨wr.heap.size,5,none⟩ (zc zb o5)).heap[gv]? =_):=za6 (za6 (za6 (za6 (za6 (za6 RV2.X (yW (za2 HRV.X))) (yW (za2 HRV.X))) (yW (za2 HRV.X))) (yW (za2 HRV.X))) (yW (za2 HRV.X))) (yW (za2 HRV.X));have ROW:Hid ((zh (zh (zh (zh (zh (zh w2 ⟨wr.heap.size,0,none⟩ (zc zb o0)) ⟨wr.heap.size,1,none⟩ (zc zb o1)) ⟨wr.heap.size,2,none⟩ (zc zb o2)) ⟨wr.heap.size,3,none⟩ (zc zb o3)) ⟨wr.heap.size,4,none⟩ (zc zb o4)) ⟨wr.heap.size,5,none⟩ (zc zb o5)).heap[wr.heap.size]? =_):=zO3 RO2.X;have BW:Hid (∀base e size v n xs,wr.ownsRow base e size v n xs->World.ownsRow (zh (zh (zh (zh (zh (zh w2 ⟨wr.heap.size,0,none⟩ (zc zb o0)) ⟨wr.heap.size,1,none⟩ (zc zb o1)) ⟨wr.heap.size,2,none⟩ (zc zb o2)) ⟨wr.heap.size,3,none⟩ (zc zb o3)) ⟨wr.heap.size,4,none⟩ (zc zb o4)) ⟨wr.heap.size,5,none⟩ (zc zb o5)) base e size v n xs):=fun _ _ _ _ _ _ h=>zc5 h ((((((B2.setCell (zQ _) _).setCell (zQ _) _).setCell (zQ _) _).setCell (zQ _) _).setCell (zQ _) _).setCell (zQ _) _);clear kS CR2 RV2 RO2 HCT HCA HVA ct z0 z1 z2 z3 z4 z5 zf;generalize(zh (zh (zh (zh (zh (zh w2 ⟨wr.heap.size,0,none⟩ (zc zb o0)) ⟨wr.heap.size,1,none⟩ (zc zb o1)) ⟨wr.heap.size,2,none⟩ (zc zb o2)) ⟨wr.heap.size,3,none⟩ (zc zb o3)) ⟨wr.heap.size,4,none⟩ (zc zb o4)) ⟨wr.heap.size,5,none⟩ (zc zb o5))=W at*;generalize wr.heap.size=g at*)
     |(have CRW:Hid (CR w (w2.alloc (zd #[zc zb o0,zc zb o1,zc zb o2,zc zb o3,zc zb o4,zc zb o5] 103)) _ _):=CR.alloc CR2.X _
       have RVW:Hid ((w2.alloc (zd #[zc zb o0,zc zb o1,zc zb o2,zc zb o3,zc zb o4,zc zb o5] 103)).heap[gv]? =_):=(yY _ _ (za2 RV2.X)).trans RV2.X;have ROW:Hid ((w2.alloc (zd #[zc zb o0,zc zb o1,zc zb o2,zc zb o3,zc zb o4,zc zb o5] 103)).heap[w2.heap.size]? =_):=zN _ _;have BW:Hid (∀base e size v n xs,wr.ownsRow base e size v n xs->(w2.alloc (zd #[zc zb o0,zc zb o1,zc zb o2,zc zb o3,zc zb o4,zc zb o5] 103)).ownsRow base e size v n xs):=fun _ _ _ _ _ _ h=>zc5 h (B2.alloc B2.size _);clear kS CR2 RV2 HCT HCA HVA ct;generalize w2.alloc (zd #[zc zb o0,zc zb o1,zc zb o2,zc zb o3,zc zb o4,zc zb o5] 103)=W at*;generalize w2.heap.size=g at*))
    all_goals
     clear c0 c1 c2' c3 c4 d0 d1 hlw hlr hlb HTT;generalize tt=tt';have HWW:Hid (W.ownsRow (gv+1) 205 4 _ k _):=BW.X _ _ _ _ _ _ HW.X;obtain⟨c0,c1,c2',c3,c4⟩:=za7 CRW.2.1;obtain⟨p0,p1,p2,p3,p4,p5⟩:=zh8 ROW.X
     go_wp2_with fail
     clear c0 c1 c2' c3 c4 p0 p1 p2 p3 p4 p5;refine(zz9 n p o1 _ _ zs _ d HD.X HMAT.X HPB.X HO1.X (HA.below CRW.1)).mono ?_;rintro e W3 ⟨rfl,hb3⟩;have CR3:=za4 (CRW.below hb3);have RV3:=za4 (za0 hb3 (za2 RVW.X) RVW.X);have RO3:=za4 (za0 hb3 (za2 ROW.X) ROW.X);have HW3:=za4 (zc5 HWW.X hb3);clear hb3 CRW RVW ROW HWW BW;obtain⟨p0,p1,p2,p3,p4,p5⟩:=zh8 RO3.X;by_cases hlate:o4<mx
     ·have HN:Hid _:=HV1.symm.trans (zI4 hlt (by rw[K4.X,HSTV.X];exact hlate))
      have hor:(f+d<o3/\mx=o3)∨(o3<=f+d/\mx=f+d):=by
       have:=HMX.X;omega
      rcases hor with⟨hmx,rfl⟩|⟨hmx,rfl⟩
      all_goals
       clear HMX;go_wp2;refine yX (v:=.tuple #[za none 0 0,zc zb 0,zc zb 5]) (by simp[results,Tryz.results128,go_sem]) rfl ⟨CR3.1,.inl ⟨by rw[HN.X];decide,by rw[HN.X]⟩⟩
     ·have hle:mx<=o4:=by omega
      have HT1:Hid (zr9 n zs (zd1 os ko ids) v1 v3 (k+1)):=zS5 HTM.X (by rw[K4.X,HSTV.X];exact hle);have hor:(f+d<o3/\mx=o3)∨(o3<=f+d/\mx=f+d):=by
       have:=HMX.X;omega
      have HLG:Hid (gv+1<=W3.heap.size):=za2 RV3.X;clear hlate;rcases hor with⟨hmx,rfl⟩|⟨hmx,rfl⟩
      all_goals
       clear HMX
       go_wp2_with(first
        |(at_builtin;refine zR8 _ rfl _ _ rfl (gv+1) _ k _ rfl (HW3.alloc _) _ 1 _ rfl rfl (yp9 _ _ _ _ _ _ _ (by simp)) (by simp[zr]) (by omega) (y7 HLG.X (by simp)) ?_;intro v' w4 hown4 hgrow4;obtain⟨gg',cc',rfl,hgg'⟩:=y38 hown4))
       replace hgrow4:World.grownBy _ w4 (some gg):=hgrow4;rw[yw6 n zs (zd1 os ko ids) v1 v3 hlt K0.X HAR.X HSTV.X HNX.X]at hown4;go_roundw
       case rel=>exact⟨k+1,gg',cc',by omega,by go_num,rfl,hgg',hown4,by rw[<-K1.X];rfl,by rw[HNX.X],HT1.X,(CR3.alloc _).grown hgrow4 (by have:=HGG.X;have:=HGV.X;omega),(hgrow4.block _ (xh (za2 RV3.X) (by simp)) (fun e=>by have h7:=HGG.X;rw[xV]at e;omega)).trans ((yY _ _ (za2 RV3.X)).trans RV3.X)⟩
       case measure=>simp[intOf];omega
   ·have hkl:k=ids.length:=by omega
    obtain⟨q0,q1,q2,q3,q4⟩:=za7 HRV.X;have HHM:Hid (homeV n zs (zd1 os ko ids) ids.length v1 v3=f+tmI n zs p v1):=by
     show _=_;unfold homeV;rw[<-hkl,HFR.X,HPL.X]
    have HTM':Hid (zr9 n zs (zd1 os ko ids) v1 v3 ids.length):=hkl▸HTM.X;have HOI:Hid (za3 wr (some ⟨gg,0,none⟩) (y61 n zs (zd1 os ko ids) v1 v3 ids.length)):=by
     have:=HW.X;rw[xu (by rw[zE2];omega)]at this;exact ze9 this
    obtain⟨d,HD⟩:=nmd (tmI n zs p v1);have hdb:=zx8 HMAT.X p v1;rw[HD.X]at hdb HHM;have hkI:(k:Int)=ids.length:=by omega
    have HKL:Hid _:=hkl;clear hkl hkI
    go_wp2_with fail
    refine(zz9 n p v1 _ _ zs _ d HD.X HMAT.X HPB.X HX1.X (HA.below HB.1)).mono ?_;rintro e W3 ⟨rfl,hb3⟩;have CR3:=za4 (HB.below hb3);have RV3:=za4 (za0 hb3 (za2 HRV.X) HRV.X);have HOI3:=za4 (HOI.below hb3);clear hb3 c0 c1 c2' c3 c4 d0 d1 q0 q1 q2 q3 q4;obtain⟨q0,q1,q2,q3,q4⟩:=za7 RV3.X;by_cases hto:v4<f+d
    ·have HN:Hid _:=HV1.symm.trans (zH6 HTM'.X (by rw[HHM.X];exact hto))
     go_wp2;refine yX (v:=.tuple #[za none 0 0,zc zb 0,zc zb 6]) (by simp[results,Tryz.results128,go_sem]) rfl ⟨CR3.1,.inl ⟨by rw[HN.X];decide,by rw[HN.X]⟩⟩
    ·have HN:Hid _:=HV1.symm.trans (zX0 HTM'.X (by rw[HHM.X];exact hto))
     go_wp2;refine yX (v:=.tuple #[za (some ⟨gg,0,none⟩) k cc,zc zb (f+d),zc zb 0]) (by simp[results,Tryz.results128,go_sem]) rfl ⟨CR3.1,.inr ⟨HN.X,gg,cc,by have:=HGG.X;have:=HGV.X;omega,?_,?_⟩⟩
     ·rw[G1.X,G3.X,HHM.X,HKL.X]
     ·rw[G1.X,G3.X]
      exact HOI3.X
 ·have HRV:Hid _:=HFV.symm.trans ((z82 (by rw[HFV.X];exact hfv)).symm.trans HR.X)
  have heb:(fv !=0)=true:=by simp[hfv]
  have HF:=za4 hfv;clear hfv;go_wp2;refine yX (v:=.tuple #[za none 0 0,zc zb 0,zc zb fv]) (by simp[results,Tryz.results128,go_sem]) rfl ⟨C1.1,.inl ⟨by rw[<-HRV.X];exact HF.X,by rw[HRV.X]⟩⟩
theorem z62(n fine veh:Int)(a ao av bi:Option Addr)(cap ko co kv cv c2:Nat)(zs os vs ids:List Int)(w:zg)(hA:za3 w a zs)(hO:za3 w ao os)(hV:za3 w av vs)(hI:za3 w bi ids)(hlo:os.length=ko*6)(hlv:vs.length=kv*5)(hko:ko<=9223372036854775807)(hkv:kv<=9223372036854775807)(hli:ids.length<=9223372036854775807)(hc2:ids.length<=c2)(v:Bool)(hv:decide (codeV (zc8 n zs os vs ko kv fine) n zs os vs ko kv veh ids=0)=v):
 Calls ze 86 #[.agg #[zc zb n,za a zs.length cap,za ao ko co,za av kv cv,zc zb fine],.agg #[zc zb veh,za bi ids.length c2]] w fun e w'=>e=.returned (.bool v)/\Below w.heap.size w w':=by
 have HA:=za4 hA;have HO:=za4 hO;have HV:=za4 hV;have HI:=za4 hI;have HLO:Hid _:=hlo;have HLV:Hid _:=hlv;clear hA hO hV hI hlo hlv;have HVV:Hid _:=hv;clear hv;have HC0:Hid (CR w ((w.alloc (zd #[zc zb n,za a zs.length cap,za ao ko co,za av kv cv,zc zb fine] 30)).alloc (zd #[zc zb veh,za bi ids.length c2] 80)) _ _):=CR.new w _ _;go_enter Tryz.func86,Tryz.ntmps86;obtain⟨c0,c1,c2',c3,c4⟩:=za7 HC0.2.1;obtain⟨d0,d1⟩:=za1 HC0.2.2
 go_wp2_with fail
 clear c0 c1 c2' c3 c4 d0 d1;refine(zA9 n fine veh a ao av bi cap ko co kv cv c2 zs os vs ids _ (HA.below HC0.1) (HO.below HC0.1) (HV.below HC0.1) (HI.below HC0.1) HLO.X HLV.X hko hkv hli hc2).mono ?_;rintro e w2 ⟨hb,⟨hf,rfl⟩|⟨hf,g,c,_,rfl,_⟩⟩
 ·have HB2:Hid _:=HC0.1.trans (hb.mono HC0.1.size)
  have HVF:Hid _:=HVV.symm.trans (zU hf);generalize codeV (zc8 n zs os vs ko kv fine) n zs os vs ko kv veh ids=r at*;have hfb:(r==0)=false:=by simp[hf]
  clear hb hf HC0 HVV;go_wp2;go_ret;exact⟨zb4 HVF.symm,HB2.X⟩
 ·have HB2:Hid _:=HC0.1.trans (hb.mono HC0.1.size)
  have HVF:Hid _:=HVV.symm.trans (zS hf);clear hb hf HC0 HVV;generalize homeV n zs (zd1 os ko ids) ids.length (zc2 vs kv veh 1) (zc2 vs kv veh 3)=hm;go_wp2;go_ret;exact⟨zb4 HVF.symm,HB2.X⟩
theorem zV7{P:Program}(w:zg)(base:Nat)(t ty e:TypeId)(i:TypeInfo)(z:Value)(size bytes:Nat)(ht:P.underlying t=some (.slice e))(hi:P.info? e=some i)(hz:i.zero=some z)
 (hsize:i.size=size) (hby:i.bytes=bytes) (v:Value) (n:Nat) (xs:List Value) (hown:w.ownsRow base e size v n xs)
 (a:Addr) (m c:Nat) (news:List Value) (hl:news.length=m*size) (hnews:∀j u,news[j]? =some u->w.cell? (a.add j)=some u) (h1:∀u∈news,u.oneCell'=true)
 (h63:n+m<=maxLen) (hbytes:(n+m)*bytes<=140737488355328) {v':Value} {w':zg} (hrun:(zt #[t,t] ty #[v,za (some a) m c]).run P w=.ok v' w'):v'.ownBlock=v.ownBlock∨v'.ownBlock=some w.heap.size:=by
 subst hsize;subst hby;have hsmall:n+m<=9223372036854775807:=by simp only[maxLen]at h63;omega
 rcases hown.2 with⟨rfl,rfl⟩|⟨g,cap,cur,rfl,hbg,hg,hnc,hcm,hcs,htake⟩
 ·by_cases hm:m=0
  ·subst hm
   have hn:news=[]:=xt (by simpa using hl);subst hn;simp[zt,xA ht,sizeOf,typeInfo,hi,Builtin.lenOf,Builtin.firstCells,loadCells,loadCellsFrom]at hrun;rw[<-hrun.1];exact .inl rfl
  ·have hr:=run_append_nil (P:=P) w t ty e i z ht hi hz a m c news hl hnews (by omega) (by omega) (by have hb:=hbytes;simp only[z6]at hb;omega)
   rw[hr]at hrun
   injection hrun with e1 e2
   rw[<-e1];exact .inr rfl
 ·by_cases hroom:n+m<=cap
  ·have hfit:n*i.size+news.length<=cur.size:=by rw[hl,hcs,<-Nat.add_mul];exact yH _ hroom
   have hr:=run_append_room (P:=P) w t ty e i ht hi g n cap cur hg a m c news hl hnews h1 hroom hfit;rw[hr]at hrun
   injection hrun with e1 e2
   rw[<-e1];exact .inl rfl
  ·have holds:=hown.cells (g:=g) rfl
   have hr:=run_append_grow (P:=P) w t ty e i z ht hi hz ⟨g,0,none⟩ n cap xs hown.1 holds a m c news hl hnews (by omega) (by omega) (growslice_fits (by omega) hbytes);rw[hr]at hrun
   injection hrun with e1 e2
   rw[<-e1];exact .inr rfl
theorem zA6{P:Program}{o:Oper}{a:Act}{w w':zg}{v:Value}(s x:Operand)(t:TypeId)(vs vx:Value)(ho:o.op=.call {callee:=.builtin .append,args:=#[s,x],argTypes:=#[t,t]})
 (hs:a.eval s=vs) (hx:a.eval x=vx) (hr:(zt #[t,t] o.type #[vs,vx]).run P w=.ok v w'):(execOp a.eval o).run P w=.ok (.value v) w':=by
 unfold execOp;simp only[ho,resolve,invoke,builtin,Sem.run_bind,Sem.run_pure,Result.andThen_ok,List.map_toArray,xw,List.map_nil,hs,hx,hr]
theorem zc9(w:zg){ops:Array Oper}{rest:List Oper}{o:Oper}{a:Act}{Q:Exit->Act->zg->Prop}
 (hg:o.guard=none) (s x:Operand) (hop:o.op=zH {callee:=zu zv,args:=#[s,x],argTypes:=#[24,24]})
 (base:Nat) (v:Value) (k:Nat) (xs:List Int) (hs:a.eval s=v) (hown:w.ownsRow base 2 1 v k (xs.map (zc zb))) (b off m c:Nat) (ys:List Int) (hx:a.eval x=za (some ⟨b,off,none⟩) m c)
 (hy:ys.length=m) (hc:za3 w (some ⟨b,off,none⟩) ys) (b1:k<=1000) (b2:m<=1000) (hb:base<=w.heap.size)
 (hK:∀v' w',w'.ownsRow base 2 1 v' (k+m) ((xs++ys).map (zc zb))->w.grownBy w' v.ownBlock->(v'.ownBlock=v.ownBlock∨v'.ownBlock=some w.heap.size)->(v'=za none 0 0↔v=za none 0 0/\m=0)->wpList ze ops Q rest (a.put o.dst v') w'):
 wpList ze ops Q (o::rest) a w:=by
 obtain⟨i0,hi,hz0,hz1,hz2⟩:=qe Tryz.info2;have hnews:∀j u,(ys.map (zc zb))[j]? =some u->w.cell? ((⟨b,off,none⟩:Addr).add j)=some u:=by
  intro j u hu;have hj:j<ys.length:=by
   rcases qc j ys.length with h'|h'
   ·exact h'
   ·simp[yb (by simpa using h':(ys.map (zc zb)).length<=j)]at hu
  obtain⟨b',off',e,hcc⟩:=hc j hj;simp at e;obtain⟨rfl,rfl⟩:=e;have hadd:(⟨b,off,none⟩:Addr).add j=⟨b,off+j,none⟩:=by unfold zG;split<;>simp_all
  rw[hadd,hcc,<-hu];simp[zw,hj]
 have h1c:∀u∈ys.map (zc zb),u.oneCell'=true:=by simp[zr]
 obtain⟨v',w',hrun,r1,r2,r3⟩:=run_append_own (P:=ze) w base 24 o.type _ i0 _ 1 8 xi hi hz0 hz1 hz2 rfl (by decide) v k (xs.map (zc zb)) hown ⟨b,off,none⟩ m c (ys.map (zc zb)) (by simp[hy]) hnews h1c (by unfold maxLen;omega) (by omega) hb;have r4:=zV7 (P:=ze) w base 24 o.type _ i0 _ 1 8 xi hi hz0 hz1 hz2 v k (xs.map (zc zb)) hown ⟨b,off,none⟩ m c (ys.map (zc zb)) (by simp[hy]) hnews h1c (by unfold maxLen;omega) (by omega) hrun;exact z92 v' hg (zA6 s x _ v _ hop hs hx hrun) (hK v' w' (by rw[xX];exact r1) r2 r4 r3)
theorem zG6(w:zg){ops:Array Oper}{rest:List Oper}{o:Oper}{a:Act}{Q:Exit->Act->zg->Prop}
 (hg:o.guard=none) (s x:Operand) (hop:o.op=zH {callee:=zu zv,args:=#[s,x],argTypes:=#[24,24]})
 (base:Nat) (v:Value) (k:Nat) (xs:List Int) (hs:a.eval s=v) (hown:w.ownsRow base 2 1 v k (xs.map (zc zb))) (ad:Option Addr) (m c:Nat) (ys:List Int) (hx:a.eval x=za ad m c)
 (had:∃b off,ad=some ⟨b,off,none⟩) (hy:ys.length=m) (hc:za3 w ad ys) (b1:k<=1000) (b2:m<=1000) (hb:base<=w.heap.size)
 (hK:∀v' w',w'.ownsRow base 2 1 v' (k+m) ((xs++ys).map (zc zb))->w.grownBy w' v.ownBlock->(v'.ownBlock=v.ownBlock∨v'.ownBlock=some w.heap.size)->(v'=za none 0 0↔v=za none 0 0/\m=0)->wpList ze ops Q rest (a.put o.dst v') w'):
 wpList ze ops Q (o::rest) a w:=by
 obtain⟨b,off,rfl⟩:=had;exact zc9 w hg s x hop base v k xs hs hown b off m c ys hx hy hc b1 b2 hb hK
theorem yr6{W:zg}{a:Option Addr}{ids:List Int}(h:za3 W a ids)(i:Nat):za3 W a (ids.take i):=by
 intro j hj;have hj':j<ids.length/\j<i:=by rw[zZ]at hj;omega
 obtain⟨b,off,e,hc⟩:=h j hj'.1;refine⟨b,off,e,?_⟩;rw[hc,zM,zM,yq,zV hj'.2]
theorem zN2{W:zg}{b off:Nat}{ids:List Int}(h:za3 W (some ⟨b,off,none⟩) ids)(i:Nat):za3 W (some ⟨b,off+i,none⟩) (ids.drop i):=by
 intro j hj;have hj':i+j<ids.length:=by rw[x7]at hj;omega
 obtain⟨b',off',e,hc⟩:=h (i+j) hj';simp at e;obtain⟨rfl,rfl⟩:=e;refine⟨b,off+i,rfl,?_⟩;rw[yx,hc,zM,zM,x6]
theorem yv0{W:zg}{b off:Nat}{ids:List Int}(h:za3 W (some ⟨b,off,none⟩) ids)(i c2:Nat)(hc:ids.length<=c2):za3 W (if c2=i then some ⟨b,off,none⟩else some ⟨b,off+i,none⟩) (ids.drop i):=by
 by_cases e:c2=i
 ·have:ids.drop i=[]:=List.drop_eq_nil_of_le (by omega)
  rw[this];intro j hj;simp at hj
 ·rw[zW e];exact zN2 h i
theorem yx9(b off i c2:Nat):∃b' off',(if c2=i then some (⟨b,off,none⟩:Addr)else some ⟨b,off+i,none⟩)=some ⟨b',off',none⟩:=by
 by_cases e:c2=i
 ·exact⟨b,off,zV e⟩
 ·exact⟨b,off+i,zW e⟩
theorem zq9{w:zg}{base k:Nat}{v:Value}{e:TypeId}{size:Nat}{xs:List Value}(h:w.ownsRow base e size v k xs)(hne:v≠za none 0 0):∃g c,v=za (some ⟨g,0,none⟩) k c:=by
 rcases zu0 h with e|e
 ·exact absurd e hne
 ·exact e
theorem yE7{w:zg}{base k g c:Nat}{e:TypeId}{size:Nat}{xs:List Value}(h:w.ownsRow base e size (za (some ⟨g,0,none⟩) k c) k xs):k<=c:=by
 obtain⟨_,⟨h1,_⟩|⟨g',cap,cur,h2,_,_,h3,_⟩⟩:=h
 ·cases h1
 ·injection h2 with e1 e2 e3
  omega
theorem zn9{v v':Value}{m:Nat}(h:v'=za none 0 0↔v=za none 0 0/\m=0)(hv:∃g n c,v=za (some ⟨g,0,none⟩) n c):v'≠za none 0 0:=by
 intro e;obtain⟨g,n,c,rfl⟩:=hv;have:=(h.1 e).1;simp at this
theorem zj5(W:zg)(x:Int):za3 (W.alloc (zd #[zc zb x] 2)) (some ⟨W.heap.size,0,none⟩) [x]:=by
 intro j hj;have:j=0:=by simpa using hj
 subst this;exact⟨_,_,rfl,zt8 W _ _ _ rfl⟩
theorem z03{w:zg}{base g n cap:Nat}{e:TypeId}{zs:List Int}(h:w.ownsRow base e 1 (za (some ⟨g,0,none⟩) n cap) zs.length (zs.map (zc zb)))(hn:zs.length=n):za3 w (some ⟨g,0,none⟩) zs:=by
 rw[hn]at h;exact ze9 h
theorem z45{g n c k:Nat}(e:(za (some ⟨g,0,none⟩) n c).ownBlock=some k):g<=k:=by
 have:g=k:=by injection e
 omega
theorem zq4{E:TypeId}{z:Value}{size bytes:Nat}(h:(Tryz.prog.info? E).map (fun i=>(i.zero,i.size,i.bytes))=some (some z,size,bytes)):∃i0,Tryz.prog.info? E=some i0/\i0.zero=some z/\i0.size=size/\i0.bytes=bytes:=by
 cases hq:Tryz.prog.info? E with
 |none=>rw[hq]at h;simp at h
 |some i0=>
  rw[hq]at h;simp only[yC,xV,Prod.mk.injEq]at h;exact⟨i0,rfl,h.1,h.2.1,h.2.2⟩
theorem add_plain(b off j:Nat):(⟨b,off,none⟩:Addr).add j=⟨b,off+j,none⟩:=by unfold zG;split<;>simp_all
theorem zl3{T E:TypeId}{z:Value}{size bytes:Nat}(ht:Tryz.prog.underlying T=some (.slice E))(hinf:(Tryz.prog.info? E).map (fun i=>(i.zero,i.size,i.bytes))=some (some z,size,bytes))(hzs:z.cells.size=size)(hsz:0<size)
 (w:zg) {ops:Array Oper} {rest:List Oper} {o:Oper} {a:Act} {Q:Exit->Act->zg->Prop}
 (hg:o.guard=none) (s x:Operand) (hop:o.op=zH {callee:=zu zv,args:=#[s,x],argTypes:=#[T,T]})
 (base:Nat) (v:Value) (k:Nat) (xs:List Value) (hs:a.eval s=v) (hown:w.ownsRow base E size v k xs) (b off m c:Nat) (ys:List Value) (hx:a.eval x=za (some ⟨b,off,none⟩) m c)
 (hy:ys.length=m*size) (hc:∀j u,ys[j]? =some u->w.cell? ⟨b,off+j,none⟩=some u) (h1:∀u∈ys,u.oneCell'=true) (h63:k+m<=70368744177663) (hbytes:(k+m)*bytes<=140737488355328) (hb:base<=w.heap.size)
 (hK:∀v' w',w'.ownsRow base E size v' (k+m) (xs++ys)->w.grownBy w' v.ownBlock->(v'.ownBlock=v.ownBlock∨v'.ownBlock=some w.heap.size)->(v'=za none 0 0↔v=za none 0 0/\m=0)->wpList ze ops Q rest (a.put o.dst v') w'):
 wpList ze ops Q (o::rest) a w:=by
 obtain⟨i0,hi,hz0,hz1,hz2⟩:=zq4 hinf;have hnews:∀j u,ys[j]? =some u->w.cell? ((⟨b,off,none⟩:Addr).add j)=some u:=fun j u hu=>by rw[add_plain];exact hc j u hu
 obtain⟨v',w',hrun,r1,r2,r3⟩:=run_append_own (P:=ze) w base T o.type _ i0 _ size bytes ht hi hz0 hz1 hz2 hzs hsz v k xs hown ⟨b,off,none⟩ m c ys hy hnews h1 (by unfold maxLen;omega) hbytes hb;have r4:=zM8 (P:=ze) w base T o.type _ i0 _ size bytes ht hi hz0 hz1 hz2 v k xs hown ⟨b,off,none⟩ m c ys hy hnews h1 (by unfold maxLen;omega) hbytes hrun;exact z92 v' hg (y34 s x _ v _ hop hs hx hrun) (hK v' w' r1 r2 r4 r3)
theorem zd8{T E:TypeId}{z:Value}{size bytes:Nat}(ht:Tryz.prog.underlying T=some (.slice E))(hinf:(Tryz.prog.info? E).map (fun i=>(i.zero,i.size,i.bytes))=some (some z,size,bytes))(hzs:z.cells.size=size)(hsz:0<size)
 {ops:Array Oper} {o:Oper} {a:Act} {w:zg} {K:Act->zg->Prop} {Q:Exit->Act->zg->Prop} {Els:Prop}
 (hg:o.guard=none) (s x:Operand) (hop:o.op=zH {callee:=zu zv,args:=#[s,x],argTypes:=#[T,T]})
 (base:Nat) (v:Value) (k:Nat) (xs:List Value) (hs:a.eval s=v) (hown:w.ownsRow base E size v k xs) (b off m c:Nat) (ys:List Value) (hx:a.eval x=za (some ⟨b,off,none⟩) m c)
 (hy:ys.length=m*size) (hc:∀j u,ys[j]? =some u->w.cell? ⟨b,off+j,none⟩=some u) (h1:∀u∈ys,u.oneCell'=true) (h63:k+m<=70368744177663) (hbytes:(k+m)*bytes<=140737488355328) (hb:base<=w.heap.size)
 (hK:∀v' w',w'.ownsRow base E size v' (k+m) (xs++ys)->w.grownBy w' v.ownBlock->(v'.ownBlock=v.ownBlock∨v'.ownBlock=some w.heap.size)->(v'=za none 0 0↔v=za none 0 0/\m=0)->K (a.put o.dst v') w'):
 if zq o (yielded ops a.tmps)=true then Oper.wp ze o a w K Q else Els:=by
 have hw:zq o (yielded ops a.tmps)=true:=by simp[zq,hg]
 rw[zV hw];obtain⟨i0,hi,hz0,hz1,hz2⟩:=zq4 hinf;have hnews:∀j u,ys[j]? =some u->w.cell? ((⟨b,off,none⟩:Addr).add j)=some u:=fun j u hu=>by rw[add_plain];exact hc j u hu
 obtain⟨v',w',hrun,r1,r2,r3⟩:=run_append_own (P:=ze) w base T o.type _ i0 _ size bytes ht hi hz0 hz1 hz2 hzs hsz v k xs hown ⟨b,off,none⟩ m c ys hy hnews h1 (by unfold maxLen;omega) hbytes hb;have r4:=zM8 (P:=ze) w base T o.type _ i0 _ size bytes ht hi hz0 hz1 hz2 v k xs hown ⟨b,off,none⟩ m c ys hy hnews h1 (by unfold maxLen;omega) hbytes hrun;unfold Oper.wp;simp[execOp,hop,resolve,invoke,builtin,hs,hx,hrun,Result.andThen];exact hK _ _ r1 r2 r4 r3
end Go.Proofs.YtkchnomkiboihaaGreat
namespace Go.Proofs.YtkchnomkiboihaaGreat
open Q
end Go.Proofs.YtkchnomkiboihaaGreat
namespace Go.Proofs.YtkchnomkiboihaaGreat
open Value renaming slice→za,int→zc,ownBlock→zm,oneCell'→zr
open IntKind renaming i64→zb
open Obj renaming cells→zd
open Proofs.Tryz renaming prog→ze
open Go renaming World→zg
open World renaming setCell→zh
open Region renaming wanted→zq
open Callee renaming builtin→zu
open Builtin renaming append→zv
open List renaming getD→zw
open Op renaming call→zH
open Oper renaming wp→zI
open Go.RowKit
open Q
def yo4(w:zg)(ch:Bool)(veh D:Int)(xs:List Int)(e:Ending)(w':zg):Prop:=
 Below w.heap.size w w'/\∃ad c,e=.returned (.tuple #[.agg #[zc zb (chI ch veh),za ad xs.length c],zc zb D,.bool ch])/\w'.ownsRow w.heap.size 2 1 (za ad xs.length c) xs.length (xs.map (zc zb))
def CRR(w W:zg)(cs rs ts:Array Value):Prop:=CR w W cs rs/\W.heap[w.heap.size+2]? =some (.cells ts 80 (0,0))
theorem CRR.new(w:zg)(cs rs ts:Array Value):CRR w (((w.alloc (.cells cs 30)).alloc (.cells rs 80)).alloc (.cells ts 80)) cs rs ts:=
 ⟨(CR.new w cs rs).alloc _,by have:=zN ((w.alloc (.cells cs 30)).alloc (.cells rs 80)) (.cells ts 80);simpa using this⟩
theorem CRR.below{w W W':zg}{cs rs ts:Array Value}(h:CRR w W cs rs ts)(hb:Below W.heap.size W W'):CRR w W' cs rs ts:=
 ⟨h.1.below hb,za0 hb (za2 h.2) h.2⟩
theorem CRR.b{w W:zg}{cs rs ts:Array Value}(h:CRR w W cs rs ts):Below w.heap.size w W:=h.1.1
theorem CRR.alloc{w W:zg}{cs rs ts:Array Value}(h:CRR w W cs rs ts)(o:Obj):CRR w (W.alloc o) cs rs ts:=h.below (zK _)
theorem CRR.big{w W:zg}{cs rs ts:Array Value}(h:CRR w W cs rs ts):w.heap.size+2<W.heap.size:=za2 h.2
theorem CRR.set{w W:zg}{cs rs ts:Array Value}(h:CRR w W cs rs ts)(u1 u2:Value):CR w ((W.setCell ⟨w.heap.size+1+1,0,none⟩ u1).setCell ⟨w.heap.size+1+1,1,none⟩ u2) cs rs:=(h.1.set (by omega)).set (by omega)
theorem cr7{w W:zg}{c0 c1 c2 c3 c4 r0 r1:Value}(h:CR w W #[c0,c1,c2,c3,c4] #[r0,r1]):
 W.cell? ⟨w.heap.size,0,none⟩=some c0/\W.cell? ⟨w.heap.size,1,none⟩=some c1/\W.cell? ⟨w.heap.size,2,none⟩=some c2/\W.cell? ⟨w.heap.size,3,none⟩=some c3/\W.cell? ⟨w.heap.size,4,none⟩=some c4/\W.cell? ⟨w.heap.size+1,0,none⟩=some r0/\W.cell? ⟨w.heap.size+1,1,none⟩=some r1:=by
 obtain⟨k0,k1,k2,k3,k4⟩:=za7 h.2.1;obtain⟨k5,k6⟩:=za1 h.2.2;exact⟨k0,k1,k2,k3,k4,k5,k6⟩
def zn1(L:List Int)(x:Int):List Int:=L.filter (fun y=>decide (y≠x))
theorem ys7{L:List Int}{x:Int}{k:Nat}(hk:k<L.length)(h:L.getD k 0≠x):zn1 (L.take (k+1)) x=zn1 (L.take k) x++[L.getD k 0]:=by
 have e:L.take (k+1)=L.take k++[L.getD k 0]:=by
  rw[yz,zM,zO hk];rfl
 unfold zn1;rw[e,yE];clear e;generalize L.getD k 0=y at*;simp[h]
theorem yy4{L:List Int}{x:Int}{k:Nat}(hk:k<L.length)(h:L.getD k 0=x):zn1 (L.take (k+1)) x=zn1 (L.take k) x:=by
 have e:L.take (k+1)=L.take k++[L.getD k 0]:=by
  rw[yz,zM,zO hk];rfl
 unfold zn1;rw[e,yE];clear e;generalize L.getD k 0=y at*;simp[h]
theorem zR1(L:List Int)(x:Int):(zn1 L x).length<=L.length:=yj _ _
theorem yt2(L:List Int)(x:Int)(k:Nat):(zn1 (L.take k) x).length<=k:=y7 (zR1 _ _) (List.length_take_le _ _)
theorem zZ9(bi:Option Addr)(c m:Nat)(L:List Int)(x:Int)(w:zg)(hA:za3 w bi L)(hm:L.length=m)(hl:m<=900):
 Calls ze 73 #[za bi m c,zc zb x] w fun e w'=>∃g cc,e=.returned (za (some ⟨g,0,none⟩) (zn1 L x).length cc)/\Below w.heap.size w w'/\w'.ownsRow w.heap.size 2 1 (za (some ⟨g,0,none⟩) (zn1 L x).length cc) (zn1 L x).length ((zn1 L x).map (zc zb)):=by
 have HA:=za4 hA;have HM:=za4 hm;clear hA hm;have B1:Hid (Below w.heap.size w (w.alloc (zd #[] 2))):=zK _;have O1:Hid ((w.alloc (zd #[] 2)).ownsRow w.heap.size 2 1 (za (some ⟨w.heap.size,0,none⟩) 0 0) 0 (([]:List Int).map (zc zb))):=qa w #[] 0 (zQ _) (by unfold maxLen;omega) (by simp);go_enter Tryz.func73,Tryz.ntmps73
 go_wp2_with fail
 go_loopw[5,6] (fun ts t wr=>∃(k g cc:Nat),k<=m/\t=zc zb k/\ts=za (some ⟨g,0,none⟩) (zn1 (L.take k) x).length cc/\Below w.heap.size w wr/\wr.ownsRow w.heap.size 2 1 (za (some ⟨g,0,none⟩) (zn1 (L.take k) x).length cc) (zn1 (L.take k) x).length ((zn1 (L.take k) x).map (zc zb))) (fun _ t _=>m - (intOf t).toNat)
 case atStart=>exact⟨0,w.heap.size,0,yZ _,rfl,rfl,B1.X,O1.X⟩
 case round=>
  clear B1 O1;obtain⟨k,g,cc,hk,rfl,rfl,hb,ho⟩:=hrel;have B2:Hid _:=hb;have O2:=za4 ho;have hcl:=yt2 L x k;clear hb ho;by_cases hlt:k<m
  ·have hkI:(k:Int)<(m:Int):=by omega
   have hkL:k<L.length:=by rw[HM.X];exact hlt
   obtain⟨b,off,e,c1⟩:=(HA.below B2.X) k hkL;subst e;by_cases hx:L.getD k 0=x
   ·have HE:Hid _:=yy4 hkL hx
    rw[hx]at c1;have hxx:(x !=x)=false:=by simp
    clear hx;obtain⟨n,HN⟩:=nmd ((zn1 (L.take k) x).length);rw[HN.X]at O2 hcl⊢;go_wp2
    first
     |exact⟨⟨k+1,g,cc,by omega,by first|rfl|go_num,by rw[HE.X,HN.X],B2.X,by rw[HE.X,HN.X];exact O2.X⟩,by simp[intOf];omega⟩
     |(go_roundw
       case rel=>exact⟨k+1,g,cc,by omega,by first|rfl|go_num,by rw[HE.X,HN.X],B2.X,by rw[HE.X,HN.X];exact O2.X⟩
       case measure=>simp[intOf];omega)
   ·have HE:Hid _:=ys7 hkL hx
    obtain⟨y,HY⟩:=nmd (L.getD k 0);rw[HY.X]at c1 hx HE;have hxy:(y !=x)=true:=by simp[hx]
    obtain⟨n,HN⟩:=nmd ((zn1 (L.take k) x).length);rw[HN.X]at O2 hcl⊢;have B3:Hid (Below w.heap.size w (wr.alloc (zd #[zc zb y] 2))):=B2.alloc B2.size _
    go_wp2_with(first
     |(at_builtin
       refine zc9 _ rfl (.tmp 20) (.tmp 25) rfl w.heap.size _ n (zn1 (L.take k) x) rfl (O2.alloc _) wr.heap.size 0 1 1 [y] rfl rfl (zj5 wr y) (by omega) (by omega) B3.size ?_;intro v4 w4 hown hg hbk hnl;have hbg:=(O2.lt g rfl).1;have B4:Hid _:=B3.grown hg B3.size (fun k e=>y7 hbg (z45 e));obtain⟨g4,c4,rfl⟩:=zq9 hown (zn9 hnl ⟨_,_,_,rfl⟩);have O4:=za4 hown;clear hown hg hbk hnl hbg))
    have HL4:Hid ((zn1 (L.take k) x++[y]).length=n+1):=by show _=_;rw[xU,HN.X];rfl
    first
     |exact⟨⟨k+1,g4,c4,by omega,by first|rfl|go_num,by rw[HE.X,HL4.X],B4.X,by rw[HE.X,HL4.X];exact O4.X⟩,by simp[intOf];omega⟩
     |(go_roundw
       case rel=>exact⟨k+1,g4,c4,by omega,by first|rfl|go_num,by rw[HE.X,HL4.X],B4.X,by rw[HE.X,HL4.X];exact O4.X⟩
       case measure=>simp[intOf];omega)
  ·have hkI:¬((k:Int)<(m:Int)):=by omega
   have hke:k=m:=by omega
   have O3:Hid (wr.ownsRow w.heap.size 2 1 (za (some ⟨g,0,none⟩) (zn1 L x).length cc) (zn1 L x).length ((zn1 L x).map (zc zb))):=by
    have:=O2.X;rw[hke,<-HM.X,yc]at this;exact this
   have HE:Hid ((zn1 (L.take k) x).length=(zn1 L x).length):=by show _=_;rw[hke,<-HM.X,yc]
   rw[HE.X];obtain⟨n,HN⟩:=nmd ((zn1 L x).length);rw[HN.X]at O3⊢;clear hke;go_wp2;go_ret;exact⟨g,cc,by rw[HN.X];rfl,B2.X,by rw[HN.X];exact O3.X⟩
theorem yz3{w:zg}{base n g c k:Nat}{e:TypeId}{xs:List Int}(v:Int)(h:w.ownsRow base e 1 (za (some ⟨g,0,none⟩) n c) n (xs.map (zc zb)))(_hk:k<n):(w.setCell ⟨g,k,none⟩ (zc zb v)).ownsRow base e 1 (za (some ⟨g,0,none⟩) n c) n ((xs.set k v).map (zc zb)):=by
 obtain⟨h0,⟨h1,_⟩|⟨g',cap,cur,h2,h3,h4,h5,h6,h7,h8⟩⟩:=h
 ·cases h1
 ·simp at h2
  obtain⟨rfl,rfl⟩:=h2;refine⟨by simpa using h0,.inr ⟨g,c,cur.setIfInBounds k (zc zb v),rfl,h3,zP w g k cur e _ h4,h5,h6,by simpa using h7,?_⟩⟩;rw[Array.toList_setIfInBounds,List.take_set,h8,List.map_set]
theorem zD5{w:zg}{base n g c k:Nat}{e:TypeId}{xs:List Int}(h:w.ownsRow base e 1 (za (some ⟨g,0,none⟩) n c) n (xs.map (zc zb)))(hk:k<xs.length):w.cell? ⟨g,k,none⟩=some (zc zb (xs.getD k 0))/\w.frozen? ⟨g,k,none⟩=false:=by
 refine⟨?_,?_⟩
 ·obtain⟨_,_,e1,h1⟩:=ze9 h k hk
  simp at e1;obtain⟨rfl,rfl⟩:=e1;rw[z6]at h1;exact h1
 ·obtain⟨h0,⟨h1,_⟩|⟨g',cap,cur,h2,h3,h4,h5⟩⟩:=h
  ·cases h1
  ·simp at h2
   obtain⟨rfl,rfl⟩:=h2;exact yU _ _ k _ _ h4
theorem yI7:(Tryz.prog.info? 2).map (fun i=>(i.zero,i.size,i.bytes))=some (some (zc zb 0),1,8):=by kernel_rfl
theorem zs2:∃i0,Tryz.prog.info? 2=some i0/\i0.zero=some (zc zb 0)/\i0.size=1/\i0.bytes=8:=by
 have h:=yI7;cases hq:Tryz.prog.info? 2 with
 |none=>rw[hq]at h;simp at h
 |some i0=>
  rw[hq]at h;simp only[yC,xV,Prod.mk.injEq]at h;exact⟨i0,rfl,h.1,h.2.1,h.2.2⟩
theorem yx3{W:zg}{b off:Nat}{ys:List Int}(h:za3 W (some ⟨b,off,none⟩) ys):∀j u,(ys.map (zc zb))[j]? =some u->W.cell? ((⟨b,off,none⟩:Addr).add j)=some u:=by
 intro j u hu;have hj:j<ys.length:=by
  rcases qc j ys.length with h'|h'
  ·exact h'
  ·simp[yb (by simpa using h':(ys.map (zc zb)).length<=j)]at hu
 obtain⟨b',off',e,hc⟩:=h j hj;simp at e;obtain⟨rfl,rfl⟩:=e;have hadd:(⟨b,off,none⟩:Addr).add j=⟨b,off+j,none⟩:=by unfold Addr.add;split<;>simp_all
 rw[hadd,hc,<-hu];simp[zw,hj]
theorem zi3{ops:Array Oper}{o:Oper}{a:Act}{w:zg}{K:Act->zg->Prop}{Q:Exit->Act->zg->Prop}{E:Prop}
 (hg:o.guard=none) (s x:Operand) (hop:o.op=zH {callee:=zu zv,args:=#[s,x],argTypes:=#[24,24]})
 (base:Nat) (v:Value) (xs:List Int) (k:Nat) (hs:a.eval s=v) (hown:w.ownsRow base 2 1 v k (xs.map (zc zb))) (b off m c:Nat) (ys:List Int) (hx:a.eval x=za (some ⟨b,off,none⟩) m c)
 (hy:ys.length=m) (hc:za3 w (some ⟨b,off,none⟩) ys) (b1:k<=1000) (b2:m<=1000) (hb:base<=w.heap.size)
 (hK:∀v' w',w'.ownsRow base 2 1 v' (k+m) ((xs++ys).map (zc zb))->w.grownBy w' v.ownBlock->(v'=za none 0 0↔v=za none 0 0/\m=0)->K (a.put o.dst v') w'):
 if zq o (yielded ops a.tmps)=true then zI ze o a w K Q else E:=by
 have hw:zq o (yielded ops a.tmps)=true:=by simp[zq,hg]
 rw[zV hw];obtain⟨i0,hi,hz0,hz1,hz2⟩:=zs2;obtain⟨v',w',hrun,r1,r2,r3⟩:=run_append_own (P:=ze) w base 24 o.type _ i0 _ 1 8 xi hi hz0 hz1 hz2 rfl (by decide) v k (xs.map (zc zb)) hown ⟨b,off,none⟩ m c (ys.map (zc zb)) (by simp[hy]) (yx3 hc) (by simp[zr]) (by unfold maxLen;omega) (by omega) hb;unfold zI;simp[execOp,hop,resolve,invoke,builtin,hs,hx,hrun,Result.andThen];exact hK _ _ (by rw[xX];exact r1) r2 r3
theorem z06{ops:Array Oper}{o:Oper}{a:Act}{w:zg}{K:Act->zg->Prop}{Q:Exit->Act->zg->Prop}{E:Prop}
 (hg:o.guard=none) (s x:Operand) (hop:o.op=zH {callee:=zu zv,args:=#[s,x],argTypes:=#[24,24]})
 (base:Nat) (v:Value) (xs:List Int) (k:Nat) (hs:a.eval s=v) (hown:w.ownsRow base 2 1 v k (xs.map (zc zb))) (ad:Option Addr) (m c:Nat) (ys:List Int) (hx:a.eval x=za ad m c)
 (had:∃b off,ad=some ⟨b,off,none⟩) (hy:ys.length=m) (hc:za3 w ad ys) (b1:k<=1000) (b2:m<=1000) (hb:base<=w.heap.size)
 (hK:∀v' w',w'.ownsRow base 2 1 v' (k+m) ((xs++ys).map (zc zb))->w.grownBy w' v.ownBlock->(v'=za none 0 0↔v=za none 0 0/\m=0)->K (a.put o.dst v') w'):
 if zq o (yielded ops a.tmps)=true then zI ze o a w K Q else E:=by
 obtain⟨b,off,rfl⟩:=had;exact zi3 hg s x hop base v xs k hs hown b off m c ys hx hy hc b1 b2 hb hK
theorem CRR.grown{w W W':zg}{cs rs ts:Array Value}{row:Option Nat}(h:CRR w W cs rs ts)(hg:W.grownBy W' row)(hlt:∀g,row=some g->w.heap.size+2<g):CRR w W' cs rs ts:=
 ⟨⟨h.1.1.grown hg h.1.1.size (fun k e=>by have:=hlt k e;omega),(hg.block _ (za2 h.1.2.1) (fun e=>by have:=hlt _ e.symm;omega)).trans h.1.2.1,(hg.block _ (za2 h.1.2.2) (fun e=>by have:=hlt _ e.symm;omega)).trans h.1.2.2⟩,(hg.block _ (za2 h.2) (fun e=>by have:=hlt _ e.symm;omega)).trans h.2⟩
theorem CRR.put{w W:zg}{cs rs ts:Array Value}(h:CRR w W cs rs ts){k i:Nat}{v:Value}(hk:w.heap.size+2<k):CRR w (W.setCell ⟨k,i,none⟩ v) cs rs ts:=
 ⟨h.1.set (by omega),za6 h.2 (by omega)⟩
theorem CRR.drew{w W:zg}{cs rs ts:Array Value}(h:CRR w W cs rs ts):CRR w W.drew cs rs ts:=h.below (yV _ _).drew
def OX(w W:zg)(B ko:Nat)(cs rs ts:Array Value)(veh:Int)(sl:Value)(ys:List Int):Prop:=
 CRR w W cs rs ts/\W.heap[ko]? =some (zd #[zc zb veh,sl] 80 (0,0))/\B<=ko/\w.heap.size+2<B/\W.ownsRow B 2 1 sl ys.length (ys.map (zc zb))
theorem OX.c{w W:zg}{B ko:Nat}{cs rs ts:Array Value}{veh:Int}{sl:Value}{ys:List Int}(h:OX w W B ko cs rs ts veh sl ys):CRR w W cs rs ts:=h.1
theorem OX.b{w W:zg}{B ko:Nat}{cs rs ts:Array Value}{veh:Int}{sl:Value}{ys:List Int}(h:OX w W B ko cs rs ts veh sl ys):Below w.heap.size w W:=h.1.1.1
theorem OX.o{w W:zg}{B ko:Nat}{cs rs ts:Array Value}{veh:Int}{sl:Value}{ys:List Int}(h:OX w W B ko cs rs ts veh sl ys):W.ownsRow B 2 1 sl ys.length (ys.map (zc zb)):=h.2.2.2.2
theorem OX.below{w W W':zg}{B ko:Nat}{cs rs ts:Array Value}{veh:Int}{sl:Value}{ys:List Int}(h:OX w W B ko cs rs ts veh sl ys)(hb:Below W.heap.size W W'):OX w W' B ko cs rs ts veh sl ys:=
 ⟨h.1.below hb,za0 hb (za2 h.2.1) h.2.1,h.2.2.1,h.2.2.2.1,zc5 h.2.2.2.2 hb⟩
theorem OX.drew{w W:zg}{B ko:Nat}{cs rs ts:Array Value}{veh:Int}{sl:Value}{ys:List Int}(h:OX w W B ko cs rs ts veh sl ys):OX w W.drew B ko cs rs ts veh sl ys:=h.below (yV _ _).drew
theorem zH9{w:zg}{base k ko:Nat}{v:Value}{size:Nat}{xs:List Value}{cs:Array Value}(h:w.ownsRow base 2 size v k xs)(hk:w.heap[ko]? =some (.cells cs 80 (0,0))):v.ownBlock≠some ko:=by
 intro e;obtain⟨_,⟨rfl,_⟩|⟨g,cap,cur,rfl,_,h4,_⟩⟩:=h
 ·cases e
 ·have:g=ko:=by simpa[zm]using e
  subst this;rw[h4]at hk;simp at hk
theorem OX.grow{w W W':zg}{B ko:Nat}{cs rs ts:Array Value}{veh:Int}{sl sl':Value}{ys ys':List Int}(h:OX w W B ko cs rs ts veh sl ys)(hg:W.grownBy W' sl.ownBlock)(ho:W'.ownsRow B 2 1 sl' ys'.length (ys'.map (zc zb))):
 OX w ((W'.setCell ⟨ko,1,none⟩ sl')) B ko cs rs ts veh sl' ys':=by
 have hk:=(hg.block _ (za2 h.2.1) (fun e=>zH9 h.2.2.2.2 h.2.1 e.symm)).trans h.2.1;refine⟨(h.1.grown hg (fun g e=> ?_)).put ?_,?_,h.2.2.1,h.2.2.2.1,?_⟩
 ·have:=(h.2.2.2.2.lt g e).1;have:=h.2.2.2.1;omega
 ·have:=h.2.2.1;have:=h.2.2.2.1;omega
 ·have:=zP W' ko 1 _ _ sl' hk
  simpa using this
 ·exact x8 ho (zH9 ho hk) sl'
theorem yJ8(w1:zg):((w1.alloc (zd #[] 2)).drew).ownsRow w1.heap.size 2 1 (za (some ⟨w1.heap.size,0,none⟩) 0 0) 0 (([]:List Int).map (zc zb)):=
 zc5 (qa w1 #[] 0 (zQ _) (by unfold maxLen;omega) (by simp)) (yV _ _).drew
theorem yG9(w1:zg)(o:Obj):(((w1.alloc (zd #[] 2)).alloc o).drew).ownsRow w1.heap.size 2 1 (za (some ⟨w1.heap.size,0,none⟩) 0 0) 0 (([]:List Int).map (zc zb)):=
 zc5 (qa w1 #[] 0 (zQ _) (by unfold maxLen;omega) (by simp)) (zK _).drew
theorem yI4(w1:zg)(o:Obj):(((w1.alloc o).alloc (zd #[] 2)).drew).ownsRow w1.heap.size 2 1 (za (some ⟨w1.heap.size+1,0,none⟩) 0 0) 0 (([]:List Int).map (zc zb)):=by
 have:=zc5 (qa (base:=w1.heap.size) (e:=2) (size:=1) (w1.alloc o) #[] 0 (by simp) (by unfold maxLen;omega) (by simp)) (yV _ _).drew;simpa using this
theorem z77(w1:zg)(o:Obj):(w1.alloc o).heap.size=w1.heap.size+1:=by simp
theorem OX.newa{w w1 w':zg}{cs rs ts:Array Value}{veh:Int}{sl:Value}{ys:List Int}{o:Obj}(h:CRR w w1 cs rs ts)(hg:((w1.alloc o).drew).grownBy w' (some w1.heap.size))(ho:w'.ownsRow w1.heap.size 2 1 sl ys.length (ys.map (zc zb))):
 OX w (w'.alloc (zd #[zc zb veh,sl] 80)) w1.heap.size w'.heap.size cs rs ts veh sl ys:=
 ⟨(((h.alloc o).drew).grown hg (fun g e=>by cases e;exact h.big)).alloc _,zN _ _,by have:=hg.size;have e:=z77 w1 o;have:(w1.alloc o).drew.heap.size=w1.heap.size+1:=e;omega,h.big,ho.alloc _⟩
theorem OX.newb{w w1 w':zg}{cs rs ts:Array Value}{veh:Int}{sl z0 z1:Value}{ys:List Int}{o:Obj}(h:CRR w w1 cs rs ts)(hg:(((w1.alloc o).alloc (zd #[z0,z1] 80)).drew).grownBy w' (some w1.heap.size))(ho:w'.ownsRow w1.heap.size 2 1 sl ys.length (ys.map (zc zb))):
 OX w ((w'.setCell ⟨w1.heap.size+1,0,none⟩ (zc zb veh)).setCell ⟨w1.heap.size+1,1,none⟩ sl) w1.heap.size (w1.heap.size+1) cs rs ts veh sl ys:=by
 have hk0:(((w1.alloc o).alloc (zd #[z0,z1] 80)).drew).heap[w1.heap.size+1]? =some (zd #[z0,z1] 80 (0,0)):=by
  have:=zN (w1.alloc o) (zd #[z0,z1] 80);rw[z77]at this;exact this
 have hk:w'.heap[w1.heap.size+1]? =some (zd #[z0,z1] 80 (0,0)):=(hg.block _ (za2 hk0) (fun e=>by simp at e)).trans hk0;have hb:=h.big;have s1:=zP w' (w1.heap.size+1) 0 _ _ (zc zb veh) hk;have s2:=zP _ (w1.heap.size+1) 1 _ _ sl s1;refine⟨((((h.alloc o).alloc _).drew.grown hg (fun g e=>by cases e;exact hb)).put (by omega)).put (by omega),by simpa using s2,by omega,hb,?_⟩;exact x8 (x8 ho (zH9 ho hk) _) (zH9 ho hk) _
theorem OX.newc{w w1 w':zg}{cs rs ts:Array Value}{veh:Int}{sl z0 z1:Value}{ys:List Int}{o:Obj}(h:CRR w w1 cs rs ts)(hg:(((w1.alloc (zd #[z0,z1] 80)).alloc o).drew).grownBy w' (some (w1.heap.size+1)))(ho:w'.ownsRow w1.heap.size 2 1 sl ys.length (ys.map (zc zb))):
 OX w ((w'.setCell ⟨w1.heap.size,0,none⟩ (zc zb veh)).setCell ⟨w1.heap.size,1,none⟩ sl) w1.heap.size w1.heap.size cs rs ts veh sl ys:=by
 have hk0:(((w1.alloc (zd #[z0,z1] 80)).alloc o).drew).heap[w1.heap.size]? =some (zd #[z0,z1] 80 (0,0)):=xb _ _ _;have hk:w'.heap[w1.heap.size]? =some (zd #[z0,z1] 80 (0,0)):=(hg.block _ (za2 hk0) (fun e=>by simp at e)).trans hk0;have hb:=h.big;have s1:=zP w' w1.heap.size 0 _ _ (zc zb veh) hk;have s2:=zP _ w1.heap.size 1 _ _ sl s1;refine⟨((((h.alloc _).alloc o).drew.grown hg (fun g e=>by cases e;omega)).put (by omega)).put (by omega),by simpa using s2,by omega,hb,?_⟩;exact x8 (x8 ho (zH9 ho hk) _) (zH9 ho hk) _
theorem yK2{w1 w2:zg}{o:Obj}{cs:Array Value}{T:TypeId}(hg:(((w1.alloc o).alloc (.cells cs T)).drew).grownBy w2 (some w1.heap.size)):w2.heap[w1.heap.size+1]? =some (.cells cs T (0,0)):=by
 have hk0:(((w1.alloc o).alloc (.cells cs T)).drew).heap[w1.heap.size+1]? =some (.cells cs T (0,0)):=by
  have:=zN (w1.alloc o) (.cells cs T);rw[z77]at this;exact this
 exact(hg.block _ (za2 hk0) (fun e=>by simp at e)).trans hk0
theorem yK1{w1 w2:zg}{o:Obj}{cs:Array Value}{T:TypeId}(hg:(((w1.alloc (.cells cs T)).alloc o).drew).grownBy w2 (some (w1.heap.size+1))):w2.heap[w1.heap.size]? =some (.cells cs T (0,0)):=by
 have hk0:(((w1.alloc (.cells cs T)).alloc o).drew).heap[w1.heap.size]? =some (.cells cs T (0,0)):=xb _ _ _;exact(hg.block _ (za2 hk0) (fun e=>by simp at e)).trans hk0
theorem yh1{w:zg}{base n:Nat}{v:Value}{e:TypeId}{xs:List Int}(h:w.ownsRow base e 1 v (0+n) (([]++xs).map (zc zb)))(hl:xs.length=n):w.ownsRow base e 1 v xs.length (xs.map (zc zb)):=by
 rw[z6]at h;rw[hl];exact h
theorem zC3{w:zg}{base n m:Nat}{v:Value}{e:TypeId}{xs ys:List Int}(h:w.ownsRow base e 1 v (n+m) ((xs++ys).map (zc zb)))(hx:xs.length=n)(hy:ys.length=m):w.ownsRow base e 1 v (xs++ys).length ((xs++ys).map (zc zb)):=by
 rw[xU,hx,hy];exact h
theorem y08{w:zg}{base n:Nat}{v:Value}{e:TypeId}{xs:List Int}(h:w.ownsRow base e 1 v xs.length (xs.map (zc zb)))(hl:xs.length=n):w.ownsRow base e 1 v n (xs.map (zc zb)):=by
 rw[<-hl];exact h
theorem yv6{w:zg}{base k g c:Nat}{e:TypeId}{size:Nat}{xs:List Value}(h:w.ownsRow base e size (za (some ⟨g,0,none⟩) k c) k xs):k<=c/\k<=9223372036854775807:=by
 obtain⟨_,⟨h1,_⟩|⟨g',cap,cur,h2,_,_,h5,h6,_⟩⟩:=h
 ·cases h1
 ·simp at h2
  obtain⟨rfl,rfl⟩:=h2;unfold maxLen at h6;exact⟨h5,by omega⟩
theorem yG6{c:Bool}{n:Int}{zs os vs:List Int}{ko kv:Nat}{veh:Int}{ids:List Int}(h:codeV c n zs os vs ko kv veh ids=0):rcV n zs os vs ko kv veh ids=zr1 n zs (zd1 os ko ids) ids.length (zc2 vs kv veh 1):=by
 have hc:=zG8 h;rw[hc]at h;exact z21 h
theorem ys4{ch c:Bool}{n:Int}{zs os vs:List Int}{ko kv:Nat}{veh:Int}{ids ids':List Int}(h:ch=true)(h1:codeV c n zs os vs ko kv veh ids=0)(h2:codeV c n zs os vs ko kv veh ids'=0):
 chD ch n zs os vs ko kv veh ids ids'=zr1 n zs (zd1 os ko ids') ids'.length (zc2 vs kv veh 1) - zr1 n zs (zd1 os ko ids) ids.length (zc2 vs kv veh 1):=by
 subst h;unfold chD;rw[zV rfl,yG6 h1,yG6 h2]
theorem zW1{w1 X:zg}{b o:Nat}{v:Value}(hc:w1.cell? ⟨b,o,none⟩=some v)(hb:Below w1.heap.size w1 X):X.cell? ⟨b,o,none⟩=some v:=by
 rw[hb.cell (p:=⟨b,o,none⟩) (zT hc)];exact hc
theorem zX1{W:zg}{a:Option Addr}{ids:List Int}(h:za3 W a ids)(i:Nat):za3 W a (ids.take i):=by
 intro j hj;simp at hj;obtain⟨b,off,e,hc⟩:=h j (by omega);refine⟨b,off,e,hc.trans ?_⟩;simp only[zw,yq];rw[zV (by omega)]
theorem yv2{W:zg}{b off:Nat}{ids:List Int}(h:za3 W (some ⟨b,off,none⟩) ids)(i:Nat):za3 W (some ⟨b,off+i,none⟩) (ids.drop i):=by
 intro j hj;simp at hj;obtain⟨b',off',e,hc⟩:=h (i+j) (by omega);simp at e;obtain⟨rfl,rfl⟩:=e;refine⟨b,off+i,rfl,?_⟩;rw[yx,hc];simp[zw,x6]
theorem yl8{W:zg}{b off:Nat}{ids:List Int}(h:za3 W (some ⟨b,off,none⟩) ids)(i c2:Nat)(hc:ids.length<=c2):za3 W (if c2=i then some ⟨b,off,none⟩else some ⟨b,off+i,none⟩) (ids.drop i):=by
 by_cases e:c2=i
 ·rw[zV e,List.drop_eq_nil_of_le (by omega)]
  intro j hj;simp at hj
 ·rw[zW e]
  exact yv2 h i
theorem yl3(b off i c2:Nat):∃b' off',(if c2=i then some (⟨b,off,none⟩:Addr)else some ⟨b,off+i,none⟩)=some ⟨b',off',none⟩:=by
 split
 ·exact⟨_,_,rfl⟩
 ·exact⟨_,_,rfl⟩
theorem OX.keep{w W W':zg}{B ko:Nat}{cs ts:Array Value}{r0 r1:Value}{veh:Int}{sl:Value}{ys:List Int}(h:OX w W B ko cs #[r0,r1] ts veh sl ys)(hg:W.grownBy W' sl.ownBlock):
 W'.cell? ⟨w.heap.size+1,1,none⟩=some r1/\W'.cell? ⟨ko,1,none⟩=some sl/\(∀i,W'.frozen? ⟨ko,i,none⟩=false):=by
 have hk:=(hg.block _ (za2 h.2.1) (fun e=>zH9 h.2.2.2.2 h.2.1 e.symm)).trans h.2.1;have hc:=(h.1.grown hg (fun g e=>by have:=(h.2.2.2.2.lt g e).1;have:=h.2.2.2.1;omega)).1.2.2;exact⟨(za1 hc).2,(za1 hk).2,fun i=>yU _ _ i _ _ hk⟩
theorem OX.size{w W:zg}{B ko:Nat}{cs rs ts:Array Value}{veh:Int}{sl:Value}{ys:List Int}(h:OX w W B ko cs rs ts veh sl ys):B<=W.heap.size:=by
 have:=h.2.2.1;have:=za2 h.2.1;omega
theorem ox9{w W:zg}{B ko:Nat}{c0 c1 c2 c3 c4 r0 r1:Value}{ts:Array Value}{veh:Int}{sl:Value}{ys:List Int}(h:OX w W B ko #[c0,c1,c2,c3,c4] #[r0,r1] ts veh sl ys):
 W.cell? ⟨w.heap.size,0,none⟩=some c0/\W.cell? ⟨w.heap.size,1,none⟩=some c1/\W.cell? ⟨w.heap.size,2,none⟩=some c2/\W.cell? ⟨w.heap.size,3,none⟩=some c3/\W.cell? ⟨w.heap.size,4,none⟩=some c4/\W.cell? ⟨w.heap.size+1,0,none⟩=some r0/\W.cell? ⟨w.heap.size+1,1,none⟩=some r1/\W.cell? ⟨ko,0,none⟩=some (zc zb veh)/\W.cell? ⟨ko,1,none⟩=some sl:=by
 obtain⟨k0,k1,k2,k3,k4⟩:=za7 h.1.1.2.1;obtain⟨k5,k6⟩:=za1 h.1.1.2.2;obtain⟨k7,k8⟩:=za1 h.2.1;exact⟨k0,k1,k2,k3,k4,k5,k6,k7,k8⟩
theorem yL8{w W:zg}{B ko:Nat}{c0 c1 c2 c3 c4 r0 r1:Value}{ts:Array Value}{veh:Int}{sl:Value}{ys:List Int}(h:OX w W B ko #[c0,c1,c2,c3,c4] #[r0,r1] ts veh sl ys)(u1 u2:Value):
 (fun X:zg=>X.cell? ⟨w.heap.size,0,none⟩=some c0/\X.cell? ⟨w.heap.size,1,none⟩=some c1/\X.cell? ⟨w.heap.size,2,none⟩=some c2/\X.cell? ⟨w.heap.size,3,none⟩=some c3/\X.cell? ⟨w.heap.size,4,none⟩=some c4/\X.cell? ⟨w.heap.size+1,0,none⟩=some r0/\X.cell? ⟨w.heap.size+1,1,none⟩=some r1/\X.cell? ⟨ko,0,none⟩=some (zc zb veh)/\X.cell? ⟨ko,1,none⟩=some sl) ((W.setCell ⟨w.heap.size+1+1,0,none⟩ u1).setCell ⟨w.heap.size+1+1,1,none⟩ u2):=by
 have hc:=h.1.set u1 u2;obtain⟨k0,k1,k2,k3,k4,k5,k6⟩:=cr7 hc;obtain⟨k7,k8⟩:=za1 h.2.1;have hne:ko≠w.heap.size+1+1:=by have:=h.2.2.1;have:=h.2.2.2.1;omega
 exact⟨k0,k1,k2,k3,k4,k5,k6,za5 (za5 k7 hne) hne,za5 (za5 k8 hne) hne⟩
theorem z94{w:zg}{base k n:Nat}{v:Value}{e:TypeId}{size:Nat}{xs:List Value}(h:w.ownsRow base e size v k xs)(hne:v≠za none 0 0)(hk:k=n):∃g c,v=za (some ⟨g,0,none⟩) n c:=by
 subst hk;rcases zu0 h with h1|h1
 ·exact absurd h1 hne
 ·exact h1
theorem zn5{w W w2:zg}{row:Option Nat}{cs ts:Array Value}{r0 r1:Value}(hg:W.grownBy w2 row)(h:CRR w W cs #[r0,r1] ts)(hr:∀g,row=some g->w.heap.size+2<g):w2.cell? ⟨w.heap.size+1,0,none⟩=some r0/\w2.cell? ⟨w.heap.size+1,1,none⟩=some r1:=za1 (h.grown hg hr).1.2.2
structure PW(w W:zg)(B:Nat)(lv ov:Value)(L O:List Int):Prop where
 b:Below w.heap.size w W
 hB:w.heap.size<=B/\B<=W.heap.size
 l:W.ownsRow B 2 1 lv L.length (L.map (zc zb))
 o:W.ownsRow B 2 1 ov O.length (O.map (zc zb))
 ne:lv.ownBlock≠ov.ownBlock
 sl:∃g c,lv=za (some ⟨g,0,none⟩) L.length c
 so:∃g c,ov=za (some ⟨g,0,none⟩) O.length c
structure PM(w W:zg)(B:Nat)(lv ov mv:Value)(L O M:List Int):Prop where
 b:Below w.heap.size w W
 hB:w.heap.size<=B/\B<=W.heap.size
 l:W.ownsRow B 2 1 lv L.length (L.map (zc zb))
 o:W.ownsRow B 2 1 ov O.length (O.map (zc zb))
 m:W.ownsRow B 2 1 mv M.length (M.map (zc zb))
 mo:mv.ownBlock≠ov.ownBlock
 sm:mv≠za none 0 0
 so:∃g c,ov=za (some ⟨g,0,none⟩) O.length c
theorem PW.put{w W w4:zg}{B:Nat}{lv ov ov':Value}{L O:List Int}{x:Int}{o:Obj}(h:PW w W B lv ov L O)(hown:w4.ownsRow B 2 1 ov' (O.length+1) ((O++[x]).map (zc zb)))(hg:(W.alloc o).grownBy w4 ov.ownBlock)(hbk:ov'.ownBlock=ov.ownBlock∨ov'.ownBlock=some (W.alloc o).heap.size)(hn:ov'=za none 0 0↔ov=za none 0 0/\1=0):PW w w4 B lv ov' L (O++[x]):=by
 have hA:Below w.heap.size w (W.alloc o):=h.b.alloc h.b.size _;have hlt:∀g,lv.ownBlock=some g->g<W.heap.size:=fun g e=>(h.l.lt g e).2;refine⟨hA.grown hg hA.size (fun k e=>by have:=(h.o.lt k e).1;have:=h.hB.1;omega),⟨h.hB.1,y7 h.hB.2 (y7 (by simp) hg.size)⟩,(h.l.alloc o).kept hg (.inr h.ne),?_,?_,h.sl,?_⟩
 ·rw[xU];exact hown
 ·rcases hbk with e|e
  ·rw[e];exact h.ne
  ·rw[e]
   intro e2;have:=hlt _ e2;simp at this;omega
 ·rw[xU]
  obtain⟨g,c,e⟩:=h.so;exact zq9 hown (zn9 hn ⟨g,_,c,e⟩)
theorem zO2(W:zg):(W.alloc (zd #[] 2)).ownsRow W.heap.size 2 1 (za (some ⟨W.heap.size,0,none⟩) 0 0) ([]:List Int).length (([]:List Int).map (zc zb)):=qa W #[] 0 (zQ _) (by unfold maxLen;omega) (by simp)
theorem z81(b off c:Nat)(L:List Int)(v:Int)(w:zg)(hA:za3 w (some ⟨b,off,none⟩) L)(hl:L.length<=1000):
 Calls ze 73 #[za (some ⟨b,off,none⟩) L.length c,zc zb v] w fun e w'=>∃g cg,e=.returned (za (some ⟨g,0,none⟩) (cutP L v).length cg)/\Below w.heap.size w w'/\w'.ownsRow w.heap.size 2 1 (za (some ⟨g,0,none⟩) (cutP L v).length cg) (cutP L v).length ((cutP L v).map (zc zb)):=by
 have HA:=za4 hA;clear hA;obtain⟨n,HN⟩:=nmd L.length;obtain⟨R,HR⟩:=nmd (cutP L v);rw[HN.X]at hl⊢;rw[HR.X];have OB:Hid (Below w.heap.size w (w.alloc (zd #[] 2))):=zK _;go_enter Tryz.func73,Tryz.ntmps73
 go_wp2_with fail
 go_loopw[5,6] (fun av t wr=>∃k:Nat,k<=n/\t=zc zb k/\wr.ownsRow w.heap.size 2 1 av (cutP (L.take k) v).length ((cutP (L.take k) v).map (zc zb))/\Below w.heap.size w wr/\av≠za none 0 0) (fun _ t _=>n - (intOf t).toNat)
 case atStart=>exact⟨0,yZ _,rfl,zO2 w,OB.X,by simp⟩
 case round=>
  clear OB;obtain⟨k,hk,rfl,ho,hb,hn⟩:=hrel;have hcl:(cutP (L.take k) v).length<=1000:=y7 (yt4 _ _) (by rw[zZ];omega);obtain⟨C,HC⟩:=nmd (cutP (L.take k) v);rw[HC.X]at ho hcl;obtain⟨g,cg,rfl⟩:=zq9 ho hn;obtain⟨m,HM⟩:=nmd C.length;rw[HM.X]at ho hcl⊢;have O1:=za4 ho;have B1:Hid _:=hb;clear ho hb hn;by_cases hlt:k<n
  ·have hs:=zJ3 L v k (by rw[HN.X];exact hlt)
   have cx:wr.cell? ⟨b,off+k,none⟩=some (zc zb (L.getD k 0)):=by
    obtain⟨_,_,e,h⟩:=(HA.below B1.X) k (by rw[HN.X];exact hlt);simp at e;obtain⟨rfl,rfl⟩:=e;exact h
   obtain⟨x,HX⟩:=nmd (L.getD k 0);rw[HX.X]at cx hs;rw[HC.X]at hs;by_cases hxv:x=v
   ·rw[zV hxv]at hs
    have HS:Hid _:=hs;clear hs;go_wp2;go_roundw
    case rel=>exact⟨k+1,by omega,by first|rfl|go_num,by rw[HS.X,HM.X];exact O1.X,B1.X,by simp⟩
    case measure=>simp[intOf];omega
   ·rw[zW hxv]at hs
    have HS:Hid _:=hs;clear hs;have BA:Hid (Below w.heap.size w (wr.alloc (zd #[zc zb x] 2))):=B1.alloc B1.size _
    go_wp2_with(
     at_builtin;refine zc9 _ rfl _ _ rfl w.heap.size _ m C rfl (O1.alloc _) wr.heap.size 0 1 1 [x] rfl rfl (zj5 wr x) (by omega) (by omega) (y7 B1.size (by simp)) ?_;intro v' w4 hown hg _ hnl;have O4:=za4 hown;have B4:Hid _:=BA.grown hg BA.size (fun k e=>(O1.lt k e).1);have N4:Hid (v'≠za none 0 0):=zn9 hnl ⟨_,_,_,rfl⟩;clear hown hg hnl)
    go_roundw
    case rel=>exact⟨k+1,by omega,by first|rfl|go_num,by rw[HS.X,xU,HM.X];exact O4.X,B4.X,N4.X⟩
    case measure=>simp[intOf];omega
  ·have hkn:k=n:=by omega
   have HE:Hid (C=R):=by
    have:=HC.X;rw[hkn,<-HN.X,yc,HR.X]at this;exact this.symm
   have HRM:Hid (R.length=m):=by show _=_;rw[<-HE.X];exact HM.X
   rw[HE.X]at O1;go_wp2;go_ret;refine⟨g,cg,by rw[HRM.X];rfl,B1.X,by rw[HRM.X];exact O1.X⟩
theorem PW.cut{w W w4:zg}{lv ov:Value}{L O C:List Int}{g c:Nat}(h:PW w W w.heap.size lv ov L O)(hb:Below W.heap.size W w4)(ho:w4.ownsRow W.heap.size 2 1 (za (some ⟨g,0,none⟩) C.length c) C.length (C.map (zc zb))):PW w w4 w.heap.size (za (some ⟨g,0,none⟩) C.length c) ov C O:=by
 refine⟨h.b.trans (hb.mono h.b.size),⟨zQ _,y7 h.hB.2 hb.size⟩,zc4 ho h.hB.2,zc5 h.o hb,?_,⟨g,c,rfl⟩,h.so⟩;intro e;have h1:=(ho.lt g rfl).1;have h2:=(h.o.lt g (by rw[<-e];rfl)).2;omega
theorem PW.lput{w W w4:zg}{B:Nat}{lv ov lv':Value}{L O:List Int}{x:Int}{o:Obj}(h:PW w W B lv ov L O)(hown:w4.ownsRow B 2 1 lv' (L.length+1) ((L++[x]).map (zc zb)))(hg:(W.alloc o).grownBy w4 lv.ownBlock)(hbk:lv'.ownBlock=lv.ownBlock∨lv'.ownBlock=some (W.alloc o).heap.size)(hn:lv'=za none 0 0↔lv=za none 0 0/\1=0):PW w w4 B lv' ov (L++[x]) O:=by
 have hA:Below w.heap.size w (W.alloc o):=h.b.alloc h.b.size _;have hlt:∀g,ov.ownBlock=some g->g<W.heap.size:=fun g e=>(h.o.lt g e).2;refine⟨hA.grown hg hA.size (fun k e=>by have:=(h.l.lt k e).1;have:=h.hB.1;omega),⟨h.hB.1,y7 h.hB.2 (y7 (by simp) hg.size)⟩,?_,(h.o.alloc o).kept hg (.inr h.ne.symm),?_,?_,h.so⟩
 ·rw[xU];exact hown
 ·rcases hbk with e|e
  ·rw[e];exact h.ne
  ·rw[e]
   intro e2;have:=hlt _ e2.symm;simp at this;omega
 ·rw[xU]
  obtain⟨g,c,e⟩:=h.sl;exact zq9 hown (zn9 hn ⟨g,_,c,e⟩)
theorem zT4{K i:Nat}{L:List Int}{s:Int}(h:i<K):pkL (K - i) L s=(L.getD (pkAt (zn0 s) L.length) 0::(pkL (K - (i+1)) (zk9 L (pkAt (zn0 s) L.length)) (zn0 s)).1,(pkL (K - (i+1)) (zk9 L (pkAt (zn0 s) L.length)) (zn0 s)).2):=by
 rw[show K - i=(K - (i+1))+1 by omega];rfl
theorem zX3(s:Int){D:Nat}(h:0<D):∃S:Nat,zn0 s=S/\S<=2147483647/\(S:Int) / 65536 % (D:Int)=(pkAt (zn0 s) D:Nat)/\pkAt (zn0 s) D<D:=by
 have h1:=zc7 (zQ2 s);refine⟨(zn0 s).toNat,by omega,by omega,?_,ye8 h⟩;rw[<-yF4 h]
 congr 2
 omega
theorem PW.new2{w W:zg}{lv ov:Value}{L:List Int}(ho:W.ownsRow w.heap.size 2 1 lv L.length (L.map (zc zb)))(hb:Below w.heap.size w W)(hn:lv≠za none 0 0)(hx:W.ownsRow w.heap.size 2 1 ov 0 (([]:List Int).map (zc zb)))(hm:ov≠za none 0 0)(hne:lv.ownBlock≠ov.ownBlock):PW w W w.heap.size lv ov L []:=
 ⟨hb,⟨zQ _,hb.size⟩,ho,hx,hne,zq9 ho hn,zq9 hx hm⟩
theorem zK0(s n k:Int)(w:zg):
 Calls ze 91 #[zc zb s,zc zb n,zc zb k] w fun e w'=>∃sl,e=.returned (.tuple #[sl,zc zb (z88 s n k)])/\Below w.heap.size w w'/\w'.ownsRow w.heap.size 2 1 sl (zt0 s n k).length ((zt0 s n k).map (zc zb)):=by
 have OB:Hid (Below w.heap.size w (w.alloc (zd #[] 2))):=zK _;have ON:Hid ((w.alloc (zd #[] 2)).ownsRow w.heap.size 2 1 (za (some ⟨w.heap.size,0,none⟩) 0 0) 0 (([]:List Int).map (zc zb))):=zO2 w;obtain⟨R,HR⟩:=nmd (zt0 s n k);obtain⟨V,HV⟩:=nmd (z88 s n k);rw[HR.X,HV.X];cases hp:zu3 s n k
 ·have HE:Hid (R=[]/\V= -1):=by
   have:=yy2 hp;rw[HR.X,HV.X]at this;exact this
  unfold zu3 at hp;rcases qd (inB n 0 64)with h1|h1<;>rcases qd (inB k 0 n)with h2|h2<;>rcases qd (inB s 0 2147483647)with h3|h3
  ·rw[h1,h2,h3]at hp;simp at hp
  all_goals
   clear hp;go_enter Tryz.func91,Tryz.ntmps91
   go_wp2_with(go_at_call 39;refine(zc0 _ _ _ _).mono ?_;rintro e w' ⟨rfl,hw'⟩;subst w';first|rw[h1]|rw[h2]|rw[h3])
   refine yX (v:=.tuple #[za (some ⟨w.heap.size,0,none⟩) 0 0,zc zb (-1)]) (by simp[results,Tryz.results91,go_sem]) rfl ⟨_,by rw[HE.X.2],OB.X,by rw[HE.X.1];exact ON.X⟩
 ·obtain⟨N,K,rfl,rfl,hN,hK,hs0,hs1⟩:=zG4 hp
  obtain⟨e1,e2⟩:=zu4 hp;have HR1:Hid ((pkL K (z24 N) s).1=R/\(pkL K (z24 N) s).2=V):=⟨e1.symm.trans HR.X,e2.symm.trans HV.X⟩;have h1:inB (N:Int) 0 64=true:=zf3 (by omega);have h2:inB (K:Int) 0 N=true:=zf3 (by omega);have h3:inB s 0 2147483647=true:=zf3 (by omega);clear e1 e2 hp HR HV;have O2:Hid (((w.alloc (zd #[] 2)).alloc (zd #[] 2)).ownsRow w.heap.size 2 1 (za (some ⟨w.heap.size+1,0,none⟩) 0 0) 0 (([]:List Int).map (zc zb))):=by
   have:=zc4 (zO2 (w.alloc (zd #[] 2))) OB.X.size;rw[show(w.alloc (zd #[] 2)).heap.size=w.heap.size+1 by simp]at this;exact this
  have X2:Hid (((w.alloc (zd #[] 2)).alloc (zd #[] 2)).ownsRow w.heap.size 2 1 (za (some ⟨w.heap.size,0,none⟩) 0 0) 0 (([]:List Int).map (zc zb))):=ON.X.alloc _;have B2:Hid (Below w.heap.size w ((w.alloc (zd #[] 2)).alloc (zd #[] 2))):=OB.X.alloc OB.X.size _;go_enter Tryz.func91,Tryz.ntmps91
  go_wp2_with(go_at_call 39;refine(zc0 _ _ _ _).mono ?_;rintro e w' ⟨rfl,hw'⟩;subst w';first|rw[h1]|rw[h2]|rw[h3])
  clear OB ON h1 h2 h3;go_loopw[9,10] (fun av t wr=>∃i:Nat,i<=N/\t=zc zb i/\PW w wr w.heap.size av (za (some ⟨w.heap.size,0,none⟩) 0 0) (z24 i) []) (fun _ t _=>N - (intOf t).toNat)
  case atStart=>exact⟨0,yZ _,rfl,PW.new2 O2.X B2.X (by simp) X2.X (by simp) (by simp[zm])⟩
  case round=>
   clear O2 X2 B2;obtain⟨i,hi,rfl,hpw⟩:=hrel;obtain⟨gl,cl,rfl⟩:=hpw.sl;rw[zg9]at hpw⊢;have P1:=za4 hpw;clear hpw;by_cases hlt:i<N
   ·go_wp2_with(
     at_builtin;refine zc9 _ rfl _ _ rfl w.heap.size _ i (z24 i) rfl (by have:=P1.X.l;rw[zg9]at this;exact this.alloc _) wr.heap.size 0 1 1 [(i:Int)] rfl rfl (zj5 wr i) (by omega) (by omega) (y7 P1.X.hB.2 (by simp)) ?_;intro v' w4 hown hg hbk hnl;have P4:Hid (PW w w4 w.heap.size v' (za (some ⟨w.heap.size,0,none⟩) 0 0) (z24 (i+1)) []):=by
      show PW _ _ _ _ _ _ _;rw[zZ4];exact P1.X.lput (by rw[zg9];exact hown) hg hbk hnl
     clear hown hg hbk hnl)
    go_roundw
    case rel=>exact⟨i+1,by omega,by first|rfl|go_num,P4.X⟩
    case measure=>simp[intOf];omega
   ·have hiN:i=N:=by omega
    rw[hiN]at P1⊢;clear hi hlt hiN
    go_wp2_with fail
    go_loopw[0,8,9,11] (fun sv ov lv t wr=>∃(i:Nat) (s:Int) (L O:List Int),i<=K/\L.length=N - i/\L.Nodup/\t=zc zb i/\sv=zc zb s/\O.length=i/\PW w wr w.heap.size lv ov L O/\O++(pkL (K - i) L s).1=R/\(pkL (K - i) L s).2=V/\0<=s/\s<=2147483647) (fun _ _ _ t _=>K - (intOf t).toNat)
    case atStart=>exact⟨0,s,z24 N,[],yZ _,by rw[zg9];rfl,z68 N,rfl,rfl,rfl,P1.X,HR1.X.1,HR1.X.2,hs0,hs1⟩
    case round=>
     clear P1;obtain⟨i,s,L,O,hi,hl,hnd,rfl,rfl,ho,hpw,hres,hseed,hs0,hs1⟩:=hrel;obtain⟨gl,cl,rfl⟩:=hpw.sl;obtain⟨go,co,rfl⟩:=hpw.so;have P1:=za4 hpw;have HL:=za4 hl;have HO:=za4 ho;have HND:Hid L.Nodup:=hnd;have HRS:Hid (O++(pkL (K - i) L s).1=R/\(pkL (K - i) L s).2=V):=⟨hres,hseed⟩;clear hpw hl ho hnd hres hseed;rw[HO.X]at P1⊢;by_cases hlt:i<K
     ·have hD:0<L.length:=by rw[HL.X];omega
      have hDb:L.length<=64:=by rw[HL.X];omega
      obtain⟨S,hS,hSb,hat,hatl⟩:=zX3 s hD;have hst:=zT4 (L:=L) (s:=s) hlt;obtain⟨D,HD⟩:=nmd L.length;rw[HD.X]at hD hDb hat hatl hst P1⊢;obtain⟨p,HP⟩:=nmd (pkAt (zn0 s) D);rw[HP.X]at hat hatl hst;have HS:=za4 hS;rw[HS.X]at hst;have HRS2:Hid ((O++[L.getD p 0])++(pkL (K - (i+1)) (zk9 L p) S).1=R/\(pkL (K - (i+1)) (zk9 L p) S).2=V):=by
       have h:=HRS.X;rw[hst]at h;refine⟨?_,h.2⟩;rw[<-h.1,z7];rfl
      have cx:wr.cell? ⟨gl,p,none⟩=some (zc zb (L.getD p 0)):=by
       obtain⟨_,_,e,h⟩:=z03 P1.X.l HD.X p (by rw[HD.X];exact hatl);simp at e;obtain⟨rfl,rfl⟩:=e;rw[z6]at h;exact h
      have HCUT:Hid (cutP L (L.getD p 0)=zk9 L p):=zQ9 HND.X (by rw[HD.X];exact hatl);have HRL:Hid ((zk9 L p).length=D - 1):=by show _=_;rw[zl4 (by rw[HD.X];exact hatl),HD.X]
      have HRN:Hid (zk9 L p).Nodup:=zM1 HND.X p;obtain⟨x,HX⟩:=nmd (L.getD p 0);rw[HX.X]at cx HRS2 HCUT;have hpD:(p:Int)<(D:Int):=by omega
      clear hst hS hs0 hs1 HRS;have hib:i<=64:=by omega
      go_wp2_with(first
       |(go_at_call 130;refine(zZ1 _ _).mono ?_;rintro e w' ⟨rfl,hw'⟩;subst w';rw[HS.X])
       |(at_builtin
         refine zc9 _ rfl (.tmp 51) (.tmp 56) rfl w.heap.size _ i O rfl (by have:=P1.X.o;rw[HO.X]at this;exact this.alloc _) wr.heap.size 0 1 1 [x] rfl rfl (zj5 wr x) (by omega) (by omega) (y7 P1.X.hB.2 (by simp)) ?_;intro ov' w4 hown hg hbk hnl;have P4:Hid (PW w w4 w.heap.size (za (some ⟨gl,0,none⟩) D cl) ov' L (O++[x])):=P1.X.put (by rw[HO.X];exact hown) hg hbk hnl;have I4:Hid (za3 w4 (some ⟨gl,0,none⟩) L):=z03 P4.X.l HD.X;have c4:w4.cell? ⟨gl,p,none⟩=some (zc zb x):=by
          obtain⟨_,_,e,h⟩:=I4.X p (by rw[HD.X];exact hatl);simp at e;obtain⟨rfl,rfl⟩:=e;rw[z6]at h;rw[h,HX.X]
         clear hown hg hbk hnl)
       |(go_at_call 73
         have hcut:=z81 gl 0 cl L x w4 I4.X (by rw[HD.X];omega);rw[HD.X,HCUT.X]at hcut;refine hcut.mono ?_;rintro e w5 ⟨g5,c5,rfl,hb5,ho5⟩;have P5:Hid (PW w w5 w.heap.size (za (some ⟨g5,0,none⟩) (zk9 L p).length c5) ov' (zk9 L p) (O++[x])):=P4.X.cut hb5 ho5;clear hcut hb5 ho5))
      go_roundw
      case rel=>exact⟨i+1,S,zk9 L p,O++[x],by omega,by rw[HRL.X,<-HD.X,HL.X];omega,HRN.X,by first|rfl|go_num,rfl,by rw[xU,HO.X];rfl,P5.X,HRS2.X.1,HRS2.X.2,by omega,by omega⟩
      case measure=>simp[intOf];omega
     ·have hiK:K - i=0:=by omega
      have HE:Hid (O=R/\s=V):=by
       have h:=HRS.X;rw[hiK]at h;refine⟨?_,h.2⟩;rw[<-h.1];exact(xY _).symm
      have HOR:Hid (wr.ownsRow w.heap.size 2 1 (za (some ⟨go,0,none⟩) i co) R.length (R.map (zc zb))):=by
       have:=P1.X.o;rw[HE.X.1]at this;exact this
      have HB:Hid (Below w.heap.size w wr):=P1.X.b;obtain⟨D,HD⟩:=nmd L.length;rw[HD.X,HE.X.2];go_wp2;refine yX (v:=.tuple #[za (some ⟨go,0,none⟩) i co,zc zb V]) (by simp[results,Tryz.results91,go_sem]) rfl ⟨_,rfl,HB.X,HOR.X⟩
theorem yx8(w:zg){ops:Array Oper}{rest:List Oper}{o:Oper}{a:Act}{Q:Exit->Act->zg->Prop}
 (hg:o.guard=none) (l c:Operand) (hop:o.op=Op.makeSlice 24 l c) (base:Nat)
 (kl kc:IntKind) (C:Int) (n:Nat) (hl:a.eval l=.int kl 0) (hc:a.eval c=.int kc C) (hC:C=(n:Int)) (b2:n<=1048576) (b4:base<=w.heap.size)
 (hK:∀w',w'.ownsRow base 2 1 (za (some ⟨w.heap.size,0,none⟩) 0 n) 0 []->w.grownBy w' none->wpList ze ops Q rest (a.put o.dst (za (some ⟨w.heap.size,0,none⟩) 0 n)) w'):
 wpList ze ops Q (o::rest) a w:=by
 obtain⟨i0,hi,hz0,hz1,hz2⟩:=qe Tryz.info2;exact wpList_make_own w hg l c _ hop base _ i0 _ 1 xi hi hz0 hz1 kl kc C n hl hc hC (by rw[hz2];omega) (by unfold maxLen;omega) b4 hK
theorem y12(L:List Int)(k:Nat)(x:Int):L.take k++[x]++L.drop k=insL L k x:=by
 unfold insL;rw[z7];rfl
theorem zT5(b off c:Nat)(L:List Int)(x:Int)(w:zg)(hA:za3 w (some ⟨b,off,none⟩) L)(hl:L.length<=100)(hc:L.length<=c):
 Calls ze 92 #[za (some ⟨b,off,none⟩) L.length c,zc zb x] w fun e w'=>∃g cc,e=.returned (za (some ⟨g,0,none⟩) (L.length+1) cc)/\Below w.heap.size w w'/\w'.ownsRow w.heap.size 2 1 (za (some ⟨g,0,none⟩) (L.length+1) cc) (L.length+1) ((zz7 L x).map (zc zb)):=by
 have HA:=za4 hA;clear hA;obtain⟨m,HM⟩:=nmd L.length;rw[HM.X]at hl hc⊢;have B1:Hid (Below w.heap.size w (w.alloc (zd #[] 2))):=zK _;go_enter Tryz.func92,Tryz.ntmps92
 go_wp2_with fail
 go_loop [5] (fun t=>∃k:Nat,k<=m/\t=zc zb k/\∀j,j<k->L.getD j 0<x) (fun t=>m - (intOf t).toNat)
 case atStart=>exact⟨0,yZ _,rfl,fun j hj=>by omega⟩
 case round=>
  obtain⟨k,hk,rfl,hj⟩:=hrel;have HJ:Hid _:=hj;clear hj;by_cases hcont:k<m/\L.getD k 0<x
  ·obtain⟨hlt,hx⟩:=hcont
   have hltI:(k:Int)<(m:Int):=by omega
   obtain⟨_,_,e,c1⟩:=HA.X k (by rw[HM.X];exact hlt);simp only[xV,xZ,qb]at e;obtain⟨rfl,rfl⟩:=e;have HJ2:Hid (∀j,j<k+1->L.getD j 0<x):=fun j hj=>by
    by_cases e:j=k
    ·rw[e];exact hx
    ·exact HJ.X j (by omega)
   obtain⟨y,HY⟩:=nmd (L.getD k 0);rw[HY.X]at c1 hx;go_wp2
   go_round
   case rel=>exact⟨k+1,by omega,by go_num,HJ2.X⟩
   case measure=>simp[intOf];omega
  ·have HE:Hid (L.take k++[x]++L.drop k=zz7 L x):=by
    show _=_;rw[y12];exact zP9 L x k (by rw[HM.X];exact hk) HJ.X (fun h h2=>hcont ⟨by rw[<-HM.X];exact h,h2⟩)
   have cx:∀y,L.getD k 0=y->k<m->w.cell? ⟨b,off+k,none⟩=some (zc zb y):=fun y hy hlt=>by
    obtain⟨_,_,e,c1⟩:=HA.X k (by rw[HM.X];exact hlt);simp only[xV,xZ,qb]at e;obtain⟨rfl,rfl⟩:=e;rw[<-hy];exact c1
   obtain⟨y,HY⟩:=nmd (L.getD k 0);have cy:=cx y HY.X;rw[HY.X]at hcont;have HC:=za4 hcont;clear cx hcont;by_cases hlt:k<m
   all_goals
    first
     |(have hltI:(k:Int)<(m:Int):=by omega
       have c1:=cy hlt;have hyx:¬y<x:=fun h=>HC.X ⟨hlt,h⟩)
     |have hltI:¬((k:Int)<(m:Int)):=by omega
    clear cy;have hkc:k<=c:=by omega
    go_wp2_with(first
     |(at_builtin
       refine zc9 _ rfl (.tmp 21) (.tmp 24) rfl w.heap.size _ 0 [] rfl (qa w #[] 0 (zQ _) (by unfold maxLen;omega) (by simp)) b off k c (L.take k) rfl (by rw[zZ,HM.X];omega) (yr6 (HA.below B1.X) k) (by omega) (by omega) (by simp) ?_;intro v2 w2 hown hg hbk hnl;have B2:Hid _:=B1.grown hg B1.size (fun k e=>z45 e);rw[z6,yo]at hown;obtain⟨g2,c2,rfl⟩:=zq9 hown (zn9 hnl ⟨_,_,_,rfl⟩);have O2:=za4 hown;have B3:Hid (Below w.heap.size w (w2.alloc (zd #[zc zb x] 2))):=B2.alloc B2.size _;clear hown hg hbk hnl)
     |(at_builtin
       refine zc9 _ rfl (.tmp 26) (.tmp 28) rfl w.heap.size _ k (L.take k) rfl (O2.alloc _) w2.heap.size 0 1 1 [x] rfl rfl (zj5 w2 x) (by omega) (by omega) B3.size ?_;intro v4 w4 hown hg hbk hnl;have hbg:=(O2.lt g2 rfl).1;have B4:Hid _:=B3.grown hg B3.size (fun k e=>y7 hbg (z45 e));obtain⟨g4,c4,rfl⟩:=zq9 hown (zn9 hnl ⟨_,_,_,rfl⟩);have O4:=za4 hown;clear hown hg hbk hnl hbg)
     |(at_builtin
       refine zG6 _ rfl (.tmp 30) (.tmp 33) rfl w.heap.size _ (k+1) (L.take k++[x]) rfl O4.X _ (m - k) _ (L.drop k) rfl (by first|exact⟨_,_,rfl⟩|exact yx9 b off k c) (by rw[x7,HM.X]) (by first|exact zN2 (HA.below B4.X) k|exact yv0 (HA.below B4.X) k c (by rw[HM.X];exact hc)) (by omega) (by omega) B4.size ?_;intro v5 w5 hown hg hbk hnl;have hbg:=(O4.lt g4 rfl).1;have B5:Hid _:=B4.grown hg B4.size (fun k e=>y7 hbg (z45 e));rw[show k+1+(m - k)=m+1 by omega,HE.X]at hown;obtain⟨g5,c5,rfl⟩:=zq9 hown (zn9 hnl ⟨_,_,_,rfl⟩);have O5:=za4 hown;clear hown hg hbk hnl hbg))
    all_goals
     go_ret;exact⟨g5,c5,rfl,B5.X,O5.X⟩
theorem zD7(w:zg){ops:Array Oper}{rest:List Oper}{o:Oper}{a:Act}{Q:Exit->Act->zg->Prop}
 (hg:o.guard=none) (s x:Operand) (hop:o.op=zH {callee:=zu zv,args:=#[s,x],argTypes:=#[24,24]})
 (base:Nat) (v:Value) (k:Nat) (xs:List Int) (hs:a.eval s=v) (hown:w.ownsRow base 2 1 v k (xs.map (zc zb))) (b c:Nat) (id:Int) (hx:a.eval x=za (some ⟨b,0,none⟩) 1 c)
 (hc:w.cell? ⟨b,0,none⟩=some (zc zb id)) (b1:k<=1000) (hb:base<=w.heap.size)
 (hK:∀v' w',w'.ownsRow base 2 1 v' (k+1) ((xs++[id]).map (zc zb))->w.grownBy w' v.ownBlock->(v'=za none 0 0↔v=za none 0 0/\1=0)->wpList ze ops Q rest (a.put o.dst v') w'):
 wpList ze ops Q (o::rest) a w:=by
 obtain⟨i0,hi,hz0,hz1,hz2⟩:=zs2;refine wpList_append_own w hg s x _ hop base _ i0 _ 1 8 xi hi hz0 hz1 hz2 rfl (by decide) v k _ hs hown ⟨b,0,none⟩ 1 c [zc zb id] hx rfl ?_ (by simp[zr]) (by unfold maxLen;omega) (by omega) hb (fun v' w' h1 h2 h3=>hK v' w' (by rw[xX];exact h1) h2 h3);intro j u hu;have hj:j=0:=by
  rcases j with _|j
  ·rfl
  ·simp at hu
 subst hj;have hadd:(⟨b,0,none⟩:Addr).add 0=⟨b,0,none⟩:=by unfold Addr.add;split<;>simp_all
 rw[hadd,hc];simpa using hu
theorem zt9(n fine veh:Int)(a ao av bi:Option Addr)(cap ko co kv cv c2:Nat)(zs os vs ids:List Int)(w:zg)(hA:za3 w a zs)(hO:za3 w ao os)(hV:za3 w av vs)(hI:za3 w bi ids)(hlo:os.length=ko*6)(hlv:vs.length=kv*5)(hko:ko<=9223372036854775807)(hkv:kv<=9223372036854775807)(hli:ids.length<=9223372036854775807)(hcode:codeV (zc8 n zs os vs ko kv fine) n zs os vs ko kv veh ids=0):
 Calls ze 89 #[.agg #[zc zb n,za a zs.length cap,za ao ko co,za av kv cv,zc zb fine],.agg #[zc zb veh,za bi ids.length c2]] w fun e w'=>e=.returned (zc zb (zr1 n zs (zd1 os ko ids) ids.length (zc2 vs kv veh 1)))/\Below w.heap.size w w':=by
 have HA:=za4 hA;have HO:=za4 hO;have HV:=za4 hV;have HI:=za4 hI;have HLO:Hid _:=hlo;have HLV:Hid _:=hlv;clear hA hO hV hI hlo hlv;have HC0:Hid (CR w ((w.alloc (zd #[zc zb n,za a zs.length cap,za ao ko co,za av kv cv,zc zb fine] 30)).alloc (zd #[zc zb veh,za bi ids.length c2] 80)) _ _):=CR.new w _ _;obtain⟨hcb,_,hstB⟩:=zf5 (zg6 hcode).1;obtain⟨hmat,hords,hvehs,hn1,_⟩:=zb3 hcb;have hvb:=zs3 hvehs hn1 veh;have HMAT:Hid _:=hmat;have HOB:Hid _:=hords;have HN1:=za4 hn1;have h12:=(zg3 hstB).1;clear hmat hords hvehs hn1 hcb hstB hcode;obtain⟨r,HV1⟩:=nmd (zr1 n zs (zd1 os ko ids) ids.length (zc2 vs kv veh 1));rw[HV1.X];go_enter Tryz.func89,Tryz.ntmps89;obtain⟨c0,c1,c2',c3,c4⟩:=za7 HC0.2.1;obtain⟨d0,d1⟩:=za1 HC0.2.2
 go_wp2_with fail
 clear c0 c1 c2' c3 c4 d0 d1;refine(zE5 n fine veh a ao av _ cap ko co kv cv vs _ (HV.below HC0.1) HLV.X hkv).mono ?_;rintro e w2 ⟨rfl,hb⟩;obtain⟨v0,G0⟩:=nmd (zc2 vs kv veh 0);obtain⟨v1,G1⟩:=nmd (zc2 vs kv veh 1);obtain⟨v2,G2⟩:=nmd (zc2 vs kv veh 2);obtain⟨v3,G3⟩:=nmd (zc2 vs kv veh 3);obtain⟨v4,G4⟩:=nmd (zc2 vs kv veh 4);rw[G1.X,G2.X,G3.X,G4.X]at hvb;rw[G1.X]at HV1;rw[G0.X,G1.X,G2.X,G3.X,G4.X];generalize fnd5T vs kv veh=tv;have HX1:Hid _:=hvb.1;clear hvb;have C3:Hid (CR w (w2.alloc (zd #[zc zb v0,zc zb v1,zc zb v2,zc zb v3,zc zb v4] 107)) _ _):=CR.alloc (HC0.below hb) _;have RV3:Hid ((w2.alloc (zd #[zc zb v0,zc zb v1,zc zb v2,zc zb v3,zc zb v4] 107)).heap[w2.heap.size]? =_):=zN _ _;clear hb HC0;obtain⟨q0,q1,q2,q3,q4⟩:=za7 RV3.X
 go_wp2_with fail
 clear q0 q1 q2 q3 q4;generalize w2.alloc (zd #[zc zb v0,zc zb v1,zc zb v2,zc zb v3,zc zb v4] 107)=W2 at*;generalize w2.heap.size=gv at*;have HBD:Hid (z64 n (zd1 os ko ids) ids.length):=z56 HOB.X HN1.X ids;go_loopw[7,8,9] (fun pl sm t wr=>∃k:Nat,k<=ids.length/\t=zc zb k/\pl=zc zb (plc (zd1 os ko ids) v1 k)/\sm=zc zb (zr6 n zs (zd1 os ko ids) v1 k)/\CR w wr #[zc zb n,za a zs.length cap,za ao ko co,za av kv cv,zc zb fine] #[zc zb veh,za bi ids.length c2]/\wr.heap[gv]? =some (zd #[zc zb v0,zc zb v1,zc zb v2,zc zb v3,zc zb v4] 107 (0,0))) (fun _ _ t _=>ids.length - (intOf t).toNat)
 case atStart=>exact⟨0,yZ _,rfl,rfl,rfl,C3.X,RV3.X⟩
 case round=>
  clear C3 RV3;obtain⟨k,hk,rfl,rfl,rfl,hb,hrv⟩:=hrel;have hpl:=zT1 HBD.X HX1.1 HX1.2 k hk;have hcb:=z40 (ros:=(zd1 os ko ids)) (home:=v1) HMAT.X k;have HB:=za4 hb;have HRV:=za4 hrv;obtain⟨c0,c1,c2',c3,c4⟩:=za7 hb.2.1;obtain⟨d0,d1⟩:=za1 hb.2.2;obtain⟨p,HPL⟩:=nmd (plc (zd1 os ko ids) v1 k);obtain⟨f,HFR⟩:=nmd (zr6 n zs (zd1 os ko ids) v1 k);rw[HPL.X]at hpl;rw[HFR.X]at hcb;rw[HPL.X,HFR.X];have HPB:Hid _:=hpl;clear hb hrv hpl;by_cases hlt:k<ids.length
  ·obtain⟨b,off,rfl,hcs⟩:=za3.some (za3.below HI.X HB.1) hlt
   have ct:=hcs k hlt;clear hcs;obtain⟨id,HID⟩:=nmd (ids.getD k 0);rw[HID.X]at ct;have HO1:=(zN8 HOB.X HN1.X id).1;obtain⟨o0,H0⟩:=nmd (zd0 os ko id 0);obtain⟨o1,H1⟩:=nmd (zd0 os ko id 1);obtain⟨o2,H2⟩:=nmd (zd0 os ko id 2);obtain⟨o3,H3⟩:=nmd (zd0 os ko id 3);obtain⟨o4,H4⟩:=nmd (zd0 os ko id 4);obtain⟨o5,H5⟩:=nmd (zd0 os ko id 5);rw[H1.X]at HO1;have HO1:Hid _:=HO1;obtain⟨d,HD⟩:=nmd (tmI n zs p o1);have hdb:=zx8 HMAT.X p o1;rw[HD.X]at hdb;have K1:Hid (og6 (zd1 os ko ids) k 1=o1):=(zk5 os ko ids hlt (by omega)).trans (by rw[HID.X];exact H1.X);have HNX:Hid (zr6 n zs (zd1 os ko ids) v1 (k+1)=f+d):=by
    show _=_;simp only[zr6];rw[HFR.X,HPL.X,K1.X,HD.X]
   obtain⟨tt,HTT⟩:=nmd (zm0 os ko id)
   go_wp2_with fail
   have HCT:=za4 ct;have HCA:Hid ((wr.alloc (zd #[zc zb 0,zc zb 0,zc zb 0,zc zb 0,zc zb 0,zc zb 0] 103)).cell? ⟨b,off+k,none⟩=_):=(((yV wr.heap.size wr).alloc (zQ _) _).cell (p:=⟨b,off+k,none⟩) (zT ct)).trans ct;have HVA:Hid ((wr.alloc (zd #[zc zb 0,zc zb 0,zc zb 0,zc zb 0,zc zb 0,zc zb 0] 103)).heap[gv]? =_):=(yY _ _ (za2 HRV.X)).trans HRV.X;have hlb:=zT ct;simp at hlb;have hlw:=za2 HB.2.1;have hlr:=za2 HB.2.2
   go_region_held3 (fun W=>W.cell? ⟨w.heap.size,0,none⟩=some (zc zb n)/\W.cell? ⟨w.heap.size,1,none⟩=some (za a zs.length cap)/\W.cell? ⟨w.heap.size,2,none⟩=some (za ao ko co)/\W.cell? ⟨w.heap.size,3,none⟩=some (za av kv cv)/\W.cell? ⟨w.heap.size,4,none⟩=some (zc zb fine)/\W.cell? ⟨w.heap.size+1,1,none⟩=some (za (some ⟨b,off,none⟩) ids.length c2)/\W.cell? ⟨b,off+k,none⟩=some (zc zb id)) (first|with_reducible exact kS|with_reducible exact⟨(za5 (za5 (za5 (za5 (za5 (za5 kS.1 (yW hlw)) (yW hlw)) (yW hlw)) (yW hlw)) (yW hlw)) (yW hlw)),(za5 (za5 (za5 (za5 (za5 (za5 kS.2.1 (yW hlw)) (yW hlw)) (yW hlw)) (yW hlw)) (yW hlw)) (yW hlw)),(za5 (za5 (za5 (za5 (za5 (za5 kS.2.2.1 (yW hlw)) (yW hlw)) (yW hlw)) (yW hlw)) (yW hlw)) (yW hlw)),(za5 (za5 (za5 (za5 (za5 (za5 kS.2.2.2.1 (yW hlw)) (yW hlw)) (yW hlw)) (yW hlw)) (yW hlw)) (yW hlw)),(za5 (za5 (za5 (za5 (za5 (za5 kS.2.2.2.2.1 (yW hlw)) (yW hlw)) (yW hlw)) (yW hlw)) (yW hlw)) (yW hlw)),(za5 (za5 (za5 (za5 (za5 (za5 kS.2.2.2.2.2.1 (yW hlr)) (yW hlr)) (yW hlr)) (yW hlr)) (yW hlr)) (yW hlr)),(za5 (za5 (za5 (za5 (za5 (za5 kS.2.2.2.2.2.2 (yW hlb)) (yW hlb)) (yW hlb)) (yW hlb)) (yW hlb)) (yW hlb))⟩|go_keep) ((first
    |(go_at_call 88
      with_reducible refine(zr7 n fine id a ao av _ cap ko co kv cv os wr.drew ?_ HLO.X hko).mono ?_
      ·exact HO.below HB.1.drew
      rintro e w2 ⟨rfl,hb2⟩;rw[H0.X,H1.X,H2.X,H3.X,H4.X,H5.X,HTT.X];have hcr2:=CR.below (CR.drew HB.X) hb2;obtain⟨k0,k1,k2,k3,k4⟩:=za7 hcr2.2.1;have k5:=(za1 hcr2.2.2).2;have k6:=(hb2.cell (p:=⟨b,off+k,none⟩) (zT HCT.X)).trans HCT.X;have kS:=xe k0 (xe k1 (xe k2 (xe k3 (xe k4 (xe k5 k6)))));have CR2:=za4 hcr2;have RV2:=za4 (za0 hb2 (za2 HRV.X) HRV.X);clear hb2 hcr2 k0 k1 k2 k3 k4 k5 k6)
    |(go_at_call 88
      with_reducible refine(zr7 n fine id a ao av _ cap ko co kv cv os (wr.alloc (zd #[zc zb 0,zc zb 0,zc zb 0,zc zb 0,zc zb 0,zc zb 0] 103)).drew ?_ HLO.X hko).mono ?_
      ·exact HO.below (CR.alloc HB.X (zd #[zc zb 0,zc zb 0,zc zb 0,zc zb 0,zc zb 0,zc zb 0] 103)).1.drew
      rintro e w2 ⟨rfl,hb2⟩;rw[H0.X,H1.X,H2.X,H3.X,H4.X,H5.X,HTT.X];have hcr2:=CR.below (CR.drew (CR.alloc HB.X (zd #[zc zb 0,zc zb 0,zc zb 0,zc zb 0,zc zb 0,zc zb 0] 103))) hb2;obtain⟨k0,k1,k2,k3,k4⟩:=za7 hcr2.2.1;have k5:=(za1 hcr2.2.2).2;have k6:=(hb2.cell (p:=⟨b,off+k,none⟩) (zT HCA.X)).trans HCA.X;have kS:=xe k0 (xe k1 (xe k2 (xe k3 (xe k4 (xe k5 k6)))));have CR2:=za4 hcr2;have RV2:=za4 (za0 hb2 (za2 HVA.X) HVA.X);obtain⟨z0,z1,z2,z3,z4,z5⟩:=zh8 (za0 hb2 (k:=wr.heap.size) (by simp) (zN wr (zd #[zc zb 0,zc zb 0,zc zb 0,zc zb 0,zc zb 0,zc zb 0] 103)));have zf:=fun i=>yU _ _ i _ _ (za0 hb2 (k:=wr.heap.size) (by simp) (zN wr (zd #[zc zb 0,zc zb 0,zc zb 0,zc zb 0,zc zb 0,zc zb 0] 103)))
      have RO2:Hid (w2.heap[wr.heap.size]? =_):=za0 hb2 (k:=wr.heap.size) (by simp) (zN wr (zd #[zc zb 0,zc zb 0,zc zb 0,zc zb 0,zc zb 0,zc zb 0] 103));clear hb2 hcr2 k0 k1 k2 k3 k4 k5 k6)))
   all_goals(first
    |(have CRW:Hid (CR w (zh (zh (zh (zh (zh (zh w2 ⟨wr.heap.size,0,none⟩ (zc zb o0)) ⟨wr.heap.size,1,none⟩ (zc zb o1)) ⟨wr.heap.size,2,none⟩ (zc zb o2)) ⟨wr.heap.size,3,none⟩ (zc zb o3)) ⟨wr.heap.size,4,none⟩ (zc zb o4)) ⟨wr.heap.size,5,none⟩ (zc zb o5)) _ _):=CR.set (CR.set (CR.set (CR.set (CR.set (CR.set CR2.X HB.big) HB.big) HB.big) HB.big) HB.big) HB.big
      have RVW:Hid ((zh (zh (zh (zh (zh (zh w2 ⟨wr.heap.size,0,none⟩ (zc zb o0)) ⟨wr.heap.size,1,none⟩ (zc zb o1)) ⟨wr.heap.size,2,none⟩ (zc zb o2)) ⟨wr.heap.size,3,none⟩ (zc zb o3)) ⟨wr.heap.size,4,none⟩ (zc zb o4)) ⟨wr.heap.size,5,none⟩ (zc zb o5)).heap[gv]? =_):=za6 (za6 (za6 (za6 (za6 (za6 RV2.X (yW (za2 HRV.X))) (yW (za2 HRV.X))) (yW (za2 HRV.X))) (yW (za2 HRV.X))) (yW (za2 HRV.X))) (yW (za2 HRV.X));have ROW:Hid ((zh (zh (zh (zh (zh (zh w2 ⟨wr.heap.size,0,none⟩ (zc zb o0)) ⟨wr.heap.size,1,none⟩ (zc zb o1)) ⟨wr.heap.size,2,none⟩ (zc zb o2)) ⟨wr.heap.size,3,none⟩ (zc zb o3)) ⟨wr.heap.size,4,none⟩ (zc zb o4)) ⟨wr.heap.size,5,none⟩ (zc zb o5)).heap[wr.heap.size]? =_):=zO3 RO2.X;clear kS CR2 RV2 RO2 HCT HCA HVA ct z0 z1 z2 z3 z4 z5 zf;generalize(zh (zh (zh (zh (zh (zh w2 ⟨wr.heap.size,0,none⟩ (zc zb o0)) ⟨wr.heap.size,1,none⟩ (zc zb o1)) ⟨wr.heap.size,2,none⟩ (zc zb o2)) ⟨wr.heap.size,3,none⟩ (zc zb o3)) ⟨wr.heap.size,4,none⟩ (zc zb o4)) ⟨wr.heap.size,5,none⟩ (zc zb o5))=W at*;generalize wr.heap.size=g at*)
    |(have CRW:Hid (CR w (w2.alloc (zd #[zc zb o0,zc zb o1,zc zb o2,zc zb o3,zc zb o4,zc zb o5] 103)) _ _):=CR.alloc CR2.X _
      have RVW:Hid ((w2.alloc (zd #[zc zb o0,zc zb o1,zc zb o2,zc zb o3,zc zb o4,zc zb o5] 103)).heap[gv]? =_):=(yY _ _ (za2 RV2.X)).trans RV2.X;have ROW:Hid ((w2.alloc (zd #[zc zb o0,zc zb o1,zc zb o2,zc zb o3,zc zb o4,zc zb o5] 103)).heap[w2.heap.size]? =_):=zN _ _;clear kS CR2 RV2 HCT HCA HVA ct;generalize w2.alloc (zd #[zc zb o0,zc zb o1,zc zb o2,zc zb o3,zc zb o4,zc zb o5] 103)=W at*;generalize w2.heap.size=g at*))
   all_goals
    clear c0 c1 c2' c3 c4 d0 d1 hlw hlr hlb HTT;generalize tt=tt';obtain⟨c0,c1,c2',c3,c4⟩:=za7 CRW.2.1;obtain⟨p0,p1,p2,p3,p4,p5⟩:=zh8 ROW.X
    go_wp2_with fail
    clear c0 c1 c2' c3 c4 p0 p1 p2 p3 p4 p5;refine(zz9 n p o1 _ _ zs _ d HD.X HMAT.X HPB.X HO1.X (HA.below CRW.1)).mono ?_;rintro e W3 ⟨rfl,hb3⟩;have CR3:=za4 (CRW.below hb3);have RV3:=za4 (za0 hb3 (za2 RVW.X) RVW.X);have RO3:=za4 (za0 hb3 (za2 ROW.X) ROW.X);clear hb3 CRW RVW ROW;obtain⟨p0,p1,p2,p3,p4,p5⟩:=zh8 RO3.X;go_wp2;go_roundw
    case rel=>exact⟨k+1,by omega,by go_num,by rw[<-K1.X];rfl,by rw[HNX.X],CR3.X,RV3.X⟩
    case measure=>simp[intOf];omega
  ·have hkl:k=ids.length:=by omega
   obtain⟨q0,q1,q2,q3,q4⟩:=za7 HRV.X;have HE:Hid (r=f+tmI n zs p v1):=by
    have:=HV1.X;unfold zr1 at this;rw[<-hkl,HFR.X,HPL.X]at this;exact this.symm
   clear hkl;obtain⟨d,HD⟩:=nmd (tmI n zs p v1);have hdb:=zx8 HMAT.X p v1;rw[HD.X]at hdb HE
   go_wp2_with fail
   refine(zz9 n p v1 _ _ zs _ d HD.X HMAT.X HPB.X HX1.X (HA.below HB.1)).mono ?_;rintro e W3 ⟨rfl,hb3⟩;have HB3:Hid _:=HB.1.trans (hb3.mono HB.1.size);clear hb3;go_wp2;go_ret;exact⟨zf8 HE.symm,HB3.X⟩
def zx1(cur:Array Value)(k0:Int):Nat->Array Value
 |0=>cur
 |m+1=>(zx1 cur k0 m).setIfInBounds m (zc zb (k0+(m:Nat)))
theorem zd3(cur:Array Value)(k0:Int):∀m,(zx1 cur k0 m).size=cur.size
 |0=>rfl
 |m+1=>by simp[zx1,zd3 cur k0 m]
theorem zI2(cur:Array Value)(k0:Int):∀m,m<=cur.size->∀j,j<m->(zx1 cur k0 m)[j]? =some (zc zb (k0+(j:Nat)))
 |0,_,j,hj=>by omega
 |m+1,hm,j,hj=>by
  unfold zx1;by_cases e:j=m
  ·subst e
   rw[Array.getElem?_setIfInBounds_self_of_lt (by rw[zd3];omega)]
  ·rw[Array.getElem?_setIfInBounds_ne (by omega)]
   exact zI2 cur k0 m (by omega) j (by omega)
theorem zk4{w:zg}{g:Nat}{cur:Array Value}{T:TypeId}(h:w.heap[g]? =some (.cells cur T (0,0))){j:Nat}(hj:j<cur.size):∃v,w.cell? ⟨g,j,none⟩=some v:=by
 rw[zR _ _ j _ _ _ h];exact⟨cur[j],by simp[hj]⟩
theorem zh6{w:zg}{g m:Nat}{cur:Array Value}{T:TypeId}{k0 v:Int}(h:w.heap[g]? =some (.cells (zx1 cur k0 m) T (0,0)))(hv:v=k0+(m:Nat)):(w.setCell ⟨g,m,none⟩ (zc zb v)).heap[g]? =some (.cells (zx1 cur k0 (m+1)) T (0,0)):=by
 rw[zP _ _ _ _ _ _ h,hv];rfl
def zq5(k:Int)(n:Nat):List Int:=(List.range n).map (fun i:Nat=>k+(i:Int))
theorem zs1(k:Int)(n:Nat):(zq5 k n).length=n:=by simp[zq5]
theorem zF2{k:Int}{n j:Nat}(h:j<n):(zq5 k n)[j]? =some (k+(j:Int)):=by simp[zq5,h]
theorem zn3{w:zg}{base size n rc g:Nat}{e:TypeId}{xs:List Value}(h:w.ownsRow base e size (za (some ⟨g,0,none⟩) n rc) n xs):∃cur,w.heap[g]? =some (.cells cur e (0,0))/\cur.size=rc*size/\n<=rc/\rc<=maxLen/\base<=g:=by
 obtain⟨_,⟨h1,_⟩|⟨g',cap,cur,h2,h3,h4,h5,h6,h7,_⟩⟩:=h
 ·cases h1
 ·simp only[xW,xV,xZ,qb,qg]at h2
  obtain⟨rfl,rfl⟩:=h2;exact⟨cur,h4,h7,h5,h6,h3⟩
structure zb2(S:Nat->Prop)(w w':zg):Prop where
 os:w'.os=w.os
 tape:w'.tape=w.tape
 output:w'.output=w.output
 size:w.heap.size<=w'.heap.size
 block:∀b,b<w.heap.size->¬S b->w'.heap[b]? =w.heap[b]?
theorem zb2.of_below{S:Nat->Prop}{w w':zg}(h:Below w.heap.size w w'):zb2 S w w':=⟨h.os,h.tape,h.output,h.size,fun b hb _=>h.block b hb⟩
theorem zb2.of_grown{S:Nat->Prop}{w w':zg}{g:Nat}(h:w.grownBy w' (some g))(hs:S g):zb2 S w w':=⟨h.os,h.tape,h.output,h.size,fun b hb hn=>h.block b hb (fun e=>by cases e;exact hn hs)⟩
theorem zb2.trans{S:Nat->Prop}{w w1 w2:zg}(h:zb2 S w w1)(k:zb2 S w1 w2):zb2 S w w2:=
 ⟨k.os.trans h.os,k.tape.trans h.tape,k.output.trans h.output,y7 h.size k.size,fun b hb hn=>(k.block b (xh hb h.size) hn).trans (h.block b hb hn)⟩
theorem zb2.mono{S S':Nat->Prop}{w w':zg}(h:zb2 S w w')(hs:∀b,S b->S' b):zb2 S' w w':=⟨h.os,h.tape,h.output,h.size,fun b hb hn=>h.block b hb (fun x=>hn (hs b x))⟩
theorem zb2.below{S:Nat->Prop}{w w':zg}{B:Nat}(h:zb2 S w w')(hB:B<=w.heap.size)(hs:∀b,S b->B<=b):Below B w w':=
 ⟨h.os,h.tape,h.output,h.size,fun b hb=>h.block b (by omega) (fun x=>by have:=hs b x;omega)⟩
theorem zb2.row{S:Nat->Prop}{w w':zg}{k:Nat}{o:Obj}(h:zb2 S w w')(hr:w.heap[k]? =some o)(hn:¬S k):w'.heap[k]? =some o:=(h.block k (za2 hr) hn).trans hr
theorem zb2.owns{S:Nat->Prop}{w w':zg}{base size k:Nat}{e:TypeId}{v:Value}{xs:List Value}(h:zb2 S w w')(ho:w.ownsRow base e size v k xs)(hs:∀b,S b->b<base):w'.ownsRow base e size v k xs:=by
 obtain⟨h1,h2|⟨g,cap,cur,h2,h3,h4,h5⟩⟩:=ho
 ·exact⟨h1,.inl h2⟩
 ·exact⟨h1,.inr ⟨g,cap,cur,h2,h3,h.row h4 (fun x=>by have:=hs g x;omega),h5⟩⟩
theorem zm2{w:zg}{g k:Nat}{c1 c2:Array Value}{T1 T2:TypeId}(h1:w.heap[g]? =some (.cells c1 T1 (0,0)))(h2:w.heap[k]? =some (.cells c2 T2 (0,0)))(hT:T1≠T2):g≠k:=by
 intro e;rw[e,h2]at h1;cases h1;exact hT rfl
theorem zi5(g n cap:Nat)(k0:Int)(cur:Array Value)(T:TypeId)(w:zg)(hrow0:w.heap[g]? =some (.cells cur T (0,0)))(hn:n<=cur.size)(h0:0<=k0)(h1:k0<=1000000000000)(hn1:n<=10000000):
 Calls ze 22 #[za (some ⟨g,0,none⟩) n cap,zc zb k0] w fun e w'=>e=.returned (zc zb (k0+((n:Nat):Int)))/\w.grownBy w' (some g)/\w'.heap[g]? =some (.cells (zx1 cur k0 (n)) T (0,0)):=by
 have HR0:=za4 hrow0;clear hrow0;go_enter Tryz.func22,Tryz.ntmps22
 go_wp2_with fail
 go_loopw[1,5] (fun kk t wr=>∃k:Nat,k<=n/\t=zc zb k/\kk=zc zb (k0+((k:Nat):Int))/\w.grownBy wr (some g)/\wr.heap[g]? =some (.cells (zx1 cur k0 (k)) T (0,0))) (fun _ t _=>n - (intOf t).toNat)
 case atStart=>exact⟨0,yZ _,rfl,by simp,zz6 _ _,HR0.X⟩
 case round=>
  obtain⟨k,hk,rfl,rfl,hg,hrow⟩:=hrel;have HG:=za4 hg;clear hg;obtain⟨K,HK⟩:=nmd (k0+((k:Nat):Int));have hkb:0<=K/\K<=1000100000000:=by
   have:=HK.X;omega
  rw[HK.X];by_cases hlt:k<n
  ·have fz:=fun i=>yU _ _ i _ _ hrow
   obtain⟨z0,y0⟩:=zk4 hrow (j:=k) (by rw[zd3];omega);have HROW:Hid ((World.heap (zh wr ⟨g,k,none⟩ (zc zb K)))[g]? =some (.cells (zx1 cur k0 ((k+1))) T (0,0))):=by
    show _=_;exact(zh6 hrow (by have:=HK.X;omega))
   have HGR:Hid (w.grownBy (zh wr ⟨g,k,none⟩ (zc zb K)) (some g)):=(ze8 HG.X (ze2 _ _ _ _));have HK1:Hid (k0+(((k+1):Nat):Int)=K+1):=by
    show _=_;have:=HK.X;omega
   clear hrow;go_wp2;go_roundw
   case rel=>exact⟨k+1,by omega,by go_num,by first|(rw[HK1.X];go_num)|rw[HK1.X],HGR.X,HROW.X⟩
   case measure=>simp[intOf];omega
  ·have hkl:k=n:=by omega
   subst hkl;have HROW:=za4 hrow;clear hrow;go_wp2;go_ret;exact⟨zf8 HK.X.symm,HG.X,HROW.X⟩
theorem zs9(a:Option Addr)(cap:Nat)(k0:Int)(w:zg):
 Calls ze 22 #[za a 0 cap,zc zb k0] w fun e w'=>e=.returned (zc zb k0)/\w'=w:=by
 go_enter Tryz.func22,Tryz.ntmps22
 go_wp2_with fail
 go_loop [1,5] (fun kk t=>t=zc zb 0/\kk=zc zb k0) (fun _ _=>0)
 case atStart=>exact⟨rfl,rfl⟩
 case round=>
  obtain⟨rfl,rfl⟩:=hrel;go_wp2;go_ret;exact⟨rfl,rfl⟩
theorem zs4(g n cap:Nat)(k0:Int)(w:zg)(hc:∀j,j<n->w.cell? ⟨g,j,none⟩=some (zc zb (k0+(j:Nat))))(h0:0<=k0)(h1:k0<=1000000000000)(hn1:n<=10000000):
 Calls ze 24 #[za (some ⟨g,0,none⟩) n cap,zc zb k0] w fun e w'=>e=.returned (zc zb (k0+((n:Nat):Int)))/\w'=w:=by
 have HC:=za4 hc;clear hc;go_enter Tryz.func24,Tryz.ntmps24
 go_wp2_with fail
 go_loop [1,5] (fun kk t=>∃k:Nat,k<=n/\t=zc zb k/\kk=zc zb (k0+((k:Nat):Int))) (fun _ t=>n - (intOf t).toNat)
 case atStart=>exact⟨0,yZ _,rfl,by simp⟩
 case round=>
  obtain⟨k,hk,rfl,rfl⟩:=hrel;obtain⟨K,HK⟩:=nmd (k0+((k:Nat):Int));have hkb:0<=K/\K<=1000100000000:=by
   have:=HK.X;omega
  rw[HK.X];by_cases hlt:k<n
  ·have HK1:Hid (k0+(((k+1):Nat):Int)=K+1):=by
    show _=_;have:=HK.X;omega
   have y0:=HC.X (k) (by omega);rw[show k0+(((k:Nat)):Int)=K by have:=HK.X;omega]at y0;go_wp2
   go_round
   case rel=>exact⟨k+1,by omega,by go_num,by first|(rw[HK1.X];go_num)|rw[HK1.X]⟩
   case measure=>simp[intOf];omega
  ·have hkl:k=n:=by omega
   subst hkl;go_wp2;go_ret;exact⟨zf8 HK.X.symm,rfl⟩
theorem zs8(a:Option Addr)(cap:Nat)(k0:Int)(w:zg):
 Calls ze 24 #[za a 0 cap,zc zb k0] w fun e w'=>e=.returned (zc zb k0)/\w'=w:=by
 go_enter Tryz.func24,Tryz.ntmps24
 go_wp2_with fail
 go_loop [1,5] (fun kk t=>t=zc zb 0/\kk=zc zb k0) (fun _ _=>0)
 case atStart=>exact⟨rfl,rfl⟩
 case round=>
  obtain⟨rfl,rfl⟩:=hrel;go_wp2;go_ret;exact⟨rfl,rfl⟩
end Go.Proofs.YtkchnomkiboihaaGreat
namespace Go.Proofs.YtkchnomkiboihaaGreat
open Q
end Go.Proofs.YtkchnomkiboihaaGreat
namespace Go.Proofs.YtkchnomkiboihaaGreat
open Value renaming slice→za,int→zc
open IntKind renaming i64→zb
open Obj renaming cells→zd
open Proofs.Tryz renaming prog→ze
open World renaming setCell→zh
open Go.RowKit
open Q
theorem zJ8(g n cap:Nat)(k0:Int)(cur:Array Value)(T:TypeId)(w:World)(hrow0:w.heap[g]? =some (.cells cur T (0,0)))(hn:n*6<=cur.size)(h0:0<=k0)(h1:k0<=1000000000000)(hn1:n<=10000000):
 Calls ze 63 #[za (some ⟨g,0,none⟩) n cap,zc zb k0] w fun e w'=>e=.returned (zc zb (k0+((n*6:Nat):Int)))/\w.grownBy w' (some g)/\w'.heap[g]? =some (.cells (zx1 cur k0 (n*6)) T (0,0)):=by
 have HR0:=za4 hrow0;clear hrow0;go_enter Tryz.func63,Tryz.ntmps63
 go_wp2_with fail
 go_loopw[1,5] (fun kk t wr=>∃k:Nat,k<=n/\t=zc zb k/\kk=zc zb (k0+((k*6:Nat):Int))/\w.grownBy wr (some g)/\wr.heap[g]? =some (.cells (zx1 cur k0 (k*6)) T (0,0))) (fun _ t _=>n - (intOf t).toNat)
 case atStart=>exact⟨0,yZ _,rfl,by simp,zz6 _ _,HR0.X⟩
 case round=>
  obtain⟨k,hk,rfl,rfl,hg,hrow⟩:=hrel;have HG:=za4 hg;clear hg;obtain⟨K,HK⟩:=nmd (k0+((k*6:Nat):Int));have hkb:0<=K/\K<=1000100000000:=by
   have:=HK.X;omega
  rw[HK.X];by_cases hlt:k<n
  ·have fz:=fun i=>yU _ _ i _ _ hrow
   obtain⟨z0,y0⟩:=zk4 hrow (j:=k*6) (by rw[zd3];omega);obtain⟨z1,y1⟩:=zk4 hrow (j:=k*6+1) (by rw[zd3];omega);obtain⟨z2,y2⟩:=zk4 hrow (j:=k*6+2) (by rw[zd3];omega);obtain⟨z3,y3⟩:=zk4 hrow (j:=k*6+3) (by rw[zd3];omega);obtain⟨z4,y4⟩:=zk4 hrow (j:=k*6+4) (by rw[zd3];omega);obtain⟨z5,y5⟩:=zk4 hrow (j:=k*6+5) (by rw[zd3];omega);have HROW:Hid ((World.heap (zh (zh (zh (zh (zh (zh wr ⟨g,k*6,none⟩ (zc zb K)) ⟨g,k*6+1,none⟩ (zc zb (K+1))) ⟨g,k*6+2,none⟩ (zc zb (K+1+1))) ⟨g,k*6+3,none⟩ (zc zb (K+1+1+1))) ⟨g,k*6+4,none⟩ (zc zb (K+1+1+1+1))) ⟨g,k*6+5,none⟩ (zc zb (K+1+1+1+1+1))))[g]? =some (.cells (zx1 cur k0 (((k+1)*6))) T (0,0))):=by
    show _=_;rw[show(k+1)*6=k*6+1+1+1+1+1+1 by omega];exact(zh6 (zh6 (zh6 (zh6 (zh6 (zh6 hrow (by have:=HK.X;omega)) (by have:=HK.X;omega)) (by have:=HK.X;omega)) (by have:=HK.X;omega)) (by have:=HK.X;omega)) (by have:=HK.X;omega))
   have HGR:Hid (w.grownBy (zh (zh (zh (zh (zh (zh wr ⟨g,k*6,none⟩ (zc zb K)) ⟨g,k*6+1,none⟩ (zc zb (K+1))) ⟨g,k*6+2,none⟩ (zc zb (K+1+1))) ⟨g,k*6+3,none⟩ (zc zb (K+1+1+1))) ⟨g,k*6+4,none⟩ (zc zb (K+1+1+1+1))) ⟨g,k*6+5,none⟩ (zc zb (K+1+1+1+1+1))) (some g)):=(ze8 (ze8 (ze8 (ze8 (ze8 (ze8 HG.X (ze2 _ _ _ _)) (ze2 _ _ _ _)) (ze2 _ _ _ _)) (ze2 _ _ _ _)) (ze2 _ _ _ _)) (ze2 _ _ _ _));have HK1:Hid (k0+((((k+1)*6):Nat):Int)=K+6):=by
    show _=_;have:=HK.X;omega
   clear hrow;go_wp2;go_roundw
   case rel=>exact⟨k+1,by omega,by go_num,by first|(rw[HK1.X];go_num)|rw[HK1.X],HGR.X,HROW.X⟩
   case measure=>simp[intOf];omega
  ·have hkl:k=n:=by omega
   subst hkl;have HROW:=za4 hrow;clear hrow;go_wp2;go_ret;exact⟨zf8 HK.X.symm,HG.X,HROW.X⟩
theorem zB3(g n cap:Nat)(k0:Int)(cur:Array Value)(T:TypeId)(w:World)(hrow0:w.heap[g]? =some (.cells cur T (0,0)))(hn:n*5<=cur.size)(h0:0<=k0)(h1:k0<=1000000000000)(hn1:n<=10000000):
 Calls ze 64 #[za (some ⟨g,0,none⟩) n cap,zc zb k0] w fun e w'=>e=.returned (zc zb (k0+((n*5:Nat):Int)))/\w.grownBy w' (some g)/\w'.heap[g]? =some (.cells (zx1 cur k0 (n*5)) T (0,0)):=by
 have HR0:=za4 hrow0;clear hrow0;go_enter Tryz.func64,Tryz.ntmps64
 go_wp2_with fail
 go_loopw[1,5] (fun kk t wr=>∃k:Nat,k<=n/\t=zc zb k/\kk=zc zb (k0+((k*5:Nat):Int))/\w.grownBy wr (some g)/\wr.heap[g]? =some (.cells (zx1 cur k0 (k*5)) T (0,0))) (fun _ t _=>n - (intOf t).toNat)
 case atStart=>exact⟨0,yZ _,rfl,by simp,zz6 _ _,HR0.X⟩
 case round=>
  obtain⟨k,hk,rfl,rfl,hg,hrow⟩:=hrel;have HG:=za4 hg;clear hg;obtain⟨K,HK⟩:=nmd (k0+((k*5:Nat):Int));have hkb:0<=K/\K<=1000100000000:=by
   have:=HK.X;omega
  rw[HK.X];by_cases hlt:k<n
  ·have fz:=fun i=>yU _ _ i _ _ hrow
   obtain⟨z0,y0⟩:=zk4 hrow (j:=k*5) (by rw[zd3];omega);obtain⟨z1,y1⟩:=zk4 hrow (j:=k*5+1) (by rw[zd3];omega);obtain⟨z2,y2⟩:=zk4 hrow (j:=k*5+2) (by rw[zd3];omega);obtain⟨z3,y3⟩:=zk4 hrow (j:=k*5+3) (by rw[zd3];omega);obtain⟨z4,y4⟩:=zk4 hrow (j:=k*5+4) (by rw[zd3];omega);have HROW:Hid ((World.heap (zh (zh (zh (zh (zh wr ⟨g,k*5,none⟩ (zc zb K)) ⟨g,k*5+1,none⟩ (zc zb (K+1))) ⟨g,k*5+2,none⟩ (zc zb (K+1+1))) ⟨g,k*5+3,none⟩ (zc zb (K+1+1+1))) ⟨g,k*5+4,none⟩ (zc zb (K+1+1+1+1))))[g]? =some (.cells (zx1 cur k0 (((k+1)*5))) T (0,0))):=by
    show _=_;rw[show(k+1)*5=k*5+1+1+1+1+1 by omega];exact(zh6 (zh6 (zh6 (zh6 (zh6 hrow (by have:=HK.X;omega)) (by have:=HK.X;omega)) (by have:=HK.X;omega)) (by have:=HK.X;omega)) (by have:=HK.X;omega))
   have HGR:Hid (w.grownBy (zh (zh (zh (zh (zh wr ⟨g,k*5,none⟩ (zc zb K)) ⟨g,k*5+1,none⟩ (zc zb (K+1))) ⟨g,k*5+2,none⟩ (zc zb (K+1+1))) ⟨g,k*5+3,none⟩ (zc zb (K+1+1+1))) ⟨g,k*5+4,none⟩ (zc zb (K+1+1+1+1))) (some g)):=(ze8 (ze8 (ze8 (ze8 (ze8 HG.X (ze2 _ _ _ _)) (ze2 _ _ _ _)) (ze2 _ _ _ _)) (ze2 _ _ _ _)) (ze2 _ _ _ _));have HK1:Hid (k0+((((k+1)*5):Nat):Int)=K+5):=by
    show _=_;have:=HK.X;omega
   clear hrow;go_wp2;go_roundw
   case rel=>exact⟨k+1,by omega,by go_num,by first|(rw[HK1.X];go_num)|rw[HK1.X],HGR.X,HROW.X⟩
   case measure=>simp[intOf];omega
  ·have hkl:k=n:=by omega
   subst hkl;have HROW:=za4 hrow;clear hrow;go_wp2;go_ret;exact⟨zf8 HK.X.symm,HG.X,HROW.X⟩
theorem yc8(n k0:Int)(g cap:Nat)(zs:List Int)(w:World)(hrow:w.heap[g]? =some (.cells (cellsOf zs) 2 (0,0)))(h0:0<=k0)(h1:k0<=100000000)(hl:zs.length<=1048576):
 Calls ze 62 #[.agg #[zc zb n,za (some ⟨g,0,none⟩) zs.length cap],zc zb k0] w fun e w'=>e=.returned (zc zb (k0+(zs.length:Int)))/\zb2 (fun b=>b=g) w w':=by
 have HB0:Hid (Below w.heap.size w (w.alloc (zd #[zc zb n,za (some ⟨g,0,none⟩) zs.length cap] 26))):=zK _;have HR:=za4 hrow;clear hrow;go_enter Tryz.func62,Tryz.ntmps62
 go_wp2_with fail
 refine(zi5 g zs.length cap k0 (cellsOf zs) _ _ (za0 HB0.X (za2 HR.X) HR.X) (by rw[zf2];exact zQ _) h0 (by omega) (by omega)).mono ?_;rintro e w1 ⟨rfl,hg,_⟩;have HG:Hid (zb2 (fun b=>b=g) w w1):=(zb2.of_below HB0.X).trans (zb2.of_grown hg rfl);clear hg;go_wp2;go_ret;exact⟨rfl,HG.X⟩
theorem zU9(n fine:Int)(g go gv cap ko co kv cv:Nat)(zs os vs:List Int)(w:World)(hC:zo9 w g go gv zs os vs)(hlo:os.length=ko*6)(hlv:vs.length=kv*5)(hz:zs.length<=1048576)(hko:ko<=1048576)(hkv:kv<=1048576):
 Calls ze 20 #[.agg #[zc zb n,za (some ⟨g,0,none⟩) zs.length cap,za (some ⟨go,0,none⟩) ko co,za (some ⟨gv,0,none⟩) kv cv,zc zb fine],zc zb 1] w fun e w'=>∃k',e=.returned (zc zb k')/\0<=k'/\k'<=50000000/\zb2 (fun b=>b=g∨b=go∨b=gv) w w':=by
 have HB0:Hid (Below w.heap.size w (w.alloc (zd #[zc zb n,za (some ⟨g,0,none⟩) zs.length cap,za (some ⟨go,0,none⟩) ko co,za (some ⟨gv,0,none⟩) kv cv,zc zb fine] 30))):=zK _;have HP0:Hid ((w.alloc (zd #[zc zb n,za (some ⟨g,0,none⟩) zs.length cap,za (some ⟨go,0,none⟩) ko co,za (some ⟨gv,0,none⟩) kv cv,zc zb fine] 30)).heap[w.heap.size]? =_):=zN _ _;have HC:=za4 (hC.below HB0.X);have HLO:=za4 hlo;have HLV:=za4 hlv;clear hC hlo hlv;go_enter Tryz.func20,Tryz.ntmps20;obtain⟨c0,c1,c2,c3,c4⟩:=za7 HP0.X
 go_wp2_with fail
 clear c0 c1 c2 c3 c4;have n1:Hid (go≠g/\gv≠g/\gv≠go):=⟨zm2 HC.X.2.1 HC.X.1 (by decide),zm2 HC.X.2.2 HC.X.1 (by decide),zm2 HC.X.2.2 HC.X.2.1 (by decide)⟩;have n2:Hid (w.heap.size≠g/\w.heap.size≠go/\w.heap.size≠gv):=⟨zm2 HP0.X HC.X.1 (by decide),zm2 HP0.X HC.X.2.1 (by decide),zm2 HP0.X HC.X.2.2 (by decide)⟩;refine(yc8 n 1 g cap zs _ HC.X.1 (by omega) (by omega) hz).mono ?_;rintro e w1 ⟨rfl,hg⟩;have G1:Hid (zb2 (fun b=>b=g∨b=go∨b=gv) w w1):=(zb2.of_below HB0.X).trans (hg.mono (fun b e=>.inl e));have P1:Hid (w1.heap[w.heap.size]? =_):=hg.row HP0.X n2.X.1;have R1:Hid (w1.heap[go]? =_):=hg.row HC.X.2.1 n1.X.1;have V1:Hid (w1.heap[gv]? =_):=hg.row HC.X.2.2 n1.X.2.1;clear hg HB0 HP0 HC;obtain⟨c0,c1,c2,c3,c4⟩:=za7 P1.X;obtain⟨k1,HK1⟩:=nmd ((1:Int)+(zs.length:Int));have hk1:0<=k1/\k1<=2000000:=by have:=HK1.X;omega
 rw[HK1.X]
 go_wp2_with fail
 clear c0 c1 c2 c3 c4;refine(zJ8 go ko co k1 (cellsOf os) _ _ R1.X (by rw[zf2,HLO.X];exact zQ _) (by omega) (by omega) (by omega)).mono ?_;rintro e w2 ⟨rfl,hg,_⟩;have hg2:zb2 (fun b=>b=go) w1 w2:=zb2.of_grown hg rfl;have G2:Hid (zb2 (fun b=>b=g∨b=go∨b=gv) w w2):=G1.X.trans (hg2.mono (fun b e=>.inr (.inl e)));have P2:Hid (w2.heap[w.heap.size]? =_):=hg2.row P1.X n2.X.2.1;have V2:Hid (w2.heap[gv]? =_):=hg2.row V1.X n1.X.2.2;clear hg hg2 G1 P1 R1 V1;obtain⟨c0,c1,c2,c3,c4⟩:=za7 P2.X;obtain⟨k2,HK2⟩:=nmd (k1+((ko*6:Nat):Int));have hk2:0<=k2/\k2<=10000000:=by have:=HK2.X;omega
 rw[HK2.X]
 go_wp2_with fail
 clear c0 c1 c2 c3 c4;refine(zB3 gv kv cv k2 (cellsOf vs) _ _ V2.X (by rw[zf2,HLV.X];exact zQ _) (by omega) (by omega) (by omega)).mono ?_;rintro e w3 ⟨rfl,hg,_⟩;have G3:Hid (zb2 (fun b=>b=g∨b=go∨b=gv) w w3):=G2.X.trans (zb2.of_grown hg (.inr (.inr rfl)));clear hg;obtain⟨k3,HK3⟩:=nmd (k2+((kv*5:Nat):Int));have hk3:0<=k3/\k3<=50000000:=by have:=HK3.X;omega
 rw[HK3.X];go_wp2;go_ret;exact⟨k3,rfl,hk3.1,hk3.2,G3.X⟩
