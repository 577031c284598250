import Derived.Test.YtkchnomkiboihaaGreatPack10
import Derived.Deep.CutRange
set_option maxHeartbeats 4000000
namespace Go.Proofs.YtkchnomkiboihaaGreat
open Value renaming slice→za,int→ze
open IntKind renaming i64→zd
open Obj renaming cells→zg
open Go renaming World→zi
open Go.RowKit
open Q
structure RO(w W:zi)(q:Nat)(a:Option Addr)(bs:List Int)(c:Nat)(cs:Array Value)(go gv:Nat)(O V:List Int)(ab:Int)(ov:Value)(L:List Int):Prop where
 gr:w.grownBy W (some q)
 r0:∃p,RD w q a bs c p
 r:∃p,RD W q a bs c p
 bc:W.heap[w.heap.size]? =some (.cells cs 30 (0,0))
 b0:W.heap[w.heap.size+1]? =some (zg #[ze zd 0,za none 0 0] 80 (0,0))
 b1:W.heap[w.heap.size+1+1]? =some (zg #[ze zd ab,ov] 80 (0,0))
 io:za3 w (some ⟨go,0,none⟩) O/\go≠q
 iv:za3 w (some ⟨gv,0,none⟩) V/\gv≠q
 o:W.ownsRow (w.heap.size+3) 2 1 ov L.length (L.map (ze zd))
section
variable {w W W' w4:zi} {q:Nat} {a:Option Addr} {bs:List Int} {c:Nat} {cs:Array Value} {go gv:Nat} {O V:List Int} {ab:Int} {ov dP:Value} {L:List Int}
theorem RO.lt(h:RO w W q a bs c cs go gv O V ab ov L):q<w.heap.size:=by
 obtain⟨p,hr⟩:=h.r0;exact za2 hr.1
theorem RO.size(h:RO w W q a bs c cs go gv O V ab ov L):w.heap.size+3<=W.heap.size:=za2 h.b1
theorem RO.ord(h:RO w W q a bs c cs go gv O V ab ov L):za3 W (some ⟨go,0,none⟩) O:=zg0 h.io.1 h.gr h.io.2
theorem RO.vhc(h:RO w W q a bs c cs go gv O V ab ov L):za3 W (some ⟨gv,0,none⟩) V:=zg0 h.iv.1 h.gr h.iv.2
theorem RO.read{p:Nat}(h:RO w W q a bs c cs go gv O V ab ov L)(hr:RD W' q a bs c p)(hg:W.grownBy W' (some q)):RO w W' q a bs c cs go gv O V ab ov L:=by
 have hl:=h.lt;exact⟨zb4 h.gr hg,h.r0,⟨p,hr⟩,za6 hg h.bc (fun e=>by injection e with e;omega),za6 hg h.b0 (fun e=>by injection e with e;omega),za6 hg h.b1 (fun e=>by injection e with e;omega),h.io,h.iv,h.o.kept hg (.inr fun e=>by have:=(h.o.lt q e).1;omega)⟩
theorem RO.below(h:RO w W q a bs c cs go gv O V ab ov L)(hb:Below W.heap.size W W'):RO w W' q a bs c cs go gv O V ab ov L:=by
 obtain⟨p,hr⟩:=h.r;exact⟨zp9 h.gr hb,h.r0,⟨p,hr.below hb⟩,za0 hb (za2 h.bc) h.bc,za0 hb (za2 h.b0) h.b0,za0 hb (za2 h.b1) h.b1,h.io,h.iv,zb9 h.o hb⟩
theorem RO.put{x:Int}{ob:Obj}(h:RO w W q a bs c cs go gv O V ab ov L)(ae:w4.ownsRow (w.heap.size+3) 2 1 dP (L.length+1) ((L++[x]).map (ze zd)))(hg:(W.alloc ob).grownBy w4 ov.ownBlock):RO w (w4.setCell ⟨w.heap.size+1+1,1,none⟩ dP) q a bs c cs go gv O V ab dP (L++[x]):=by
 have ah:∀b,ov.ownBlock=some b->w.heap.size+3<=b:=fun b e=>(h.o.lt b e).1;have ha:RO w (W.alloc ob) q a bs c cs go gv O V ab ov L:=h.below (zP _);obtain⟨p,hr⟩:=ha.r;obtain⟨p0,cO⟩:=h.r0;have hs:=zb3 w4 (w.heap.size+1+1) 1 dP;have bh:∀b,some (w.heap.size+1+1)=some b->w.heap.size<=b:=fun b e=>by injection e with e;omega
 have ld:∀b,ov.ownBlock=some b->w.heap.size<=b:=fun b e=>by have:=ah b e;omega
 refine⟨zd2 (zd2 ha.gr hg ld) hs bh,h.r0,⟨p,RD.kept2 cO (RD.kept2 cO hr hg ld) hs bh⟩,za6 hs (za6 hg ha.bc (fun e=>by have:=ah _ e.symm;omega)) (fun e=>by injection e with e;omega),za6 hs (za6 hg ha.b0 (fun e=>by have:=ah _ e.symm;omega)) (fun e=>by injection e with e;omega),?_,h.io,h.iv,?_⟩
 ·have:=ze1 (i:=1) dP (za6 hg ha.b1 (fun e=>by have:=ah _ e.symm;omega))
  simpa using this
 ·rw[xY]
  exact zg1 ae (by omega)
theorem RO.setVeh(x:Int)(h:RO w W q a bs c cs go gv O V ab ov L):RO w (W.setCell ⟨w.heap.size+1+1,0,none⟩ (ze zd x)) q a bs c cs go gv O V x ov L:=by
 obtain⟨p,hr⟩:=h.r;obtain⟨p0,cO⟩:=h.r0;have hs:=zb3 W (w.heap.size+1+1) 0 (ze zd x);have bh:∀b,some (w.heap.size+1+1)=some b->w.heap.size<=b:=fun b e=>by injection e with e;omega
 refine⟨zd2 h.gr hs bh,h.r0,⟨p,RD.kept2 cO hr hs bh⟩,za6 hs h.bc (fun e=>by injection e with e;omega),za6 hs h.b0 (fun e=>by injection e with e;omega),?_,h.io,h.iv,zg1 h.o (by omega)⟩;have:=ze1 (i:=0) (ze zd x) h.b1;simpa using this
end
theorem RO.keepV{w W:zi}{q:Nat}{a:Option Addr}{bs:List Int}{c:Nat}{n:Int}{g zl cg go ko co gv kv cv:Nat}{fi:Int}{O V:List Int}{ab:Int}{ov:Value}{L:List Int}(h:RO w W q a bs c #[ze zd n,za (some ⟨g,0,none⟩) zl cg,za (some ⟨go,0,none⟩) ko co,za (some ⟨gv,0,none⟩) kv cv,ze zd fi] go gv O V ab ov L)(hV:V.length=kv*5){f:Nat->Int}(hf:∀y,V.getD (y*5) 0=f y):W.cell? ⟨w.heap.size,3,none⟩=some (za (some ⟨gv,0,none⟩) kv cv)/\∀y:Nat,y<kv->W.cell? ⟨gv,y*5,none⟩=some (ze zd (f y)):=by
 have h3:=zU _ _ 3 _ _ _ h.bc;simp at h3;refine⟨h3,fun y hy=> ?_⟩;rw[<-hf y];obtain⟨_,_,e,hc⟩:=h.vhc (y*5) (by omega);simp at e;obtain⟨rfl,rfl⟩:=e;simpa using hc
theorem RO.keepO{w W:zi}{q:Nat}{a:Option Addr}{bs:List Int}{c:Nat}{n:Int}{g zl cg go ko co gv kv cv:Nat}{fi:Int}{O V:List Int}{ab:Int}{ov:Value}{L:List Int}(h:RO w W q a bs c #[ze zd n,za (some ⟨g,0,none⟩) zl cg,za (some ⟨go,0,none⟩) ko co,za (some ⟨gv,0,none⟩) kv cv,ze zd fi] go gv O V ab ov L)(hO:O.length=ko*6){f:Nat->Int}(hf:∀y,O.getD (y*6) 0=f y):W.cell? ⟨w.heap.size,2,none⟩=some (za (some ⟨go,0,none⟩) ko co)/\∀y:Nat,y<ko->W.cell? ⟨go,y*6,none⟩=some (ze zd (f y)):=by
 have h3:=zU _ _ 2 _ _ _ h.bc;simp at h3;refine⟨h3,fun y hy=> ?_⟩;rw[<-hf y];obtain⟨_,_,e,hc⟩:=h.ord (y*6) (by omega);simp at e;obtain⟨rfl,rfl⟩:=e;simpa using hc
def zN1(P:Int->Prop)(w:zi)(q:Nat)(a:Option Addr)(bs:List Int)(c:Nat)(e:Ending)(w':zi):Prop:=∃(ab:Int) (sl:Value) (L:List Int),e=.returned (.agg #[ze zd ab,sl])/\L.length<=4/\w.grownBy w' (some q)/\(∃p,RD w' q a bs c p)/\w'.ownsRow w.heap.size 2 1 sl L.length (L.map (ze zd))/\∀x∈L,P x
theorem yp7:(Tryz.prog.info? 80).map (·.size)=some 2:=by kernel_rfl
theorem RO.done{w W:zi}{q:Nat}{a:Option Addr}{bs:List Int}{c:Nat}{cs:Array Value}{go gv:Nat}{O V:List Int}{ab:Int}{ov:Value}{L:List Int}{P:Int->Prop}(h:RO w W q a bs c cs go gv O V ab ov L)(hL:L.length<=4)(Cy:∀x∈L,P x)(A:Act)(hp:A.tmps.getD 4 undef=.pointer (some ⟨w.heap.size+1,0,none⟩))(uu:A.defers=[]):
 bodyPost Tryz.prog Tryz.f74 (zN1 P w q a bs c) Exit.ret A ((W.setCell ⟨w.heap.size+1,0,none⟩ (ze zd ab)).setCell ⟨w.heap.size+1,1,none⟩ ov):=by
 obtain⟨p,hr⟩:=h.r;obtain⟨p0,cO⟩:=h.r0;have bh:∀b,some (w.heap.size+1)=some b->w.heap.size<=b:=fun b e=>by injection e with e;omega
 have hs:W.grownBy ((W.setCell ⟨w.heap.size+1,0,none⟩ (ze zd ab)).setCell ⟨w.heap.size+1,1,none⟩ ov) (some (w.heap.size+1)):=zb4 (zb3 _ _ _ _) (zb3 _ _ _ _);have aM:((W.setCell ⟨w.heap.size+1,0,none⟩ (ze zd ab)).setCell ⟨w.heap.size+1,1,none⟩ ov).heap[w.heap.size+1]? =some (zg #[ze zd ab,ov] 80 (0,0)):=by
  have:=ze1 (i:=1) ov (ze1 (i:=0) (ze zd ab) h.b0);simpa using this
 refine xe (v:=.agg #[ze zd ab,ov]) (results_cell_row Tryz.results74 _ _ (w.heap.size+1) 80 _ (0,0) _ hp aM Tryz.underlying80 rfl yp7) uu
  ⟨ab,ov,L,rfl,hL,zd2 h.gr hs bh,⟨p,RD.kept2 cO hr hs bh⟩,zb5 (zg1 (zg1 h.o (by omega)) (by omega)) (by omega),Cy⟩
set_option maxRecDepth 10000 in
theorem zK8(P:Int->Prop)(q p c:Nat)(n fi:Int)(g zl cg go ko co gv kv cv:Nat)(O V:List Int)(a:Option Addr)(bs:List Int)(w:zi)(h:RD w q a bs c p)(hO:za3 w (some ⟨go,0,none⟩) O)(hV:za3 w (some ⟨gv,0,none⟩) V)(lE:go≠q)(vI:gv≠q)(an:O.length=ko*6)(au:V.length=kv*5)(eA:1<=ko)(cN:ko<=12)(jK:1<=kv)(sq:kv<=5)(nu:∀y,y<ko->P (O.getD (y*6) 0))(BT:∀x:Int,-9223372036854775808<=x->x<9223372036854775808->P x):
 Calls Tryz.prog 74 #[.pointer (some ⟨q,0,none⟩),.agg #[ze zd n,za (some ⟨g,0,none⟩) zl cg,za (some ⟨go,0,none⟩) ko co,za (some ⟨gv,0,none⟩) kv cv,ze zd fi]] w (zN1 P w q a bs c):=by
 have Df:Hid _:=nu;have wU:Hid _:=BT;clear nu BT;have H:=za4 h;have aF:Hid _:=an;have aE:Hid _:=au;have D0:Hid (RO w (((w.alloc (zg #[ze zd n,za (some ⟨g,0,none⟩) zl cg,za (some ⟨go,0,none⟩) ko co,za (some ⟨gv,0,none⟩) kv cv,ze zd fi] 30)).alloc (zg #[ze zd 0,za none 0 0] 80)).alloc (zg #[ze zd 0,za none 0 0] 80)) q a bs c #[ze zd n,za (some ⟨g,0,none⟩) zl cg,za (some ⟨go,0,none⟩) ko co,za (some ⟨gv,0,none⟩) kv cv,ze zd fi] go gv O V 0 (za none 0 0) []):=by
  have b1:Below w.heap.size w (((w.alloc (zg #[ze zd n,za (some ⟨g,0,none⟩) zl cg,za (some ⟨go,0,none⟩) ko co,za (some ⟨gv,0,none⟩) kv cv,ze zd fi] 30)).alloc (zg #[ze zd 0,za none 0 0] 80)).alloc (zg #[ze zd 0,za none 0 0] 80)):=((zP _).alloc (by simp) _).alloc (by simp;omega) _;exact⟨zp9 ⟨rfl,rfl,rfl,zT _,fun _ _ _=>rfl⟩ b1,⟨p,h⟩,⟨p,h.below b1⟩,zL8 _ _ _ _,z90 _ _ _ _,z01 _ _ _ _,⟨hO,lE⟩,⟨hV,vI⟩,xZ _ _ _ _⟩
 clear h hO hV lE vI an au;obtain⟨fv,eP⟩:∃f:Nat->Int,Hid (∀y,V.getD (y*5) 0=f y):=⟨fun y=>V.getD (y*5) 0,fun _=>rfl⟩;obtain⟨fo,DO⟩:∃f:Nat->Int,Hid (∀y,O.getD (y*6) 0=f y):=⟨fun y=>O.getD (y*6) 0,fun _=>rfl⟩;have ik:(0:Int)<(ko:Int):=by omega
 have PT:(0:Int)<(kv:Int):=by omega
 go_enter Tryz.func74,Tryz.ntmps74;go_upto_region 2 with fail;generalize((w.alloc _).alloc _).alloc _=W0 at*;obtain⟨p0,cO⟩:=D0.X.r;have R0:=za4 cO;clear cO;have k3:=(D0.X.keepV aE.X eP.X).1;have kS:=(D0.X.below (y5 _ _).drew).keepV aE.X eP.X;obtain⟨m0,m1⟩:=za1 D0.X.b1;have mf:=fun i=>yZ _ _ i _ _ D0.X.b1
 go_wp2_with fail
 go_region_held3 (fun W=>W.cell? ⟨w.heap.size,3,none⟩=some (za (some ⟨gv,0,none⟩) kv cv)/\∀y:Nat,y<kv->W.cell? ⟨gv,y*5,none⟩=some (ze zd (fv y))) (first|with_reducible exact kS|with_reducible exact kT|go_keep) ((first
  |(go_at_call 31
    with_reducible refine(zc5 q p0 c kv a bs W0.drew (R0.X.below (y5 _ _).drew) (by omega)).mono ?_
    rintro e w1 ⟨y,p1,rfl,bX,cD,hr,hg⟩;obtain⟨y,rfl⟩:=xp bX;have pI:y<kv:=by omega
    have iG:(y:Int)<(kv:Int):=by omega
    have D1:Hid _:=(D0.X.below (y5 _ _).drew).read hr hg;have kS:=D1.X.keepV aE.X eP.X;have kT:=(D1.X.setVeh (fv y)).keepV aE.X eP.X;obtain⟨n0,n1⟩:=za1 D1.X.b1;have nf:=fun i=>yZ _ _ i _ _ D1.X.b1;clear hr hg bX cD)))
 have D2:Hid (RO w (w1.setCell ⟨w.heap.size+1+1,0,none⟩ (ze zd (fv y))) q a bs c #[ze zd n,za (some ⟨g,0,none⟩) zl cg,za (some ⟨go,0,none⟩) ko co,za (some ⟨gv,0,none⟩) kv cv,ze zd fi] go gv O V (fv y) (za none 0 0) []):=D1.X.setVeh _;obtain⟨v0,sx⟩:=nmd (fv y);rw[sx.X]at D2⊢;clear D0 R0 D1 k3 kS kT m0 m1 mf n0 n1 nf pI iG;generalize w1.setCell ⟨w.heap.size+1+1,0,none⟩ _=W2 at*;obtain⟨p2,ix⟩:=D2.X.r
 go_wp2_with fail
 refine(zc5 q p2 c 4 a bs _ ix (by omega)).mono ?_;rintro e w3 ⟨i0,p3,rfl,bX,cD,hr,hg⟩;obtain⟨i0,rfl⟩:=xp bX;have D3:Hid _:=D2.X.read hr hg;have sU:i0<=3:=by omega
 clear hr hg bX cD D2 ix
 go_wp2_with fail
 go_loopw[6] (fun t wr=>∃(i:Nat) (ov:Value) (L:List Int),L.length+i<=3/\(∀x∈L,P x)/\t=ze zd i/\RO w wr q a bs c #[ze zd n,za (some ⟨g,0,none⟩) zl cg,za (some ⟨go,0,none⟩) ko co,za (some ⟨gv,0,none⟩) kv cv,ze zd fi] go gv O V v0 ov L) (fun t _=>(intOf t).toNat)
 case atStart=>exact⟨i0,_,[],by simpa using sU,(fun x hx=>by cases hx),rfl,D3.X⟩
 case round=>
  clear D3;obtain⟨i,ov,L,hL,Cy,rfl,hd⟩:=hrel;have bm:Hid _:=Cy;clear Cy;obtain⟨ao,wX,e⟩:=zp0 hd.o;subst e;have D4:Hid _:=hd;obtain⟨p4,lw⟩:=hd.r;have R4:=za4 lw;clear hd lw;obtain⟨m,HM⟩:=nmd L.length;rw[HM.X]at hL D4;have k2:=(D4.X.keepO aF.X DO.X).1;by_cases hi:0<i
  ·have kS:=(D4.X.below (y5 _ _).drew).keepO aF.X DO.X
   have oC:(0:Int)<(i:Int):=by omega
   go_wp2_with fail
   go_region_held3 (fun W=>W.cell? ⟨w.heap.size,2,none⟩=some (za (some ⟨go,0,none⟩) ko co)/\∀y:Nat,y<ko->W.cell? ⟨go,y*6,none⟩=some (ze zd (fo y))) (first|with_reducible exact kS|with_reducible exact kT|go_keep) ((first
    |(go_at_call 31
      with_reducible refine(zc5 q p4 c ko a bs wr.drew (R4.X.below (y5 _ _).drew) (by omega)).mono ?_
      rintro e w5 ⟨y,p5,rfl,bX,cD,hr,hg⟩;obtain⟨y,rfl⟩:=xp bX;have pI:y<ko:=by omega
      have iG:(y:Int)<(ko:Int):=by omega
      have D5:Hid _:=(D4.X.below (y5 _ _).drew).read hr hg;have R5:=za4 hr;have kS:=D5.X.keepO aF.X DO.X;clear hr hg bX cD)))
   obtain⟨id,bH⟩:=nmd (fo y);rw[bH.X];have Ek:Hid (P id):=by
    show P id;rw[<-bH.X,<-DO.X y];exact Df.X y pI
   clear D4 R4 k2 kS pI iG;go_upto_region 8 with fail;go_cut [54]from 26 to 60 (fun LD wx=>∃b:Bool,LD=.bool b/\RO w wx q a bs c #[ze zd n,za (some ⟨g,0,none⟩) zl cg,za (some ⟨go,0,none⟩) ko co,za (some ⟨gv,0,none⟩) kv cv,ze zd fi] go gv O V v0 (za ao m wX) L)
   case first=>
    obtain⟨m0,m1⟩:=za1 D5.X.b1;have M_:Hid (za3 w5 ao L):=by
     obtain⟨a',c',e,_,hi⟩:=zr8 D5.X.o;have e2:ao=a':=by injection e
     rw[e2];exact hi
    go_wp2_with fail
    refine(zx0 ao m wX id L w5 M_.X (by rw[HM.X];exact zT _) (by omega)).mono ?_;rintro e w6 ⟨rfl,Ro⟩;subst w6;cases z02 L m id
    ·go_wp2_with fail
     go_meet;exact⟨_,rfl,D5.X⟩
    ·go_wp2_with fail
     refine(zk6 q p5 c 12 a bs w5 R5.X (by omega) (by omega)).mono ?_;rintro e w6 ⟨v6,p6,rfl,hr,hg⟩;have D6:Hid _:=D5.X.read hr hg;clear hr hg
     go_wp2_with fail
     go_meet;exact⟨_,rfl,D6.X⟩
   case rest=>
    clear D5 R5;obtain⟨b,rfl,hd⟩:=hcut;have D7:Hid _:=hd;clear hd;cases b
    ·go_wp2
     go_roundw
     case rel=>exact⟨i - 1,_,L,by rw[HM.X];omega,bm.X,by first|rfl|go_num,D7.X⟩
     case measure=>simp[intOf];omega
    ·obtain⟨m0,m1⟩:=za1 D7.X.b1
     have uT:Hid (wc.ownsRow (w.heap.size+3) 2 1 (za ao m wX) m (L.map (ze zd))):=by have:=D7.X.o;rw[HM.X]at this;exact this
     go_wp2_with(
      at_builtin;refine zc9 _ rfl _ _ rfl (w.heap.size+3) _ m L rfl (uT.X.alloc _) wc.heap.size 0 1 1 [id] rfl rfl (ze2 wc id) (by omega) (by omega) (xj D7.X.size (by simp)) ?_;intro v' w8 ae hg _ aX;obtain⟨g8,c8,e8,_⟩:=zo1 ae;subst e8;have D8:Hid _:=D7.X.put (by rw[HM.X];exact ae) hg;have h8:=za6 hg (za0 ((y5 wc.heap.size wc).alloc (zT _) _) (za2 D7.X.b1) D7.X.b1) (fun e=>by have:=(D7.X.o.lt _ e.symm).1;omega);obtain⟨q0,q1⟩:=za1 h8;have qf:=fun i=>yZ _ _ i _ _ h8;clear ae hg aX h8)
     go_roundw
     case rel=>exact⟨i - 1,_,L++[id],by rw[xY,HM.X];simp;omega,(fun x hx=>(yj.1 hx).elim (bm.X x) (fun h=>by rw[show x=id by simpa using h];exact Ek.X)),by first|rfl|go_num,D8.X⟩
     case measure=>simp[intOf];omega
  ·have jl:i=0:=by omega
   subst jl;clear k2
   go_wp2_with fail
   refine(zc5 q p4 c 40 a bs _ R4.X (by omega)).mono ?_;rintro e w6 ⟨y6,p6,rfl,bX,cD,hr,hg⟩;obtain⟨y6,rfl⟩:=xp bX;have D6:Hid _:=D4.X.read hr hg;have R6:=za4 hr;clear hr hg D4 R4 bX cD hi;by_cases h39:y6=39
   ·subst h39
    go_wp2_with fail
    refine(zn5 q p6 c 1 30 a bs w6 R6.X (by omega) (by omega) (by omega) (by omega)).mono ?_;rintro e w7 ⟨f7,p7,rfl,-,-,hr,hg⟩;have D7:Hid _:=D6.X.read hr hg;clear hr hg D6 R6;obtain⟨m0,m1⟩:=za1 D7.X.b1;have mf:=fun i=>yZ _ _ i _ _ D7.X.b1;have D8:Hid _:=D7.X.setVeh f7;clear D7;go_upto_region 15 with fail;clear m0 m1 mf;generalize w7.setCell ⟨w.heap.size+1+1,0,none⟩ _=W8 at*;obtain⟨m0,m1⟩:=za1 D8.X.b1;obtain⟨b0,b1⟩:=za1 D8.X.b0;have bf:=fun i=>yZ _ _ i _ _ D8.X.b0;go_wp2;exact D8.X.done (by rw[HM.X];omega) bm.X _ (by rfl) (by rfl)
   ·by_cases h38:y6=38
    ·subst h38
     clear h39;obtain⟨m0,m1⟩:=za1 D6.X.b1;have Ip:Hid (w.heap.size+1+1<w6.heap.size):=by have:=D6.X.size;show _<_;omega
     go_wp2_with fail
     go_region_law ((first
      |(refine zd7 rfl (.tmp 71) (.tmp 74) rfl (w.heap.size+3) (za ao m wX) L m rfl (uT.X.alloc _) w7.heap.size 0 1 1 [f7] rfl rfl (ze2 w7 f7) (by omega) (by omega) (xj D7.X.size (by simp)) ?_
        intro v' w8 ae hg aX;obtain⟨g8,c8,e8,_⟩:=zo1 ae;subst e8;have D8:Hid _:=D7.X.put (by rw[HM.X];exact ae) hg;have h8:=za6 hg (za0 ((y5 w7.heap.size w7).alloc (zT _) _) (za2 D7.X.b1) D7.X.b1) (fun e=>by have:=(D7.X.o.lt _ e.symm).1;omega);obtain⟨q0,q1⟩:=za1 h8;have qf:=fun i=>yZ _ _ i _ _ h8;clear ae hg aX h8)
      |(go_simp
        go_at_call 30
        with_reducible refine(zn5 q p6 c 1 6 a bs w6.drew (R6.X.below (y5 _ _).drew) (by omega) (by omega) (by omega) (by omega)).mono ?_
        rintro e w7 ⟨f7,p7,rfl,oE,rL,hr,hg⟩;have NX:Hid (P f7):=wU.X f7 oE rL;clear oE rL;have D7:Hid _:=(D6.X.below (y5 _ _).drew).read hr hg;have uT:Hid (w7.ownsRow (w.heap.size+3) 2 1 (za ao m wX) m (L.map (ze zd))):=by have:=D7.X.o;rw[HM.X]at this;exact this
        obtain⟨n0,n1⟩:=za1 D7.X.b1;have nl:w.heap.size+1+1<w7.heap.size:=by have:=D7.X.size;omega
        have nn:¬w.heap.size+1+1=w7.heap.size:=by omega
        clear hr hg;dsimp only)))
     all_goals
      clear D6 R6 m0 m1 D7 uT n0 n1 nl nn q0 q1 qf;generalize w8.setCell ⟨w.heap.size+1+1,1,none⟩ _=W8 at*;obtain⟨m0,m1⟩:=za1 D8.X.b1;obtain⟨b0,b1⟩:=za1 D8.X.b0;have bf:=fun i=>yZ _ _ i _ _ D8.X.b0;go_wp2;exact D8.X.done (by rw[xY,HM.X];simp;omega) (fun x hx=>(yj.1 hx).elim (bm.X x) (fun h=>by rw[show x=f7 by simpa using h];exact NX.X)) _ (by rfl) (by rfl)
    ·have ME:((y6:Int)==39)=false:=by simp;omega
     have PU:((y6:Int)==38)=false:=by simp;omega
     clear h39 h38 R6;obtain⟨m0,m1⟩:=za1 D6.X.b1;obtain⟨b0,b1⟩:=za1 D6.X.b0;have bf:=fun i=>yZ _ _ i _ _ D6.X.b0;go_wp2;exact D6.X.done (by rw[HM.X];omega) bm.X _ (by rfl) (by rfl)
