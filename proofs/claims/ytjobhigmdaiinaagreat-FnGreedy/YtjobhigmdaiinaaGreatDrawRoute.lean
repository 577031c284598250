import Derived.Test.YtjobhigmdaiinaaGreatPack1
import Derived.Test.YtjobhigmdaiinaaGreatPack4
import Derived.Test.YtjobhigmdaiinaaGreatPack11
import Derived.Deep.CutRange
namespace Go.Proofs.YtjobhigmdaiinaaGreat
open Go.RowKit
structure RO(w W:World)(q:Nat)(a:Option Addr)(bs:List Int)(c:Nat)(cs:Array Value)(go gv:Nat)(O V:List Int)(veh:Int)(ov:Value)(L:List Int):Prop where
 gr:w.grownBy W (some q)
 r0:∃p,RD w q a bs c p
 r:∃p,RD W q a bs c p
 bc:W.heap[w.heap.size]? =some (.cells cs 30 (0,0))
 b0:W.heap[w.heap.size+1]? =some (.cells #[.int .i64 0,.slice none 0 0] 43 (0,0))
 b1:W.heap[w.heap.size+1+1]? =some (.cells #[.int .i64 veh,ov] 43 (0,0))
 io:za0 w (some ⟨go,0,none⟩) O/\go≠q
 iv:za0 w (some ⟨gv,0,none⟩) V/\gv≠q
 o:W.ownsRow (w.heap.size+3) 2 1 ov L.length (L.map (Value.int .i64))
section
variable {w W W' w4:World} {q:Nat} {a:Option Addr} {bs:List Int} {c:Nat} {cs:Array Value} {go gv:Nat} {O V:List Int} {veh:Int} {ov ov':Value} {L:List Int}
theorem RO.lt(h:RO w W q a bs c cs go gv O V veh ov L):q<w.heap.size:=by
 obtain⟨p,hr⟩:=h.r0;exact za3 hr.1
theorem RO.size(h:RO w W q a bs c cs go gv O V veh ov L):w.heap.size+3<=W.heap.size:=za3 h.b1
theorem RO.ord(h:RO w W q a bs c cs go gv O V veh ov L):za0 W (some ⟨go,0,none⟩) O:=zd1 h.io.1 h.gr h.io.2
theorem RO.vhc(h:RO w W q a bs c cs go gv O V veh ov L):za0 W (some ⟨gv,0,none⟩) V:=zd1 h.iv.1 h.gr h.iv.2
theorem RO.read{p:Nat}(h:RO w W q a bs c cs go gv O V veh ov L)(hr:RD W' q a bs c p)(hg:W.grownBy W' (some q)):RO w W' q a bs c cs go gv O V veh ov L:=by
 have hl:=h.lt;exact⟨zb0 h.gr hg,h.r0,⟨p,hr⟩,za5 hg h.bc (fun e=>by injection e with e;omega),za5 hg h.b0 (fun e=>by injection e with e;omega),za5 hg h.b1 (fun e=>by injection e with e;omega),h.io,h.iv,h.o.kept hg (.inr fun e=>by have:=(h.o.lt q e).1;omega)⟩
theorem RO.below(h:RO w W q a bs c cs go gv O V veh ov L)(hb:Below W.heap.size W W'):RO w W' q a bs c cs go gv O V veh ov L:=by
 obtain⟨p,hr⟩:=h.r;exact⟨zl5 h.gr hb,h.r0,⟨p,hr.below hb⟩,za1 hb (za3 h.bc) h.bc,za1 hb (za3 h.b0) h.b0,za1 hb (za3 h.b1) h.b1,h.io,h.iv,zc2 h.o hb⟩
theorem RO.put{x:Int}{ob:Obj}(h:RO w W q a bs c cs go gv O V veh ov L)(hown:w4.ownsRow (w.heap.size+3) 2 1 ov' (L.length+1) ((L++[x]).map (Value.int .i64)))(hg:(W.alloc ob).grownBy w4 ov.ownBlock):RO w (w4.setCell ⟨w.heap.size+1+1,1,none⟩ ov') q a bs c cs go gv O V veh ov' (L++[x]):=by
 have hlt:∀b,ov.ownBlock=some b->w.heap.size+3<=b:=fun b e=>(h.o.lt b e).1;have ha:RO w (W.alloc ob) q a bs c cs go gv O V veh ov L:=h.below ((Below.refl _ _).alloc (Nat.le_refl _) _);obtain⟨p,hr⟩:=ha.r;obtain⟨p0,hr0⟩:=h.r0;have hs:=za9 w4 (w.heap.size+1+1) 1 ov';have hsl:∀b,some (w.heap.size+1+1)=some b->w.heap.size<=b:=fun b e=>by injection e with e;omega
 have hrw:∀b,ov.ownBlock=some b->w.heap.size<=b:=fun b e=>by have:=hlt b e;omega
 refine⟨zc5 (zc5 ha.gr hg hrw) hs hsl,h.r0,⟨p,RD.kept2 hr0 (RD.kept2 hr0 hr hg hrw) hs hsl⟩,za5 hs (za5 hg ha.bc (fun e=>by have:=hlt _ e.symm;omega)) (fun e=>by injection e with e;omega),za5 hs (za5 hg ha.b0 (fun e=>by have:=hlt _ e.symm;omega)) (fun e=>by injection e with e;omega),?_,h.io,h.iv,?_⟩
 ·have:=zc6 (i:=1) ov' (za5 hg ha.b1 (fun e=>by have:=hlt _ e.symm;omega))
  simpa using this
 ·rw[List.length_append]
  exact ze5 hown (by omega)
theorem RO.setVeh(x:Int)(h:RO w W q a bs c cs go gv O V veh ov L):RO w (W.setCell ⟨w.heap.size+1+1,0,none⟩ (.int .i64 x)) q a bs c cs go gv O V x ov L:=by
 obtain⟨p,hr⟩:=h.r;obtain⟨p0,hr0⟩:=h.r0;have hs:=za9 W (w.heap.size+1+1) 0 (.int .i64 x);have hsl:∀b,some (w.heap.size+1+1)=some b->w.heap.size<=b:=fun b e=>by injection e with e;omega
 refine⟨zc5 h.gr hs hsl,h.r0,⟨p,RD.kept2 hr0 hr hs hsl⟩,za5 hs h.bc (fun e=>by injection e with e;omega),za5 hs h.b0 (fun e=>by injection e with e;omega),?_,h.io,h.iv,ze5 h.o (by omega)⟩;have:=zc6 (i:=0) (.int .i64 x) h.b1;simpa using this
end
theorem RO.keepV{w W:World}{q:Nat}{a:Option Addr}{bs:List Int}{c:Nat}{n:Int}{g zl cg go ko co gv kv cv:Nat}{fi:Int}{O V:List Int}{veh:Int}{ov:Value}{L:List Int}(h:RO w W q a bs c #[.int .i64 n,.slice (some ⟨g,0,none⟩) zl cg,.slice (some ⟨go,0,none⟩) ko co,.slice (some ⟨gv,0,none⟩) kv cv,.int .i64 fi] go gv O V veh ov L)(hV:V.length=kv*5){f:Nat->Int}(hf:∀y,V.getD (y*5) 0=f y):W.cell? ⟨w.heap.size,3,none⟩=some (.slice (some ⟨gv,0,none⟩) kv cv)/\∀y:Nat,y<kv->W.cell? ⟨gv,y*5,none⟩=some (.int .i64 (f y)):=by
 have h3:=cell_of_row _ _ 3 _ _ _ h.bc;simp at h3;refine⟨h3,fun y hy=> ?_⟩;rw[<-hf y];obtain⟨_,_,e,hc⟩:=h.vhc (y*5) (by omega);simp at e;obtain⟨rfl,rfl⟩:=e;simpa using hc
theorem RO.keepO{w W:World}{q:Nat}{a:Option Addr}{bs:List Int}{c:Nat}{n:Int}{g zl cg go ko co gv kv cv:Nat}{fi:Int}{O V:List Int}{veh:Int}{ov:Value}{L:List Int}(h:RO w W q a bs c #[.int .i64 n,.slice (some ⟨g,0,none⟩) zl cg,.slice (some ⟨go,0,none⟩) ko co,.slice (some ⟨gv,0,none⟩) kv cv,.int .i64 fi] go gv O V veh ov L)(hO:O.length=ko*6){f:Nat->Int}(hf:∀y,O.getD (y*6) 0=f y):W.cell? ⟨w.heap.size,2,none⟩=some (.slice (some ⟨go,0,none⟩) ko co)/\∀y:Nat,y<ko->W.cell? ⟨go,y*6,none⟩=some (.int .i64 (f y)):=by
 have h3:=cell_of_row _ _ 2 _ _ _ h.bc;simp at h3;refine⟨h3,fun y hy=> ?_⟩;rw[<-hf y];obtain⟨_,_,e,hc⟩:=h.ord (y*6) (by omega);simp at e;obtain⟨rfl,rfl⟩:=e;simpa using hc
def zA6(P:Int->Prop)(w:World)(q:Nat)(a:Option Addr)(bs:List Int)(c:Nat)(e:Ending)(w':World):Prop:=∃(veh:Int) (sl:Value) (L:List Int),e=.returned (.agg #[.int .i64 veh,sl])/\L.length<=4/\w.grownBy w' (some q)/\(∃p,RD w' q a bs c p)/\w'.ownsRow w.heap.size 2 1 sl L.length (L.map (Value.int .i64))/\∀x∈L,P x
theorem zX0:(Tryz.prog.info? 43).map (·.size)=some 2:=by kernel_rfl
theorem RO.done{w W:World}{q:Nat}{a:Option Addr}{bs:List Int}{c:Nat}{cs:Array Value}{go gv:Nat}{O V:List Int}{veh:Int}{ov:Value}{L:List Int}{P:Int->Prop}(h:RO w W q a bs c cs go gv O V veh ov L)(hL:L.length<=4)(hPL:∀x∈L,P x)(A:Act)(hp:A.tmps.getD 4 undef=.pointer (some ⟨w.heap.size+1,0,none⟩))(hds:A.defers=[]):
 bodyPost Tryz.prog Tryz.f85 (zA6 P w q a bs c) Exit.ret A ((W.setCell ⟨w.heap.size+1,0,none⟩ (.int .i64 veh)).setCell ⟨w.heap.size+1,1,none⟩ ov):=by
 obtain⟨p,hr⟩:=h.r;obtain⟨p0,hr0⟩:=h.r0;have hsl:∀b,some (w.heap.size+1)=some b->w.heap.size<=b:=fun b e=>by injection e with e;omega
 have hs:W.grownBy ((W.setCell ⟨w.heap.size+1,0,none⟩ (.int .i64 veh)).setCell ⟨w.heap.size+1,1,none⟩ ov) (some (w.heap.size+1)):=zb0 (za9 _ _ _ _) (za9 _ _ _ _);have hrow:((W.setCell ⟨w.heap.size+1,0,none⟩ (.int .i64 veh)).setCell ⟨w.heap.size+1,1,none⟩ ov).heap[w.heap.size+1]? =some (.cells #[.int .i64 veh,ov] 43 (0,0)):=by
  have:=zc6 (i:=1) ov (zc6 (i:=0) (.int .i64 veh) h.b0);simpa using this
 refine bodyPost_ret (v:=.agg #[.int .i64 veh,ov]) (results_cell_row Tryz.results85 _ _ (w.heap.size+1) 43 _ (0,0) _ hp hrow Tryz.underlying43 rfl zX0) hds
  ⟨veh,ov,L,rfl,hL,zc5 h.gr hs hsl,⟨p,RD.kept2 hr0 hr hs hsl⟩,zb7 (ze5 (ze5 h.o (by omega)) (by omega)) (by omega),hPL⟩
set_option maxRecDepth 10000 in
set_option maxHeartbeats 4000000 in
theorem zB5(P:Int->Prop)(q p c:Nat)(n fi:Int)(g zl cg go ko co gv kv cv:Nat)(O V:List Int)(a:Option Addr)(bs:List Int)(w:World)(h:RD w q a bs c p)(hO:za0 w (some ⟨go,0,none⟩) O)(hV:za0 w (some ⟨gv,0,none⟩) V)(hgo:go≠q)(hgv:gv≠q)(hlo:O.length=ko*6)(hlv:V.length=kv*5)(hk1:1<=ko)(hk2:ko<=12)(hv1:1<=kv)(hv2:kv<=5)(hPO:∀y,y<ko->P (O.getD (y*6) 0))(hPN:∀x:Int,-9223372036854775808<=x->x<9223372036854775808->P x):
 Calls Tryz.prog 85 #[.pointer (some ⟨q,0,none⟩),.agg #[.int .i64 n,.slice (some ⟨g,0,none⟩) zl cg,.slice (some ⟨go,0,none⟩) ko co,.slice (some ⟨gv,0,none⟩) kv cv,.int .i64 fi]] w (zA6 P w q a bs c):=by
 have HPO:Hid _:=hPO;have HPN:Hid _:=hPN;clear hPO hPN;have H:Hid (RD w q a bs c p):=h;have HLO:Hid _:=hlo;have HLV:Hid _:=hlv;have D0:Hid (RO w (((w.alloc (.cells #[.int .i64 n,.slice (some ⟨g,0,none⟩) zl cg,.slice (some ⟨go,0,none⟩) ko co,.slice (some ⟨gv,0,none⟩) kv cv,.int .i64 fi] 30)).alloc (.cells #[.int .i64 0,.slice none 0 0] 43)).alloc (.cells #[.int .i64 0,.slice none 0 0] 43)) q a bs c #[.int .i64 n,.slice (some ⟨g,0,none⟩) zl cg,.slice (some ⟨go,0,none⟩) ko co,.slice (some ⟨gv,0,none⟩) kv cv,.int .i64 fi] go gv O V 0 (.slice none 0 0) []):=by
  have b1:Below w.heap.size w (((w.alloc (.cells #[.int .i64 n,.slice (some ⟨g,0,none⟩) zl cg,.slice (some ⟨go,0,none⟩) ko co,.slice (some ⟨gv,0,none⟩) kv cv,.int .i64 fi] 30)).alloc (.cells #[.int .i64 0,.slice none 0 0] 43)).alloc (.cells #[.int .i64 0,.slice none 0 0] 43)):=(((Below.refl _ _).alloc (Nat.le_refl _) _).alloc (by simp) _).alloc (by simp;omega) _;exact⟨zl5 ⟨rfl,rfl,rfl,Nat.le_refl _,fun _ _ _=>rfl⟩ b1,⟨p,h⟩,⟨p,h.below b1⟩,z92 _ _ _ _,zz3 _ _ _ _,zs9 _ _ _ _,⟨hO,hgo⟩,⟨hV,hgv⟩,World.ownsRow_nil _ _ _ _⟩
 clear h hO hV hgo hgv hlo hlv;obtain⟨fv,HFV⟩:∃f:Nat->Int,Hid (∀y,V.getD (y*5) 0=f y):=⟨fun y=>V.getD (y*5) 0,fun _=>rfl⟩;obtain⟨fo,HFO⟩:∃f:Nat->Int,Hid (∀y,O.getD (y*6) 0=f y):=⟨fun y=>O.getD (y*6) 0,fun _=>rfl⟩;have hkI:(0:Int)<(ko:Int):=by omega
 have hvI:(0:Int)<(kv:Int):=by omega
 go_enter Tryz.func85,Tryz.ntmps85;go_upto_region 2 with fail;generalize((w.alloc (.cells #[.int .i64 n,.slice (some ⟨g,0,none⟩) zl cg,.slice (some ⟨go,0,none⟩) ko co,.slice (some ⟨gv,0,none⟩) kv cv,.int .i64 fi] 30)).alloc (.cells #[.int .i64 0,.slice none 0 0] 43)).alloc (.cells #[.int .i64 0,.slice none 0 0] 43)=W0 at*;obtain⟨p0,hr0⟩:=D0.out.r;have R0:Hid (RD W0 q a bs c p0):=hr0;clear hr0;have k3:=(D0.out.keepV HLV.out HFV.out).1;have kS:=(D0.out.below (Below.refl _ _).drew).keepV HLV.out HFV.out;obtain⟨m0,m1⟩:=za2 D0.out.b1;have mf:=fun i=>frozen_of_row _ _ i _ _ D0.out.b1
 go_wp2_with fail
 go_region_held3 (fun W=>W.cell? ⟨w.heap.size,3,none⟩=some (.slice (some ⟨gv,0,none⟩) kv cv)/\∀y:Nat,y<kv->W.cell? ⟨gv,y*5,none⟩=some (.int .i64 (fv y))) (first|with_reducible exact kS|with_reducible exact kT|go_keep) ((first
  |(go_at_call 43
    with_reducible refine(zb1 q p0 c kv a bs W0.drew (R0.out.below (Below.refl _ _).drew) (by omega)).mono ?_
    rintro e w1 ⟨y,p1,rfl,hy0,hy1,hr,hg⟩;obtain⟨y,rfl⟩:=Int.eq_ofNat_of_zero_le hy0;have hyv:y<kv:=by omega
    have hyI:(y:Int)<(kv:Int):=by omega
    have D1:Hid _:=(D0.out.below (Below.refl _ _).drew).read hr hg;have kS:=D1.out.keepV HLV.out HFV.out;have kT:=(D1.out.setVeh (fv y)).keepV HLV.out HFV.out;obtain⟨n0,n1⟩:=za2 D1.out.b1;have nf:=fun i=>frozen_of_row _ _ i _ _ D1.out.b1;clear hr hg hy0 hy1)))
 have D2:Hid (RO w (w1.setCell ⟨w.heap.size+1+1,0,none⟩ (.int .i64 (fv y))) q a bs c #[.int .i64 n,.slice (some ⟨g,0,none⟩) zl cg,.slice (some ⟨go,0,none⟩) ko co,.slice (some ⟨gv,0,none⟩) kv cv,.int .i64 fi] go gv O V (fv y) (.slice none 0 0) []):=D1.out.setVeh _;obtain⟨v0,HV0⟩:=nmd (fv y);rw[HV0.out]at D2⊢;clear D0 R0 D1 k3 kS kT m0 m1 mf n0 n1 nf hyv hyI;generalize w1.setCell ⟨w.heap.size+1+1,0,none⟩ (.int .i64 v0)=W2 at*;obtain⟨p2,hr2⟩:=D2.out.r
 go_wp2_with fail
 refine(zb1 q p2 c 4 a bs _ hr2 (by omega)).mono ?_;rintro e w3 ⟨i0,p3,rfl,hy0,hy1,hr,hg⟩;obtain⟨i0,rfl⟩:=Int.eq_ofNat_of_zero_le hy0;have D3:Hid _:=D2.out.read hr hg;have hi3:i0<=3:=by omega
 clear hr hg hy0 hy1 D2 hr2
 go_wp2_with fail
 go_loopw[6] (fun t wr=>∃(i:Nat) (ov:Value) (L:List Int),L.length+i<=3/\(∀x∈L,P x)/\t=.int .i64 i/\RO w wr q a bs c #[.int .i64 n,.slice (some ⟨g,0,none⟩) zl cg,.slice (some ⟨go,0,none⟩) ko co,.slice (some ⟨gv,0,none⟩) kv cv,.int .i64 fi] go gv O V v0 ov L) (fun t _=>(intOf t).toNat)
 case atStart=>exact⟨i0,_,[],by simpa using hi3,(fun x hx=>by cases hx),rfl,D3.out⟩
 case round=>
  clear D3;obtain⟨i,ov,L,hL,hPL,rfl,hd⟩:=hrel;have HPL:Hid _:=hPL;clear hPL;obtain⟨ao,co2,e⟩:=zi5 hd.o;subst e;have D4:Hid _:=hd;obtain⟨p4,hr4⟩:=hd.r;have R4:Hid (RD wr q a bs c p4):=hr4;clear hd hr4;obtain⟨m,HM⟩:=nmd L.length;rw[HM.out]at hL D4;have k2:=(D4.out.keepO HLO.out HFO.out).1;by_cases hi:0<i
  ·have kS:=(D4.out.below (Below.refl _ _).drew).keepO HLO.out HFO.out
   have hiI:(0:Int)<(i:Int):=by omega
   go_wp2_with fail
   go_region_held3 (fun W=>W.cell? ⟨w.heap.size,2,none⟩=some (.slice (some ⟨go,0,none⟩) ko co)/\∀y:Nat,y<ko->W.cell? ⟨go,y*6,none⟩=some (.int .i64 (fo y))) (first|with_reducible exact kS|with_reducible exact kT|go_keep) ((first
    |(go_at_call 43
      with_reducible refine(zb1 q p4 c ko a bs wr.drew (R4.out.below (Below.refl _ _).drew) (by omega)).mono ?_
      rintro e w5 ⟨y,p5,rfl,hy0,hy1,hr,hg⟩;obtain⟨y,rfl⟩:=Int.eq_ofNat_of_zero_le hy0;have hyv:y<ko:=by omega
      have hyI:(y:Int)<(ko:Int):=by omega
      have D5:Hid _:=(D4.out.below (Below.refl _ _).drew).read hr hg;have R5:Hid (RD w5 q a bs c p5):=hr;have kS:=D5.out.keepO HLO.out HFO.out;clear hr hg hy0 hy1)))
   obtain⟨id,HID⟩:=nmd (fo y);rw[HID.out];have HPI:Hid (P id):=by
    show P id;rw[<-HID.out,<-HFO.out y];exact HPO.out y hyv
   clear D4 R4 k2 kS hyv hyI;go_upto_region 8 with fail;go_cut [54]from 26 to 60 (fun s54 wx=>∃b:Bool,s54=.bool b/\RO w wx q a bs c #[.int .i64 n,.slice (some ⟨g,0,none⟩) zl cg,.slice (some ⟨go,0,none⟩) ko co,.slice (some ⟨gv,0,none⟩) kv cv,.int .i64 fi] go gv O V v0 (.slice ao m co2) L)
   case first=>
    obtain⟨m0,m1⟩:=za2 D5.out.b1;have IL5:Hid (za0 w5 ao L):=by
     obtain⟨a',c',e,_,hi⟩:=zy0 D5.out.o;have e2:ao=a':=by injection e
     rw[e2];exact hi
    go_wp2_with fail
    refine(zL3 ao m co2 id L w5 IL5.out (by rw[HM.out];exact Nat.le_refl _) (by omega)).mono ?_;rintro e w6 ⟨rfl,hw6⟩;subst w6;cases zr8 L m id
    ·go_wp2_with fail
     go_meet;exact⟨_,rfl,D5.out⟩
    ·go_wp2_with fail
     refine(zj9 q p5 c 12 a bs w5 R5.out (by omega) (by omega)).mono ?_;rintro e w6 ⟨v6,p6,rfl,hr,hg⟩;have D6:Hid _:=D5.out.read hr hg;clear hr hg
     go_wp2_with fail
     go_meet;exact⟨_,rfl,D6.out⟩
   case rest=>
    clear D5 R5;obtain⟨b,rfl,hd⟩:=hcut;have D7:Hid _:=hd;clear hd;cases b
    ·go_wp2
     go_roundw
     case rel=>exact⟨i - 1,_,L,by rw[HM.out];omega,HPL.out,by first|rfl|go_num,D7.out⟩
     case measure=>simp[intOf];omega
    ·obtain⟨m0,m1⟩:=za2 D7.out.b1
     have HO7:Hid (wc.ownsRow (w.heap.size+3) 2 1 (.slice ao m co2) m (L.map (Value.int .i64))):=by have:=D7.out.o;rw[HM.out]at this;exact this
     go_wp2_with(
      at_builtin;refine zf4 _ rfl _ _ rfl (w.heap.size+3) _ m L rfl (HO7.out.alloc _) wc.heap.size 0 1 1 [id] rfl rfl (zk2 wc id) (by omega) (by omega) (Nat.le_trans D7.out.size (by simp)) ?_;intro v' w8 hown hg _ hnl;obtain⟨g8,c8,e8,_⟩:=zj7 hown;subst e8;have D8:Hid _:=D7.out.put (by rw[HM.out];exact hown) hg;have h8:=za5 hg (za1 ((Below.refl wc.heap.size wc).alloc (Nat.le_refl _) _) (za3 D7.out.b1) D7.out.b1) (fun e=>by have:=(D7.out.o.lt _ e.symm).1;omega);obtain⟨q0,q1⟩:=za2 h8;have qf:=fun i=>frozen_of_row _ _ i _ _ h8;clear hown hg hnl h8)
     go_roundw
     case rel=>exact⟨i - 1,_,L++[id],by rw[List.length_append,HM.out];simp;omega,(fun x hx=>(List.mem_append.1 hx).elim (HPL.out x) (fun h=>by rw[show x=id by simpa using h];exact HPI.out)),by first|rfl|go_num,D8.out⟩
     case measure=>simp[intOf];omega
  ·have hi0:i=0:=by omega
   subst hi0;clear k2
   go_wp2_with fail
   refine(zb1 q p4 c 40 a bs _ R4.out (by omega)).mono ?_;rintro e w6 ⟨y6,p6,rfl,hy0,hy1,hr,hg⟩;obtain⟨y6,rfl⟩:=Int.eq_ofNat_of_zero_le hy0;have D6:Hid _:=D4.out.read hr hg;have R6:Hid (RD w6 q a bs c p6):=hr;clear hr hg D4 R4 hy0 hy1 hi;by_cases h39:y6=39
   ·subst h39
    go_wp2_with fail
    refine(zm8 q p6 c 1 30 a bs w6 R6.out (by omega) (by omega) (by omega) (by omega)).mono ?_;rintro e w7 ⟨f7,p7,rfl,-,-,hr,hg⟩;have D7:Hid _:=D6.out.read hr hg;clear hr hg D6 R6;obtain⟨m0,m1⟩:=za2 D7.out.b1;have mf:=fun i=>frozen_of_row _ _ i _ _ D7.out.b1;have D8:Hid _:=D7.out.setVeh f7;clear D7;go_upto_region 15 with fail;clear m0 m1 mf;generalize w7.setCell ⟨w.heap.size+1+1,0,none⟩ (.int .i64 f7)=W8 at*;obtain⟨m0,m1⟩:=za2 D8.out.b1;obtain⟨b0,b1⟩:=za2 D8.out.b0;have bf:=fun i=>frozen_of_row _ _ i _ _ D8.out.b0;go_wp2;exact D8.out.done (by rw[HM.out];omega) HPL.out _ (by rfl) (by rfl)
   ·by_cases h38:y6=38
    ·subst h38
     clear h39;obtain⟨m0,m1⟩:=za2 D6.out.b1;have HML:Hid (w.heap.size+1+1<w6.heap.size):=by have:=D6.out.size;show _<_;omega
     go_wp2_with fail
     go_region_law ((first
      |(refine zd3 rfl (.tmp 71) (.tmp 74) rfl (w.heap.size+3) (.slice ao m co2) L m rfl (HO7.out.alloc _) w7.heap.size 0 1 1 [f7] rfl rfl (zk2 w7 f7) (by omega) (by omega) (Nat.le_trans D7.out.size (by simp)) ?_
        intro v' w8 hown hg hnl;obtain⟨g8,c8,e8,_⟩:=zj7 hown;subst e8;have D8:Hid _:=D7.out.put (by rw[HM.out];exact hown) hg;have h8:=za5 hg (za1 ((Below.refl w7.heap.size w7).alloc (Nat.le_refl _) _) (za3 D7.out.b1) D7.out.b1) (fun e=>by have:=(D7.out.o.lt _ e.symm).1;omega);obtain⟨q0,q1⟩:=za2 h8;have qf:=fun i=>frozen_of_row _ _ i _ _ h8;clear hown hg hnl h8)
      |(go_simp
        go_at_call 42
        with_reducible refine(zm8 q p6 c 1 6 a bs w6.drew (R6.out.below (Below.refl _ _).drew) (by omega) (by omega) (by omega) (by omega)).mono ?_
        rintro e w7 ⟨f7,p7,rfl,hf0,hf1,hr,hg⟩;have HPF:Hid (P f7):=HPN.out f7 hf0 hf1;clear hf0 hf1;have D7:Hid _:=(D6.out.below (Below.refl _ _).drew).read hr hg;have HO7:Hid (w7.ownsRow (w.heap.size+3) 2 1 (.slice ao m co2) m (L.map (Value.int .i64))):=by have:=D7.out.o;rw[HM.out]at this;exact this
        obtain⟨n0,n1⟩:=za2 D7.out.b1;have nl:w.heap.size+1+1<w7.heap.size:=by have:=D7.out.size;omega
        have nn:¬w.heap.size+1+1=w7.heap.size:=by omega
        clear hr hg;dsimp only)))
     all_goals
      clear D6 R6 m0 m1 D7 HO7 n0 n1 nl nn q0 q1 qf;generalize w8.setCell ⟨w.heap.size+1+1,1,none⟩ (.slice (some ⟨g8,0,none⟩) (m+1) c8)=W8 at*;obtain⟨m0,m1⟩:=za2 D8.out.b1;obtain⟨b0,b1⟩:=za2 D8.out.b0;have bf:=fun i=>frozen_of_row _ _ i _ _ D8.out.b0;go_wp2;exact D8.out.done (by rw[List.length_append,HM.out];simp;omega) (fun x hx=>(List.mem_append.1 hx).elim (HPL.out x) (fun h=>by rw[show x=f7 by simpa using h];exact HPF.out)) _ (by rfl) (by rfl)
    ·have e39:((y6:Int)==39)=false:=by simp;omega
     have e38:((y6:Int)==38)=false:=by simp;omega
     clear h39 h38 R6;obtain⟨m0,m1⟩:=za2 D6.out.b1;obtain⟨b0,b1⟩:=za2 D6.out.b0;have bf:=fun i=>frozen_of_row _ _ i _ _ D6.out.b0;go_wp2;exact D6.out.done (by rw[HM.out];omega) HPL.out _ (by rfl) (by rfl)
end Go.Proofs.YtjobhigmdaiinaaGreat
