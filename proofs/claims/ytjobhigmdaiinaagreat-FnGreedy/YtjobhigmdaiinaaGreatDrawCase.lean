import Derived.Test.YtjobhigmdaiinaaGreatPack2
import Derived.Test.YtjobhigmdaiinaaGreatPack11
import Derived.Deep.CutRange
namespace Go.Proofs.YtjobhigmdaiinaaGreat
open Go.RowKit
structure C0(w W:World)(q:Nat)(a:Option Addr)(bs:List Int)(c:Nat):Prop where
 gr:w.grownBy W (some q)
 r0:∃p,RD w q a bs c p
 b0:W.heap[w.heap.size]? =some (.cells #[.int .i64 0,.slice none 0 0,.slice none 0 0,.slice none 0 0,.int .i64 0] 30 (0,0))
theorem C0.read{w W W':World}{q:Nat}{a:Option Addr}{bs:List Int}{c:Nat}(h:C0 w W q a bs c)(hg:W.grownBy W' (some q)):C0 w W' q a bs c:=by
 have hl:q<w.heap.size:=by obtain⟨p0,h0⟩:=h.r0;exact za3 h0.1
 exact⟨zb0 h.gr hg,h.r0,za5 hg h.b0 (fun e=>by injection e with e;omega)⟩
theorem C0.below{w W W':World}{q:Nat}{a:Option Addr}{bs:List Int}{c:Nat}(h:C0 w W q a bs c)(hb:Below W.heap.size W W'):C0 w W' q a bs c:=
 ⟨zl5 h.gr hb,h.r0,za1 hb (za3 h.b0) h.b0⟩
theorem C0.size{w W:World}{q:Nat}{a:Option Addr}{bs:List Int}{c:Nat}(h:C0 w W q a bs c):w.heap.size<W.heap.size:=za3 h.b0
theorem CD.new{w W:World}{q:Nat}{a:Option Addr}{bs:List Int}{c p:Nat}{n:Int}{g zl cg:Nat}{zs:List Int}{fi:Int}(h:C0 w W q a bs c)(hr:RD W q a bs c p)(hi:za0 W (some ⟨g,0,none⟩) zs)(hg:w.heap.size<g)(hz:0<zs.length):CD w (W.alloc (.cells #[.int .i64 n,.slice (some ⟨g,0,none⟩) zl cg,.slice none 0 0,.slice none 0 0,.int .i64 fi] 30)) q a bs c W.heap.size n g zl cg zs (.slice none 0 0) 0 [] (.slice none 0 0) 0 [] fi:=by
 have ha:Below W.heap.size W (W.alloc (.cells #[.int .i64 n,.slice (some ⟨g,0,none⟩) zl cg,.slice none 0 0,.slice none 0 0,.int .i64 fi] 30)):=(Below.refl _ _).alloc (Nat.le_refl _) _;have hgl:g<W.heap.size:=by
  obtain⟨b,off,e,hc⟩:=hi 0 hz;simp at e;obtain⟨rfl,rfl⟩:=e;exact block_lt_of_cell hc
 exact⟨(h.below ha).gr,h.r0,⟨p,hr.below ha⟩,(h.below ha).b0,heap_alloc_new _ _,⟨h.size,hg,by omega,hz⟩,hi.below ha,World.ownsRow_nil _ _ _ _,World.ownsRow_nil _ _ _ _,fun b e=>(by cases e),fun b e=>(by cases e),fun b e=>(by cases e)⟩
def yl5(w:World)(q:Nat)(a:Option Addr)(bs:List Int)(c m:Nat)(e:Ending)(w':World):Prop:=∃(n:Int) (g zl cg go ko co gv kv cv:Nat) (zs O V:List Int) (fi:Int),
 e=.returned (.agg #[.int .i64 n,.slice (some ⟨g,0,none⟩) zl cg,.slice (some ⟨go,0,none⟩) ko co,.slice (some ⟨gv,0,none⟩) kv cv,.int .i64 fi])/\(zs.length=zl/\O.length=ko*6/\V.length=kv*5/\1<=ko/\ko<=m/\1<=kv/\kv<=3)∧
 w.grownBy w' (some q)/\(∃p,RD w' q a bs c p)/\za0 w' (some ⟨g,0,none⟩) zs/\za0 w' (some ⟨go,0,none⟩) O/\za0 w' (some ⟨gv,0,none⟩) V/\(w.heap.size<=g/\w.heap.size<=go/\w.heap.size<=gv/\0<zs.length)
def zJ0(w:World)(q:Nat)(a:Option Addr)(bs:List Int)(c m:Nat)(e:Ending)(w':World):Prop:=∃(n:Int) (g zl cg go ko co gv kv cv:Nat) (zs O V:List Int) (fi:Int),
 e=.returned (.agg #[.int .i64 n,.slice (some ⟨g,0,none⟩) zl cg,.slice (some ⟨go,0,none⟩) ko co,.slice (some ⟨gv,0,none⟩) kv cv,.int .i64 fi])/\(zs.length=zl/\O.length=ko*6/\V.length=kv*5/\1<=ko/\ko<=m/\1<=kv/\kv<=3)∧
 w.grownBy w' (some q)/\(∃p,RD w' q a bs c p)/\za0 w' (some ⟨g,0,none⟩) zs/\za0 w' (some ⟨go,0,none⟩) O/\za0 w' (some ⟨gv,0,none⟩) V/\(w.heap.size<=g/\w.heap.size<=go/\w.heap.size<=gv/\0<zs.length)/\zl<=cg
theorem z39:(Tryz.prog.info? 30).map (·.size)=some 5:=by kernel_rfl
theorem CD.done{w W:World}{q:Nat}{a:Option Addr}{bs:List Int}{c k:Nat}{n:Int}{g zl cg go co gv cv ko kv:Nat}{zs O V:List Int}{fi:Int}{m:Nat}(h:CD w W q a bs c k n g zl cg zs (.slice (some ⟨go,0,none⟩) ko co) ko O (.slice (some ⟨gv,0,none⟩) kv cv) kv V fi)
 (hz:zs.length=zl) (hcg:zl<=cg) (h1:1<=ko) (h2:ko<=m) (h3:1<=kv) (h4:kv<=3) (A:Act) (hp:A.tmps.getD 4 undef=.pointer (some ⟨w.heap.size,0,none⟩)) (hds:A.defers=[]):
 bodyPost Tryz.prog Tryz.f39 (zJ0 w q a bs c m) Exit.ret A (((((W.setCell ⟨w.heap.size,0,none⟩ (.int .i64 n)).setCell ⟨w.heap.size,1,none⟩ (.slice (some ⟨g,0,none⟩) zl cg)).setCell ⟨w.heap.size,2,none⟩ (.slice (some ⟨go,0,none⟩) ko co)).setCell ⟨w.heap.size,3,none⟩ (.slice (some ⟨gv,0,none⟩) kv cv)).setCell ⟨w.heap.size,4,none⟩ (.int .i64 fi)):=by
 obtain⟨p,hr⟩:=h.r;obtain⟨p0,hr0⟩:=h.r0;obtain⟨g1,g2,g3,g4⟩:=h.h;have hgo:=(h.o.lt go rfl).1;have hgv:=(h.v.lt gv rfl).1;have hsl:∀b,some w.heap.size=some b->w.heap.size<=b:=fun b e=>by injection e with e;omega
 have hrow:(((((W.setCell ⟨w.heap.size,0,none⟩ (.int .i64 n)).setCell ⟨w.heap.size,1,none⟩ (.slice (some ⟨g,0,none⟩) zl cg)).setCell ⟨w.heap.size,2,none⟩ (.slice (some ⟨go,0,none⟩) ko co)).setCell ⟨w.heap.size,3,none⟩ (.slice (some ⟨gv,0,none⟩) kv cv)).setCell ⟨w.heap.size,4,none⟩ (.int .i64 fi)).heap[w.heap.size]? =some (.cells #[.int .i64 n,.slice (some ⟨g,0,none⟩) zl cg,.slice (some ⟨go,0,none⟩) ko co,.slice (some ⟨gv,0,none⟩) kv cv,.int .i64 fi] 30 (0,0)):=by
  have:=zc6 (i:=4) (.int .i64 fi) (zc6 (i:=3) (.slice (some ⟨gv,0,none⟩) kv cv) (zc6 (i:=2) (.slice (some ⟨go,0,none⟩) ko co) (zc6 (i:=1) (.slice (some ⟨g,0,none⟩) zl cg) (zc6 (i:=0) (.int .i64 n) h.b0))));simpa using this
 have hs:W.grownBy (((((W.setCell ⟨w.heap.size,0,none⟩ (.int .i64 n)).setCell ⟨w.heap.size,1,none⟩ (.slice (some ⟨g,0,none⟩) zl cg)).setCell ⟨w.heap.size,2,none⟩ (.slice (some ⟨go,0,none⟩) ko co)).setCell ⟨w.heap.size,3,none⟩ (.slice (some ⟨gv,0,none⟩) kv cv)).setCell ⟨w.heap.size,4,none⟩ (.int .i64 fi)) (some w.heap.size):=
  zb0 (zb0 (zb0 (zb0 (za9 _ _ _ _) (za9 _ _ _ _)) (za9 _ _ _ _)) (za9 _ _ _ _)) (za9 _ _ _ _)
 have lo:=h.o.1;have lv:=h.v.1;rw[List.length_map]at lo lv;refine bodyPost_ret (v:=.agg #[.int .i64 n,.slice (some ⟨g,0,none⟩) zl cg,.slice (some ⟨go,0,none⟩) ko co,.slice (some ⟨gv,0,none⟩) kv cv,.int .i64 fi]) (results_cell_row Tryz.results39 _ _ w.heap.size 30 _ (0,0) _ hp hrow Tryz.underlying30 rfl z39) hds
  ⟨n,g,zl,cg,go,ko,co,gv,kv,cv,zs,O,V,fi,rfl,⟨hz,lo,lv,h1,h2,h3,h4⟩,zc5 h.gr hs hsl,⟨p,RD.kept2 hr0 hr hs hsl⟩,zh2 h.i hs (fun e=>by injection e with e;omega),zh2 (zd2 h.o) hs (fun e=>by injection e with e;omega),zh2 (zd2 h.v) hs (fun e=>by injection e with e;omega),⟨by omega,by omega,by omega,g4⟩,hcg⟩
set_option maxRecDepth 10000 in
set_option maxHeartbeats 40000000 in
theorem yc6(q p c:Nat)(m:Nat)(a:Option Addr)(bs:List Int)(w:World)(h:RD w q a bs c p)(hm1:1<=m)(hm2:m<=12):
 Calls Tryz.prog 39 #[.pointer (some ⟨q,0,none⟩),.int .i64 m] w (zJ0 w q a bs c m):=by
 have H:Hid (RD w q a bs c p):=h;clear h;have HQ:Hid _:=za3 H.out.1;have CA:Hid (C0 w (w.alloc (.cells #[.int .i64 0,.slice none 0 0,.slice none 0 0,.slice none 0 0,.int .i64 0] 30)) q a bs c):=⟨zm6 w _ q,⟨p,H.out⟩,heap_alloc_new _ _⟩;have RA:Hid (RD (w.alloc (.cells #[.int .i64 0,.slice none 0 0,.slice none 0 0,.slice none 0 0,.int .i64 0] 30)) q a bs c p):=H.out.below ((Below.refl _ _).alloc (Nat.le_refl _) _);go_enter Tryz.func39,Tryz.ntmps39
 go_wp2_with fail
 generalize w.alloc (.cells #[.int .i64 0,.slice none 0 0,.slice none 0 0,.slice none 0 0,.int .i64 0] 30)=W0 at*;refine(zb1 q p c 4 a bs W0 RA.out (by omega)).mono ?_;rintro e w1 ⟨x,p1,rfl,hx0,hx1,hr,hg⟩;obtain⟨x,rfl⟩:=Int.eq_ofNat_of_zero_le hx0;obtain⟨n,HN⟩:=nmd (2+x);have hn2:2<=n:=by have:=HN.out;omega
 have hn5:n<=5:=by have:=HN.out;omega
 have hnn:(2:Int)+(x:Int)=(n:Int):=by have:=HN.out;omega
 have C1:Hid _:=CA.out.read hg;have R1:Hid (RD w1 q a bs c p1):=hr;clear hr hg CA RA hx0 hx1;have hwn:wrap64 ((2:Int)+(x:Int))=(n:Int):=by rw[hnn];exact IntWalk.wrap64_in _ (by omega)
 have hwn2:IntKind.i64.wrap ((2:Int)+(x:Int))=(n:Int):=by rw[hnn,IntKind.wrap_i64];omega
 go_wp2_with fail
 clear hwn hwn2 hnn;refine(zU8 q p1 c n a bs w1 R1.out (by omega) (by omega)).mono ?_;rintro e w2 ⟨g,cg,zs,rfl,hzl,hzc,hgw,hg,⟨p2,hr⟩,hrow⟩;obtain⟨zl,HZ⟩:=nmd zs.length;have HZN:Hid (zl=n*n):=HZ.out.symm.trans hzl;have HZC:Hid (zl<=cg):=by show _<=_;rw[<-HZ.out];exact hzc
 have HZP:Hid (0<zs.length):=by show 0<_;rw[hzl];exact Nat.mul_pos (by omega) (by omega)
 rw[HZ.out];have C2:Hid (C0 w (w2.alloc (Obj.cells #[Value.int .i64 1000,Value.int .i64 50,Value.int .i64 0,Value.int .i64 20] 2)) q a bs c):=(C1.out.read hg).below ((Below.refl _ _).alloc (Nat.le_refl _) _);have R2:Hid (RD (w2.alloc (Obj.cells #[Value.int .i64 1000,Value.int .i64 50,Value.int .i64 0,Value.int .i64 20] 2)) q a bs c p2):=hr.below ((Below.refl _ _).alloc (Nat.le_refl _) _);have I2:Hid (za0 (w2.alloc (Obj.cells #[Value.int .i64 1000,Value.int .i64 50,Value.int .i64 0,Value.int .i64 20] 2)) (some ⟨g,0,none⟩) zs):=hrow.ints.below ((Below.refl _ _).alloc (Nat.le_refl _) _);have HG:Hid (w.heap.size<g):=by have:=C1.out.size;show _<_;omega
 have HQ2:Hid (q<w2.heap.size):=by have:=HQ.out;have:=(C1.out.read hg).size;show _<_;omega
 clear hzl hzc hgw hg hr hrow C1 R1
 go_wp2_with fail
 refine(zb1 q p2 c 4 a bs _ R2.out (by omega)).mono ?_;rintro e w3 ⟨y,p3,rfl,hy0,hy1,hr,hg⟩;obtain⟨y,rfl⟩:=Int.eq_ofNat_of_zero_le hy0;have hy4:y<4:=by omega
 have n3:=hg.cell (z38 w2 1000 50 0 20 2 y hy4) (fun e=>by have:=HQ2.out;simp at e;omega);obtain⟨f0,HF⟩:=nmd ([(1000:Int),50,0,20].getD y 0);rw[HF.out]at n3;have D3:Hid (CD w (w3.alloc (.cells #[.int .i64 n,.slice (some ⟨g,0,none⟩) zl cg,.slice none 0 0,.slice none 0 0,.int .i64 f0] 30)) q a bs c w3.heap.size n g zl cg zs (.slice none 0 0) 0 [] (.slice none 0 0) 0 [] f0):=CD.new (C2.out.read hg) hr (zh2 I2.out hg (fun e=>by injection e with e;have:=HQ.out;have:=HG.out;omega)) HG.out HZP.out;have R3:Hid (RD (w3.alloc (.cells #[.int .i64 n,.slice (some ⟨g,0,none⟩) zl cg,.slice none 0 0,.slice none 0 0,.int .i64 f0] 30)) q a bs c p3):=hr.below ((Below.refl _ _).alloc (Nat.le_refl _) _);have hy4':(y:Int)<4:=by omega
 clear hr hg hy0 hy1 C2 R2 I2
 go_wp2_with fail
 clear n3 hy4 hy4';generalize w3.alloc (.cells #[.int .i64 n,.slice (some ⟨g,0,none⟩) zl cg,.slice none 0 0,.slice none 0 0,.int .i64 f0] 30)=W3 at*;obtain⟨k,HK⟩:=nmd w3.heap.size;rw[HK.out]at D3⊢;refine(zb1 q p3 c m a bs _ R3.out (by omega)).mono ?_;rintro e w4 ⟨y1,p4,rfl,hy0,hy1,hr,hg⟩;obtain⟨y1,rfl⟩:=Int.eq_ofNat_of_zero_le hy0;obtain⟨m1,HM1⟩:=nmd (1+y1);have hm11:1<=m1:=by have:=HM1.out;omega
 have hm12:m1<=m:=by have:=HM1.out;omega
 have hnn:(1:Int)+(y1:Int)=(m1:Int):=by have:=HM1.out;omega
 have D4:Hid _:=D3.out.read hr hg;clear hr hg hy0 hy1 D3 R3;have hwn:wrap64 ((1:Int)+(y1:Int))=(m1:Int):=by rw[hnn];exact IntWalk.wrap64_in _ (by omega)
 have hwn2:IntKind.i64.wrap ((1:Int)+(y1:Int))=(m1:Int):=by rw[hnn,IntKind.wrap_i64];omega
 go_wp2_with fail
 clear hwn hwn2 hnn;go_loopw[7] (fun t wr=>∃(i j:Nat) (oo:Value) (O:List Int),j+i=m1/\t=.int .i64 i/\CD w wr q a bs c k n g zl cg zs oo j O (.slice none 0 0) 0 [] f0) (fun t _=>(intOf t).toNat)
 case atStart=>exact⟨m1,0,_,[],by omega,rfl,D4.out⟩
 case round=>
  clear D4;obtain⟨i,j,oo,O,hj,rfl,hd⟩:=hrel;obtain⟨ao,co,e⟩:=zi5 hd.o;subst e;have Dwr:Hid _:=hd;obtain⟨pwr,hr⟩:=hd.r;have Rwr:Hid (RD wr q a bs c pwr):=hr;clear hd hr;by_cases hi:0<i
  ·go_upto_region 6 with fail
   go_cut [8]from 27 to 55 (fun s8 wx=>∃(kb:Nat) (x0 x1 x2 x5:Int),s8=.pointer (some ⟨kb,0,none⟩)/\CD w wx q a bs c k n g zl cg zs (.slice ao j co) j O (.slice none 0 0) 0 [] f0/\zb9 w wx k g (.slice ao j co) (.slice none 0 0) kb #[.int .i64 x0,.int .i64 x1,.int .i64 x2,.int .i64 0,.int .i64 0,.int .i64 x5] 95)
   case first=>
    have kS:=Dwr.out.cells.1.2.2.1
    go_region_held3 (fun W=>W.cell? ⟨k,2,none⟩=some (.slice ao j co)) (first|with_reducible exact kS|with_reducible exact yv0 kS hkb|go_keep) ((first
     |(go_at_call 43
       with_reducible refine(zb1 q pwr c n a bs wr.drew (Rwr.out.below ((Below.refl _ _)).drew) (by omega)).mono ?_
       rintro e wa ⟨xwa,pwa,rfl,hx0,hx1,hr,hg⟩;have Dwa:Hid _:=(Dwr.out.below ((Below.refl _ _)).drew).read hr hg;have Rwa:Hid (RD wa q a bs c pwa):=hr;have kS:=Dwa.out.cells.1.2.2.1;clear hr hg hx0 hx1)
     |(go_at_call 43
       with_reducible refine(zb1 q pwr c n a bs (wr.alloc (Obj.cells #[Value.int .i64 0,Value.int .i64 0,Value.int .i64 0,Value.int .i64 0,Value.int .i64 0,Value.int .i64 0] 95)).drew (Rwr.out.below (((Below.refl _ _).alloc (Nat.le_refl _) _)).drew) (by omega)).mono ?_
       rintro e wa ⟨xwa,pwa,rfl,hx0,hx1,hr,hg⟩;have Dwa:Hid _:=(Dwr.out.below (((Below.refl _ _).alloc (Nat.le_refl _) _)).drew).read hr hg;have Rwa:Hid (RD wa q a bs c pwa):=hr;have kS:=Dwa.out.cells.1.2.2.1;have BXwa:Hid (zb9 w wa k g (.slice ao j co) (.slice none 0 0) wr.heap.size #[Value.int .i64 0,Value.int .i64 0,Value.int .i64 0,Value.int .i64 0,Value.int .i64 0,Value.int .i64 0] 95):=((zb9.new Dwr.out _ _).below (Below.refl _ _).drew).read HQ.out hg;clear hr hg hx0 hx1)
     |(go_at_call 43
       with_reducible refine(zb1 q pwa c 5 a bs wa (Rwa.out.below (Below.refl _ _)) (by omega)).mono ?_
       rintro e wb ⟨xwb,pwb,rfl,hx0,hx1,hr,hg⟩;have Dwb:Hid _:=(Dwa.out.below (Below.refl _ _)).read hr hg;have Rwb:Hid (RD wb q a bs c pwb):=hr;have kS:=Dwb.out.cells.1.2.2.1
       try(have BXwb:Hid (zb9 w wb k g (.slice ao j co) (.slice none 0 0) wr.heap.size #[Value.int .i64 0,Value.int .i64 0,Value.int .i64 0,Value.int .i64 0,Value.int .i64 0,Value.int .i64 0] 95):=BXwa.out.read HQ.out hg)
       clear hr hg hx0 hx1)
     |(go_at_call 43
       with_reducible refine(zb1 q pwa c 5 a bs (wa.alloc (Obj.cells #[Value.int .i64 0,Value.int .i64 0,Value.int .i64 0,Value.int .i64 0,Value.int .i64 0,Value.int .i64 0] 95)) (Rwa.out.below ((Below.refl _ _).alloc (Nat.le_refl _) _)) (by omega)).mono ?_
       rintro e wb ⟨xwb,pwb,rfl,hx0,hx1,hr,hg⟩;have Dwb:Hid _:=(Dwa.out.below ((Below.refl _ _).alloc (Nat.le_refl _) _)).read hr hg;have Rwb:Hid (RD wb q a bs c pwb):=hr;have kS:=Dwb.out.cells.1.2.2.1;have BXwb:Hid (zb9 w wb k g (.slice ao j co) (.slice none 0 0) wa.heap.size #[Value.int .i64 0,Value.int .i64 0,Value.int .i64 0,Value.int .i64 0,Value.int .i64 0,Value.int .i64 0] 95):=((zb9.new Dwa.out _ _)).read HQ.out hg;clear hr hg hx0 hx1)
     |(go_at_call 43
       with_reducible refine(zb1 q pwb c 4 a bs wb (Rwb.out.below (Below.refl _ _)) (by omega)).mono ?_
       rintro e wc ⟨xwc,pwc,rfl,hx0,hx1,hr,hg⟩;have Dwc:Hid _:=(Dwb.out.below (Below.refl _ _)).read hr hg;have Rwc:Hid (RD wc q a bs c pwc):=hr;have kS:=Dwc.out.cells.1.2.2.1
       try(have BXwc:Hid (zb9 w wc k g (.slice ao j co) (.slice none 0 0) wr.heap.size #[Value.int .i64 0,Value.int .i64 0,Value.int .i64 0,Value.int .i64 0,Value.int .i64 0,Value.int .i64 0] 95):=BXwb.out.read HQ.out hg)
       try(have BXwc:Hid (zb9 w wc k g (.slice ao j co) (.slice none 0 0) wa.heap.size #[Value.int .i64 0,Value.int .i64 0,Value.int .i64 0,Value.int .i64 0,Value.int .i64 0,Value.int .i64 0] 95):=BXwb.out.read HQ.out hg)
       try(obtain⟨z0,z1,z2,z3,z4,z5⟩:=zD4 BXwc.out.1
           have zf:=fun i=>frozen_of_row _ _ i _ _ BXwc.out.1;have hkb:=BXwc.out.2.2.1.symm)
       clear hr hg hx0 hx1)
     |(go_at_call 43
       with_reducible refine(zb1 q pwb c 4 a bs (wb.alloc (Obj.cells #[Value.int .i64 0,Value.int .i64 0,Value.int .i64 0,Value.int .i64 0,Value.int .i64 0,Value.int .i64 0] 95)) (Rwb.out.below ((Below.refl _ _).alloc (Nat.le_refl _) _)) (by omega)).mono ?_
       rintro e wc ⟨xwc,pwc,rfl,hx0,hx1,hr,hg⟩;have Dwc:Hid _:=(Dwb.out.below ((Below.refl _ _).alloc (Nat.le_refl _) _)).read hr hg;have Rwc:Hid (RD wc q a bs c pwc):=hr;have kS:=Dwc.out.cells.1.2.2.1;have BXwc:Hid (zb9 w wc k g (.slice ao j co) (.slice none 0 0) wb.heap.size #[Value.int .i64 0,Value.int .i64 0,Value.int .i64 0,Value.int .i64 0,Value.int .i64 0,Value.int .i64 0] 95):=((zb9.new Dwb.out _ _)).read HQ.out hg
       try(obtain⟨z0,z1,z2,z3,z4,z5⟩:=zD4 BXwc.out.1
           have zf:=fun i=>frozen_of_row _ _ i _ _ BXwc.out.1;have hkb:=BXwc.out.2.2.1.symm)
       clear hr hg hx0 hx1)))
    all_goals(try go_wp2_with fail)
    all_goals go_meet
    all_goals first
     |exact⟨_,_,_,_,_,rfl,(Dwc.out.boxes6 BXwc.out _ _ _ _ _ _).1,(Dwc.out.boxes6 BXwc.out _ _ _ _ _ _).2⟩
     |exact⟨_,_,_,_,_,rfl,Dwc.out.below ((Below.refl _ _).alloc (Nat.le_refl _) _),zb9.new Dwc.out _ _⟩
   case rest=>
    clear Dwr Rwr;obtain⟨kb,x0,x1,x2,x5,rfl,hd,hbx⟩:=hcut;have D5:Hid _:=hd;have X5:Hid (zb9 w wc k g (.slice ao j co) (.slice none 0 0) kb #[.int .i64 x0,.int .i64 x1,.int .i64 x2,.int .i64 0,.int .i64 0,.int .i64 x5] 95):=hbx;obtain⟨p5,hr5⟩:=hd.r;have R5:Hid (RD wc q a bs c p5):=hr5;clear hd hbx hr5
    go_wp2_with fail
    refine(zQ9 q p5 c a bs wc R5.out).mono ?_;rintro e w6 ⟨x3,x4,p6,rfl,hr,hg⟩;have D6:Hid _:=D5.out.read hr hg;have X6:Hid (zb9 w w6 k g (.slice ao j co) (.slice none 0 0) kb #[.int .i64 x0,.int .i64 x1,.int .i64 x2,.int .i64 0,.int .i64 0,.int .i64 x5] 95):=X5.out.read HQ.out hg;clear hr hg D5 X5 R5;obtain⟨z0,z1,z2,z3,z4,z5⟩:=zD4 X6.out.1;have zf:=fun i=>frozen_of_row _ _ i _ _ X6.out.1;have D7:Hid (CD w ((w6.setCell ⟨kb,3,none⟩ (.int .i64 x3)).setCell ⟨kb,4,none⟩ (.int .i64 x4)) q a bs c k n g zl cg zs (.slice ao j co) j O (.slice none 0 0) 0 [] f0):=(D6.out.box' X6.out 3 _).box' (X6.out.set 3 _) 4 _;have X7:Hid (zb9 w ((w6.setCell ⟨kb,3,none⟩ (.int .i64 x3)).setCell ⟨kb,4,none⟩ (.int .i64 x4)) k g (.slice ao j co) (.slice none 0 0) kb #[.int .i64 x0,.int .i64 x1,.int .i64 x2,.int .i64 x3,.int .i64 x4,.int .i64 x5] 95):=by show zb9 _ _ _ _ _ _ _ _ _;have:=(X6.out.set 3 (.int .i64 x3)).set 4 (.int .i64 x4);simpa using this
    clear D6 X6;go_upto_region 8 with fail;generalize(w6.setCell ⟨kb,3,none⟩ (.int .i64 x3)).setCell ⟨kb,4,none⟩ (.int .i64 x4)=W7 at*;clear z0 z1 z2 z3 z4 z5 zf;obtain⟨z0,z1,z2,z3,z4,z5⟩:=zD4 X7.out.1;obtain⟨⟨-,-,k2,-,-⟩,kf⟩:=D7.out.cells;have HI8:Hid (za0 (W7.alloc (Obj.cells #[Value.int .i64 x0,Value.int .i64 x1,Value.int .i64 x2,Value.int .i64 x3,Value.int .i64 x4,Value.int .i64 x5] 95)) (some ⟨W7.heap.size,0,none⟩) [x0,x1,x2,x3,x4,x5]):=za0.of_row (zs:=[x0,x1,x2,x3,x4,x5]) (heap_alloc_new _ _);have HS8:Hid (w.heap.size+1<=(W7.alloc (Obj.cells #[Value.int .i64 x0,Value.int .i64 x1,Value.int .i64 x2,Value.int .i64 x3,Value.int .i64 x4,Value.int .i64 x5] 95)).heap.size):=by have:=D7.out.size;show _<=_;simp;omega
    go_wp2_with(
     at_builtin;refine zA5 27 95 _ 6 48 yc7 Tryz.underlying27 rfl (by omega) (by omega) _ rfl _ _ rfl (w.heap.size+1) _ j O rfl (D7.out.o.alloc _) W7.heap.size 1 [x0,x1,x2,x3,x4,x5] rfl rfl HI8.out (by omega) HS8.out ?_;intro v' w8 hown hg hbk _;obtain⟨g8,c8,e8,_⟩:=zj7 hown;subst e8;have D8:Hid _:=D7.out.putO hown hg hbk;have k8:w8.cell? ⟨k,2,none⟩=some (.slice ao j co):=by
      have h8:=za5 hg (za1 ((Below.refl W7.heap.size W7).alloc (Nat.le_refl _) _) (za3 D7.out.b1) D7.out.b1) (fun e=>(D7.out.d1 _ e.symm).1 rfl);have:=cell_of_row _ _ 2 _ _ _ h8;simpa using this
     have f8:∀i,w8.frozen? ⟨k,i,none⟩=false:=by
      have h8:=za5 hg (za1 ((Below.refl W7.heap.size W7).alloc (Nat.le_refl _) _) (za3 D7.out.b1) D7.out.b1) (fun e=>(D7.out.d1 _ e.symm).1 rfl);exact fun i=>frozen_of_row _ _ i _ _ h8
     clear hown hg hbk)
    go_roundw
    case rel=>exact⟨i - 1,j+1,_,O++[x0,x1,x2,x3,x4,x5],by omega,by first|rfl|go_num,D8.out⟩
    case measure=>simp[intOf];omega
  ·have hi0:i=0:=by omega
   subst hi0;have hjm:j=m1:=by omega
   subst hjm;obtain⟨go,co',e,-⟩:=zj7 (k:=j - 1) (by have:=Dwr.out.o;rw[Nat.sub_add_cancel hm11];exact this);rw[Nat.sub_add_cancel hm11]at e
   injection e with e1 e2 e3
   subst e1 e3
   go_wp2_with fail
   refine(zb1 q pwr c 3 a bs _ Rwr.out (by omega)).mono ?_;rintro e w5 ⟨y2,p5,rfl,hy0,hy1,hr,hg⟩;obtain⟨y2,rfl⟩:=Int.eq_ofNat_of_zero_le hy0;obtain⟨m2,HM2⟩:=nmd (1+y2);have hm21:1<=m2:=by have:=HM2.out;omega
   have hm22:m2<=3:=by have:=HM2.out;omega
   have hnn:(1:Int)+(y2:Int)=(m2:Int):=by have:=HM2.out;omega
   have D5:Hid _:=Dwr.out.read hr hg;clear hr hg hy0 hy1 Dwr Rwr;have hwn:wrap64 ((1:Int)+(y2:Int))=(m2:Int):=by rw[hnn];exact IntWalk.wrap64_in _ (by omega)
   have hwn2:IntKind.i64.wrap ((1:Int)+(y2:Int))=(m2:Int):=by rw[hnn,IntKind.wrap_i64];omega
   go_wp2_with fail
   clear hwn hwn2 hnn;obtain⟨m1,HMJ⟩:=nmd j;rw[HMJ.out]at D5 hm11 hm12⊢;go_loopw[9] (fun t wr=>∃(i j:Nat) (ov:Value) (V:List Int),j+i=m2/\t=.int .i64 i/\CD w wr q a bs c k n g zl cg zs (.slice (some ⟨go,0,none⟩) m1 co) m1 O ov j V f0) (fun t _=>(intOf t).toNat)
   case atStart=>exact⟨m2,0,_,[],by omega,rfl,D5.out⟩
   case round=>
    clear D5;obtain⟨i,j,ov,V,hj,rfl,hd⟩:=hrel;obtain⟨av,cv,e⟩:=zi5 hd.v;subst e;have Dwr:Hid _:=hd;obtain⟨pwr,hr⟩:=hd.r;have Rwr:Hid (RD wr q a bs c pwr):=hr;clear hd hr;by_cases hi:0<i
    ·go_upto_region 12 with fail
     go_cut [10]from 59 to 93 (fun s10 wx=>∃(kb:Nat) (x0 x1 x2:Int),s10=.pointer (some ⟨kb,0,none⟩)/\CD w wx q a bs c k n g zl cg zs (.slice (some ⟨go,0,none⟩) m1 co) m1 O (.slice av j cv) j V f0/\zb9 w wx k g (.slice (some ⟨go,0,none⟩) m1 co) (.slice av j cv) kb #[.int .i64 x0,.int .i64 x1,.int .i64 x2,.int .i64 0,.int .i64 0] 41)
     case first=>
      have kS0:=Dwr.out.cells.1.2.2.2.1;refine wp_region_held_drew (S:=fun W=>W.cell? ⟨k,3,none⟩=some (.slice av j cv)) (by kernel_rfl) ?_ (fun hHeld=> ?_)
      ·exact kS0
      refine tkH 0 hHeld ?_;refine tkH 1 hHeld ?_;refine tkH 2 hHeld ?_;refine tkH 3 hHeld ?_;refine tkH 4 hHeld ?_;refine tkH 5 hHeld ?_;refine tkH 6 hHeld ?_;refine tkH 9 hHeld ?_;refine wpAnyH_ready (rs:=[7,8,14]) (by kernel_rfl) (by simp) ?_;refine AllReadyH.cons rfl (fun K hK=> ?_) ?_
      ·go_simp
       refine(zb1 q pwr c n a bs wr.drew (Rwr.out.below ((Below.refl _ _).drew)) (by omega)).mono ?_;rintro e wa ⟨xwa,pwa,rfl,hx0,hx1,hr,hg⟩;have Dwa:Hid _:=(Dwr.out.below ((Below.refl _ _).drew)).read hr hg;have Rwa:Hid (RD wa q a bs c pwa):=hr;have kSwa:=Dwa.out.cells.1.2.2.2.1;clear hr hg hx0 hx1
       (try go_wp2_with fail)
       refine hK.out _ _ ?_ (fun hHeld=> ?_)
       ·exact kSwa
       clear hK K
       (try simp only[Act.put])
       refine wpAnyH_ready (rs:=[8,10,14]) (by kernel_rfl) (by simp) ?_;refine AllReadyH.cons rfl (fun K hK=> ?_) ?_
       ·go_simp
        refine hK.out _ _ ?_ (fun hHeld=> ?_)
        ·exact(Dwa.out.below ((Below.refl _ _).alloc (Nat.le_refl _) _)).cells.1.2.2.2.1
        clear hK K
        (try simp only[Act.put])
        refine wpAnyH_ready (rs:=[10,14]) (by kernel_rfl) (by simp) ?_;refine AllReadyH.cons rfl (fun K hK=> ?_) ?_
        ·go_simp
         refine(zb1 q pwa c 3 a bs (wa.alloc (Obj.cells #[Value.int .i64 5,Value.int .i64 10,Value.int .i64 100] 2)) (Rwa.out.below ((Below.refl _ _).alloc (Nat.le_refl _) _)) (by omega)).mono ?_;rintro e wb ⟨xwb,pwb,rfl,hx0,hx1,hr,hg⟩;have Dwb:Hid _:=(Dwa.out.below ((Below.refl _ _).alloc (Nat.le_refl _) _)).read hr hg;have Rwb:Hid (RD wb q a bs c pwb):=hr;have kSwb:=Dwb.out.cells.1.2.2.2.1;have BSwb:Hid (zb9 w wb k g (.slice (some ⟨go,0,none⟩) m1 co) (.slice av j cv) wa.heap.size #[Value.int .i64 5,Value.int .i64 10,Value.int .i64 100] 2):=by show zb9 _ _ _ _ _ _ _ _ _;have h:=(zb9.new Dwa.out _ _).read HQ.out hg;simpa using h
         obtain⟨xwb,rfl⟩:=Int.eq_ofNat_of_zero_le hx0;have hxb:xwb<3:=by omega
         have hxb':(xwb:Int)<3:=by omega
         obtain⟨z9,HZ9⟩:=nmd ([(5:Int),10,100].getD xwb 0);clear hr hg hx0 hx1
         (try go_wp2_with fail)
         refine hK.out _ _ ?_ (fun hHeld=> ?_)
         ·exact kSwb
         clear hK K
         (try simp only[Act.put])
         refine tkH 11 hHeld ?_;refine wpAnyH_ready (rs:=[12,14]) (by kernel_rfl) (by simp) ?_;refine AllReadyH.cons rfl (fun K hK=> ?_) ?_
         ·have sz:=zg7 BSwb.out.1 hxb
          rw[HZ9.out]at sz;go_simp;refine hK.out _ _ ?_ (fun hHeld=> ?_)
          ·exact(Dwb.out.below (Below.refl _ _)).cells.1.2.2.2.1
          clear hK K
          (try simp only[Act.put])
          clear sz;refine tkH 13 hHeld ?_;refine wpAnyH_ready (rs:=[14]) (by kernel_rfl) (by simp) ?_;refine AllReadyH.cons rfl (fun K hK=> ?_) ?_
          ·go_simp
           refine hK.out _ _ ?_ (fun hHeld=> ?_)
           ·exact(Dwb.out.below ((Below.refl _ _).alloc (Nat.le_refl _) _)).cells.1.2.2.2.1
           clear hK K
           (try simp only[Act.put])
           refine wpAnyH_ready (rs:=[15]) (by kernel_rfl) (by simp) ?_;refine AllReadyH.cons rfl (fun K hK=> ?_) ?_
           ·go_simp
            refine hK.out _ _ ?_ (fun hHeld2=> ?_)
            ·with_reducible exact(Dwb.out.below ((Below.refl _ _).alloc (Nat.le_refl _) _)).cells.1.2.2.2.1
            clear hK K;refine wpAnyH_done (by kernel_rfl) ?_ _
            (try go_wp2_with fail)
            go_meet;exact⟨_,_,_,_,rfl,Dwb.out.below ((Below.refl _ _).alloc (Nat.le_refl _) _),zb9.new Dwb.out _ _⟩
           exact AllReadyH.nil
          exact AllReadyH.nil
         refine AllReadyH.cons rfl (fun K hK=> ?_) ?_
         ·go_simp
          refine hK.out _ _ ?_ (fun hHeld=> ?_)
          ·exact(Dwb.out.below ((Below.refl _ _).alloc (Nat.le_refl _) _)).cells.1.2.2.2.1
          clear hK K
          (try simp only[Act.put])
          refine wpAnyH_ready (rs:=[12]) (by kernel_rfl) (by simp) ?_;refine AllReadyH.cons rfl (fun K hK=> ?_) ?_
          ·have sz:=zg7 (za1 ((Below.refl wb.heap.size wb).alloc (Nat.le_refl _) (Obj.cells #[Value.int .i64 0,Value.int .i64 0,Value.int .i64 0,Value.int .i64 0,Value.int .i64 0] 41)) (za3 BSwb.out.1) BSwb.out.1) hxb
           rw[HZ9.out]at sz;go_simp;refine hK.out _ _ ?_ (fun hHeld=> ?_)
           ·exact(Dwb.out.below ((Below.refl _ _).alloc (Nat.le_refl _) _)).cells.1.2.2.2.1
           clear hK K
           (try simp only[Act.put])
           clear sz;refine tkH 13 hHeld ?_;refine wpAnyH_ready (rs:=[15]) (by kernel_rfl) (by simp) ?_;refine AllReadyH.cons rfl (fun K hK=> ?_) ?_
           ·go_simp
            refine hK.out _ _ ?_ (fun hHeld2=> ?_)
            ·with_reducible exact(Dwb.out.below ((Below.refl _ _).alloc (Nat.le_refl _) _)).cells.1.2.2.2.1
            clear hK K;refine wpAnyH_done (by kernel_rfl) ?_ _
            (try go_wp2_with fail)
            go_meet;exact⟨_,_,_,_,rfl,Dwb.out.below ((Below.refl _ _).alloc (Nat.le_refl _) _),zb9.new Dwb.out _ _⟩
           exact AllReadyH.nil
          exact AllReadyH.nil
         exact AllReadyH.nil
        refine AllReadyH.cons rfl (fun K hK=> ?_) ?_
        ·go_simp
         refine hK.out _ _ ?_ (fun hHeld=> ?_)
         ·exact(Dwa.out.below (((Below.refl _ _).alloc (Nat.le_refl _) _).alloc (by simp) _)).cells.1.2.2.2.1
         clear hK K
         (try simp only[Act.put])
         refine wpAnyH_ready (rs:=[10]) (by kernel_rfl) (by simp) ?_;refine AllReadyH.cons rfl (fun K hK=> ?_) ?_
         ·go_simp
          refine(zb1 q pwa c 3 a bs ((wa.alloc (Obj.cells #[Value.int .i64 5,Value.int .i64 10,Value.int .i64 100] 2)).alloc (Obj.cells #[Value.int .i64 0,Value.int .i64 0,Value.int .i64 0,Value.int .i64 0,Value.int .i64 0] 41)) (Rwa.out.below (((Below.refl _ _).alloc (Nat.le_refl _) _).alloc (by simp) _)) (by omega)).mono ?_;rintro e wb ⟨xwb,pwb,rfl,hx0,hx1,hr,hg⟩;have Dwb:Hid _:=(Dwa.out.below (((Below.refl _ _).alloc (Nat.le_refl _) _).alloc (by simp) _)).read hr hg;have Rwb:Hid (RD wb q a bs c pwb):=hr;have kSwb:=Dwb.out.cells.1.2.2.2.1;have BAwb:Hid (zb9 w wb k g (.slice (some ⟨go,0,none⟩) m1 co) (.slice av j cv) (wa.heap.size+1) #[Value.int .i64 0,Value.int .i64 0,Value.int .i64 0,Value.int .i64 0,Value.int .i64 0] 41):=by show zb9 _ _ _ _ _ _ _ _ _;have h:=(zb9.new (Dwa.out.below ((Below.refl _ _).alloc (Nat.le_refl _) _)) _ _).read HQ.out hg;simpa using h
          have BSwb:Hid (zb9 w wb k g (.slice (some ⟨go,0,none⟩) m1 co) (.slice av j cv) wa.heap.size #[Value.int .i64 5,Value.int .i64 10,Value.int .i64 100] 2):=by show zb9 _ _ _ _ _ _ _ _ _;have h:=((zb9.new Dwa.out _ _).below ((Below.refl _ _).alloc (Nat.le_refl _) _)).read HQ.out hg;simpa using h
          obtain⟨xwb,rfl⟩:=Int.eq_ofNat_of_zero_le hx0;have hxb:xwb<3:=by omega
          have hxb':(xwb:Int)<3:=by omega
          obtain⟨z9,HZ9⟩:=nmd ([(5:Int),10,100].getD xwb 0);obtain⟨z0,z1,z2,z3,z4⟩:=zb6 BAwb.out.1;have zf:=fun i=>frozen_of_row _ _ i _ _ BAwb.out.1;have hkb:=BAwb.out.2.2.1.symm;clear hr hg hx0 hx1
          (try go_wp2_with fail)
          refine hK.out _ _ ?_ (fun hHeld=> ?_)
          ·exact kSwb
          clear hK K
          (try simp only[Act.put])
          refine tkH 11 hHeld ?_;refine wpAnyH_ready (rs:=[12]) (by kernel_rfl) (by simp) ?_;refine AllReadyH.cons rfl (fun K hK=> ?_) ?_
          ·have sz:=zg7 BSwb.out.1 hxb
           rw[HZ9.out]at sz;go_simp;refine hK.out _ _ ?_ (fun hHeld=> ?_)
           ·exact(Dwb.out.below (Below.refl _ _)).cells.1.2.2.2.1
           clear hK K
           (try simp only[Act.put])
           clear sz;refine tkH 13 hHeld ?_;refine wpAnyH_ready (rs:=[15]) (by kernel_rfl) (by simp) ?_;refine AllReadyH.cons rfl (fun K hK=> ?_) ?_
           ·have HDL:Hid _:=Dwb.out.below (Below.refl _ _)
            have HBL:Hid (zb9 w wb k g (.slice (some ⟨go,0,none⟩) m1 co) (.slice av j cv) (wa.heap.size+1) #[Value.int .i64 0,Value.int .i64 0,Value.int .i64 0,Value.int .i64 0,Value.int .i64 0] 41):=BAwb.out.below (Below.refl _ _);obtain⟨z0,z1,z2,z3,z4⟩:=zb6 HBL.out.1;have zf:=fun i=>frozen_of_row _ _ i _ _ HBL.out.1;have hkb:=HBL.out.2.2.1.symm;go_simp;refine hK.out _ _ ?_ (fun hHeld2=> ?_)
            ·with_reducible exact zK9 hHeld hkb
            clear hK K;refine wpAnyH_done (by kernel_rfl) ?_ _
            (try go_wp2_with fail)
            go_meet;exact⟨_,_,_,_,rfl,(HDL.out.boxes5 HBL.out _ _ _ _ _).1,(HDL.out.boxes5 HBL.out _ _ _ _ _).2⟩
           exact AllReadyH.nil
          exact AllReadyH.nil
         exact AllReadyH.nil
        exact AllReadyH.nil
       refine AllReadyH.cons rfl (fun K hK=> ?_) ?_
       ·go_simp
        refine(zb1 q pwa c 3 a bs wa (Rwa.out.below (Below.refl _ _)) (by omega)).mono ?_;rintro e wb ⟨xwb,pwb,rfl,hx0,hx1,hr,hg⟩;have Dwb:Hid _:=(Dwa.out.below (Below.refl _ _)).read hr hg;have Rwb:Hid (RD wb q a bs c pwb):=hr;have kSwb:=Dwb.out.cells.1.2.2.2.1;obtain⟨xwb,rfl⟩:=Int.eq_ofNat_of_zero_le hx0;have hxb:xwb<3:=by omega
        have hxb':(xwb:Int)<3:=by omega
        obtain⟨z9,HZ9⟩:=nmd ([(5:Int),10,100].getD xwb 0);clear hr hg hx0 hx1
        (try go_wp2_with fail)
        refine hK.out _ _ ?_ (fun hHeld=> ?_)
        ·exact kSwb
        clear hK K
        (try simp only[Act.put])
        refine wpAnyH_ready (rs:=[8,14]) (by kernel_rfl) (by simp) ?_;refine AllReadyH.cons rfl (fun K hK=> ?_) ?_
        ·go_simp
         refine hK.out _ _ ?_ (fun hHeld=> ?_)
         ·exact(Dwb.out.below ((Below.refl _ _).alloc (Nat.le_refl _) _)).cells.1.2.2.2.1
         clear hK K
         (try simp only[Act.put])
         refine tkH 11 hHeld ?_;refine wpAnyH_ready (rs:=[12,14]) (by kernel_rfl) (by simp) ?_;refine AllReadyH.cons rfl (fun K hK=> ?_) ?_
         ·have sz:=zx8 wb 5 10 100 2 xwb hxb
          rw[HZ9.out]at sz;go_simp;refine hK.out _ _ ?_ (fun hHeld=> ?_)
          ·exact(Dwb.out.below ((Below.refl _ _).alloc (Nat.le_refl _) _)).cells.1.2.2.2.1
          clear hK K
          (try simp only[Act.put])
          clear sz;refine tkH 13 hHeld ?_;refine wpAnyH_ready (rs:=[14]) (by kernel_rfl) (by simp) ?_;refine AllReadyH.cons rfl (fun K hK=> ?_) ?_
          ·go_simp
           refine hK.out _ _ ?_ (fun hHeld=> ?_)
           ·exact(Dwb.out.below (((Below.refl _ _).alloc (Nat.le_refl _) _).alloc (by simp) _)).cells.1.2.2.2.1
           clear hK K
           (try simp only[Act.put])
           refine wpAnyH_ready (rs:=[15]) (by kernel_rfl) (by simp) ?_;refine AllReadyH.cons rfl (fun K hK=> ?_) ?_
           ·go_simp
            refine hK.out _ _ ?_ (fun hHeld2=> ?_)
            ·with_reducible exact(Dwb.out.below (((Below.refl _ _).alloc (Nat.le_refl _) _).alloc (by simp) _)).cells.1.2.2.2.1
            clear hK K;refine wpAnyH_done (by kernel_rfl) ?_ _
            (try go_wp2_with fail)
            go_meet;exact⟨_,_,_,_,rfl,Dwb.out.below (((Below.refl _ _).alloc (Nat.le_refl _) _).alloc (by simp) _),zb9.new1 Dwb.out _ _ _⟩
           exact AllReadyH.nil
          exact AllReadyH.nil
         refine AllReadyH.cons rfl (fun K hK=> ?_) ?_
         ·go_simp
          refine hK.out _ _ ?_ (fun hHeld=> ?_)
          ·exact(Dwb.out.below (((Below.refl _ _).alloc (Nat.le_refl _) _).alloc (by simp) _)).cells.1.2.2.2.1
          clear hK K
          (try simp only[Act.put])
          refine wpAnyH_ready (rs:=[12]) (by kernel_rfl) (by simp) ?_;refine AllReadyH.cons rfl (fun K hK=> ?_) ?_
          ·have sz:=zg7 (za1 ((Below.refl (wb.alloc (Obj.cells #[Value.int .i64 5,Value.int .i64 10,Value.int .i64 100] 2)).heap.size (wb.alloc (Obj.cells #[Value.int .i64 5,Value.int .i64 10,Value.int .i64 100] 2))).alloc (Nat.le_refl _) (Obj.cells #[Value.int .i64 0,Value.int .i64 0,Value.int .i64 0,Value.int .i64 0,Value.int .i64 0] 41)) (za3 (heap_alloc_new wb (Obj.cells #[Value.int .i64 5,Value.int .i64 10,Value.int .i64 100] 2))) (heap_alloc_new wb (Obj.cells #[Value.int .i64 5,Value.int .i64 10,Value.int .i64 100] 2))) hxb
           rw[HZ9.out]at sz;go_simp;refine hK.out _ _ ?_ (fun hHeld=> ?_)
           ·exact(Dwb.out.below (((Below.refl _ _).alloc (Nat.le_refl _) _).alloc (by simp) _)).cells.1.2.2.2.1
           clear hK K
           (try simp only[Act.put])
           clear sz;refine tkH 13 hHeld ?_;refine wpAnyH_ready (rs:=[15]) (by kernel_rfl) (by simp) ?_;refine AllReadyH.cons rfl (fun K hK=> ?_) ?_
           ·go_simp
            refine hK.out _ _ ?_ (fun hHeld2=> ?_)
            ·with_reducible exact(Dwb.out.below (((Below.refl _ _).alloc (Nat.le_refl _) _).alloc (by simp) _)).cells.1.2.2.2.1
            clear hK K;refine wpAnyH_done (by kernel_rfl) ?_ _
            (try go_wp2_with fail)
            go_meet;exact⟨_,_,_,_,rfl,Dwb.out.below (((Below.refl _ _).alloc (Nat.le_refl _) _).alloc (by simp) _),zb9.new1 Dwb.out _ _ _⟩
           exact AllReadyH.nil
          exact AllReadyH.nil
         exact AllReadyH.nil
        refine AllReadyH.cons rfl (fun K hK=> ?_) ?_
        ·go_simp
         refine hK.out _ _ ?_ (fun hHeld=> ?_)
         ·exact(Dwb.out.below ((Below.refl _ _).alloc (Nat.le_refl _) _)).cells.1.2.2.2.1
         clear hK K
         (try simp only[Act.put])
         refine wpAnyH_ready (rs:=[8]) (by kernel_rfl) (by simp) ?_;refine AllReadyH.cons rfl (fun K hK=> ?_) ?_
         ·go_simp
          refine hK.out _ _ ?_ (fun hHeld=> ?_)
          ·exact(Dwb.out.below (((Below.refl _ _).alloc (Nat.le_refl _) _).alloc (by simp) _)).cells.1.2.2.2.1
          clear hK K
          (try simp only[Act.put])
          refine tkH 11 hHeld ?_;refine wpAnyH_ready (rs:=[12]) (by kernel_rfl) (by simp) ?_;refine AllReadyH.cons rfl (fun K hK=> ?_) ?_
          ·have sz:=zx8 (wb.alloc (Obj.cells #[Value.int .i64 0,Value.int .i64 0,Value.int .i64 0,Value.int .i64 0,Value.int .i64 0] 41)) 5 10 100 2 xwb hxb
           rw[World.size_alloc]at sz;rw[HZ9.out]at sz;go_simp;refine hK.out _ _ ?_ (fun hHeld=> ?_)
           ·exact(Dwb.out.below (((Below.refl _ _).alloc (Nat.le_refl _) _).alloc (by simp) _)).cells.1.2.2.2.1
           clear hK K
           (try simp only[Act.put])
           clear sz;refine tkH 13 hHeld ?_;refine wpAnyH_ready (rs:=[15]) (by kernel_rfl) (by simp) ?_;refine AllReadyH.cons rfl (fun K hK=> ?_) ?_
           ·go_simp
            refine hK.out _ _ ?_ (fun hHeld2=> ?_)
            ·with_reducible exact(Dwb.out.below (((Below.refl _ _).alloc (Nat.le_refl _) _).alloc (by simp) _)).cells.1.2.2.2.1
            clear hK K;refine wpAnyH_done (by kernel_rfl) ?_ _
            (try go_wp2_with fail)
            go_meet;exact⟨_,_,_,_,rfl,Dwb.out.below (((Below.refl _ _).alloc (Nat.le_refl _) _).alloc (by simp) _),(zb9.new Dwb.out _ _).below ((Below.refl _ _).alloc (Nat.le_refl _) _)⟩
           exact AllReadyH.nil
          exact AllReadyH.nil
         exact AllReadyH.nil
        exact AllReadyH.nil
       refine AllReadyH.cons rfl (fun K hK=> ?_) ?_
       ·go_simp
        refine hK.out _ _ ?_ (fun hHeld=> ?_)
        ·exact(Dwa.out.below ((Below.refl _ _).alloc (Nat.le_refl _) _)).cells.1.2.2.2.1
        clear hK K
        (try simp only[Act.put])
        refine wpAnyH_ready (rs:=[8,10]) (by kernel_rfl) (by simp) ?_;refine AllReadyH.cons rfl (fun K hK=> ?_) ?_
        ·go_simp
         refine hK.out _ _ ?_ (fun hHeld=> ?_)
         ·exact(Dwa.out.below (((Below.refl _ _).alloc (Nat.le_refl _) _).alloc (by simp) _)).cells.1.2.2.2.1
         clear hK K
         (try simp only[Act.put])
         refine wpAnyH_ready (rs:=[10]) (by kernel_rfl) (by simp) ?_;refine AllReadyH.cons rfl (fun K hK=> ?_) ?_
         ·go_simp
          refine(zb1 q pwa c 3 a bs ((wa.alloc (Obj.cells #[Value.int .i64 0,Value.int .i64 0,Value.int .i64 0,Value.int .i64 0,Value.int .i64 0] 41)).alloc (Obj.cells #[Value.int .i64 5,Value.int .i64 10,Value.int .i64 100] 2)) (Rwa.out.below (((Below.refl _ _).alloc (Nat.le_refl _) _).alloc (by simp) _)) (by omega)).mono ?_;rintro e wb ⟨xwb,pwb,rfl,hx0,hx1,hr,hg⟩;have Dwb:Hid _:=(Dwa.out.below (((Below.refl _ _).alloc (Nat.le_refl _) _).alloc (by simp) _)).read hr hg;have Rwb:Hid (RD wb q a bs c pwb):=hr;have kSwb:=Dwb.out.cells.1.2.2.2.1;have BAwb:Hid (zb9 w wb k g (.slice (some ⟨go,0,none⟩) m1 co) (.slice av j cv) wa.heap.size #[Value.int .i64 0,Value.int .i64 0,Value.int .i64 0,Value.int .i64 0,Value.int .i64 0] 41):=by show zb9 _ _ _ _ _ _ _ _ _;have h:=((zb9.new Dwa.out _ _).below ((Below.refl _ _).alloc (Nat.le_refl _) _)).read HQ.out hg;simpa using h
          have BSwb:Hid (zb9 w wb k g (.slice (some ⟨go,0,none⟩) m1 co) (.slice av j cv) (wa.heap.size+1) #[Value.int .i64 5,Value.int .i64 10,Value.int .i64 100] 2):=by show zb9 _ _ _ _ _ _ _ _ _;have h:=(zb9.new (Dwa.out.below ((Below.refl _ _).alloc (Nat.le_refl _) _)) _ _).read HQ.out hg;simpa using h
          obtain⟨xwb,rfl⟩:=Int.eq_ofNat_of_zero_le hx0;have hxb:xwb<3:=by omega
          have hxb':(xwb:Int)<3:=by omega
          obtain⟨z9,HZ9⟩:=nmd ([(5:Int),10,100].getD xwb 0);obtain⟨z0,z1,z2,z3,z4⟩:=zb6 BAwb.out.1;have zf:=fun i=>frozen_of_row _ _ i _ _ BAwb.out.1;have hkb:=BAwb.out.2.2.1.symm;clear hr hg hx0 hx1
          (try go_wp2_with fail)
          refine hK.out _ _ ?_ (fun hHeld=> ?_)
          ·exact kSwb
          clear hK K
          (try simp only[Act.put])
          refine tkH 11 hHeld ?_;refine wpAnyH_ready (rs:=[12]) (by kernel_rfl) (by simp) ?_;refine AllReadyH.cons rfl (fun K hK=> ?_) ?_
          ·have sz:=zg7 BSwb.out.1 hxb
           rw[HZ9.out]at sz;go_simp;refine hK.out _ _ ?_ (fun hHeld=> ?_)
           ·exact(Dwb.out.below (Below.refl _ _)).cells.1.2.2.2.1
           clear hK K
           (try simp only[Act.put])
           clear sz;refine tkH 13 hHeld ?_;refine wpAnyH_ready (rs:=[15]) (by kernel_rfl) (by simp) ?_;refine AllReadyH.cons rfl (fun K hK=> ?_) ?_
           ·have HDL:Hid _:=Dwb.out.below (Below.refl _ _)
            have HBL:Hid (zb9 w wb k g (.slice (some ⟨go,0,none⟩) m1 co) (.slice av j cv) wa.heap.size #[Value.int .i64 0,Value.int .i64 0,Value.int .i64 0,Value.int .i64 0,Value.int .i64 0] 41):=BAwb.out.below (Below.refl _ _);obtain⟨z0,z1,z2,z3,z4⟩:=zb6 HBL.out.1;have zf:=fun i=>frozen_of_row _ _ i _ _ HBL.out.1;have hkb:=HBL.out.2.2.1.symm;go_simp;refine hK.out _ _ ?_ (fun hHeld2=> ?_)
            ·with_reducible exact zK9 hHeld hkb
            clear hK K;refine wpAnyH_done (by kernel_rfl) ?_ _
            (try go_wp2_with fail)
            go_meet;exact⟨_,_,_,_,rfl,(HDL.out.boxes5 HBL.out _ _ _ _ _).1,(HDL.out.boxes5 HBL.out _ _ _ _ _).2⟩
           exact AllReadyH.nil
          exact AllReadyH.nil
         exact AllReadyH.nil
        refine AllReadyH.cons rfl (fun K hK=> ?_) ?_
        ·go_simp
         refine(zb1 q pwa c 3 a bs (wa.alloc (Obj.cells #[Value.int .i64 0,Value.int .i64 0,Value.int .i64 0,Value.int .i64 0,Value.int .i64 0] 41)) (Rwa.out.below ((Below.refl _ _).alloc (Nat.le_refl _) _)) (by omega)).mono ?_;rintro e wb ⟨xwb,pwb,rfl,hx0,hx1,hr,hg⟩;have Dwb:Hid _:=(Dwa.out.below ((Below.refl _ _).alloc (Nat.le_refl _) _)).read hr hg;have Rwb:Hid (RD wb q a bs c pwb):=hr;have kSwb:=Dwb.out.cells.1.2.2.2.1;have BAwb:Hid (zb9 w wb k g (.slice (some ⟨go,0,none⟩) m1 co) (.slice av j cv) wa.heap.size #[Value.int .i64 0,Value.int .i64 0,Value.int .i64 0,Value.int .i64 0,Value.int .i64 0] 41):=by show zb9 _ _ _ _ _ _ _ _ _;have h:=(zb9.new Dwa.out _ _).read HQ.out hg;simpa using h
         obtain⟨xwb,rfl⟩:=Int.eq_ofNat_of_zero_le hx0;have hxb:xwb<3:=by omega
         have hxb':(xwb:Int)<3:=by omega
         obtain⟨z9,HZ9⟩:=nmd ([(5:Int),10,100].getD xwb 0);obtain⟨z0,z1,z2,z3,z4⟩:=zb6 BAwb.out.1;have zf:=fun i=>frozen_of_row _ _ i _ _ BAwb.out.1;have hkb:=BAwb.out.2.2.1.symm;clear hr hg hx0 hx1
         (try go_wp2_with fail)
         refine hK.out _ _ ?_ (fun hHeld=> ?_)
         ·exact kSwb
         clear hK K
         (try simp only[Act.put])
         refine wpAnyH_ready (rs:=[8]) (by kernel_rfl) (by simp) ?_;refine AllReadyH.cons rfl (fun K hK=> ?_) ?_
         ·go_simp
          refine hK.out _ _ ?_ (fun hHeld=> ?_)
          ·exact(Dwb.out.below ((Below.refl _ _).alloc (Nat.le_refl _) _)).cells.1.2.2.2.1
          clear hK K
          (try simp only[Act.put])
          refine tkH 11 hHeld ?_;refine wpAnyH_ready (rs:=[12]) (by kernel_rfl) (by simp) ?_;refine AllReadyH.cons rfl (fun K hK=> ?_) ?_
          ·have sz:=zx8 wb 5 10 100 2 xwb hxb
           rw[HZ9.out]at sz;go_simp;refine hK.out _ _ ?_ (fun hHeld=> ?_)
           ·exact(Dwb.out.below ((Below.refl _ _).alloc (Nat.le_refl _) _)).cells.1.2.2.2.1
           clear hK K
           (try simp only[Act.put])
           clear sz;refine tkH 13 hHeld ?_;refine wpAnyH_ready (rs:=[15]) (by kernel_rfl) (by simp) ?_;refine AllReadyH.cons rfl (fun K hK=> ?_) ?_
           ·have HDL:Hid (CD w (wb.alloc (Obj.cells #[Value.int .i64 5,Value.int .i64 10,Value.int .i64 100] 2)) q a bs c k n g zl cg zs (.slice (some ⟨go,0,none⟩) m1 co) m1 O (.slice av j cv) j V f0):=Dwb.out.below ((Below.refl _ _).alloc (Nat.le_refl _) _)
            have HBL:Hid (zb9 w (wb.alloc (Obj.cells #[Value.int .i64 5,Value.int .i64 10,Value.int .i64 100] 2)) k g (.slice (some ⟨go,0,none⟩) m1 co) (.slice av j cv) wa.heap.size #[Value.int .i64 0,Value.int .i64 0,Value.int .i64 0,Value.int .i64 0,Value.int .i64 0] 41):=BAwb.out.below ((Below.refl _ _).alloc (Nat.le_refl _) _);obtain⟨z0,z1,z2,z3,z4⟩:=zb6 HBL.out.1;have zf:=fun i=>frozen_of_row _ _ i _ _ HBL.out.1;have hkb:=HBL.out.2.2.1.symm;go_simp;refine hK.out _ _ ?_ (fun hHeld2=> ?_)
            ·with_reducible exact zK9 hHeld hkb
            clear hK K;refine wpAnyH_done (by kernel_rfl) ?_ _
            (try go_wp2_with fail)
            go_meet;exact⟨_,_,_,_,rfl,(HDL.out.boxes5 HBL.out _ _ _ _ _).1,(HDL.out.boxes5 HBL.out _ _ _ _ _).2⟩
           exact AllReadyH.nil
          exact AllReadyH.nil
         exact AllReadyH.nil
        exact AllReadyH.nil
       exact AllReadyH.nil
      refine AllReadyH.cons rfl (fun K hK=> ?_) ?_
      ·go_simp
       refine hK.out _ _ ?_ (fun hHeld=> ?_)
       ·exact(Dwr.out.below (((Below.refl _ _).alloc (Nat.le_refl _) _).drew)).cells.1.2.2.2.1
       clear hK K
       (try simp only[Act.put])
       refine wpAnyH_ready (rs:=[7,14]) (by kernel_rfl) (by simp) ?_;refine AllReadyH.cons rfl (fun K hK=> ?_) ?_
       ·go_simp
        refine(zb1 q pwr c n a bs (wr.alloc (Obj.cells #[Value.int .i64 5,Value.int .i64 10,Value.int .i64 100] 2)).drew (Rwr.out.below (((Below.refl _ _).alloc (Nat.le_refl _) _).drew)) (by omega)).mono ?_;rintro e wa ⟨xwa,pwa,rfl,hx0,hx1,hr,hg⟩;have Dwa:Hid _:=(Dwr.out.below (((Below.refl _ _).alloc (Nat.le_refl _) _).drew)).read hr hg;have Rwa:Hid (RD wa q a bs c pwa):=hr;have kSwa:=Dwa.out.cells.1.2.2.2.1;have BSwa:Hid (zb9 w wa k g (.slice (some ⟨go,0,none⟩) m1 co) (.slice av j cv) wr.heap.size #[Value.int .i64 5,Value.int .i64 10,Value.int .i64 100] 2):=by show zb9 _ _ _ _ _ _ _ _ _;have h:=((zb9.new Dwr.out _ _).below (Below.refl _ _).drew).read HQ.out hg;simpa using h
        clear hr hg hx0 hx1
        (try go_wp2_with fail)
        refine hK.out _ _ ?_ (fun hHeld=> ?_)
        ·exact kSwa
        clear hK K
        (try simp only[Act.put])
        refine wpAnyH_ready (rs:=[10,14]) (by kernel_rfl) (by simp) ?_;refine AllReadyH.cons rfl (fun K hK=> ?_) ?_
        ·go_simp
         refine(zb1 q pwa c 3 a bs wa (Rwa.out.below (Below.refl _ _)) (by omega)).mono ?_;rintro e wb ⟨xwb,pwb,rfl,hx0,hx1,hr,hg⟩;have Dwb:Hid _:=(Dwa.out.below (Below.refl _ _)).read hr hg;have Rwb:Hid (RD wb q a bs c pwb):=hr;have kSwb:=Dwb.out.cells.1.2.2.2.1;have BSwb:Hid (zb9 w wb k g (.slice (some ⟨go,0,none⟩) m1 co) (.slice av j cv) wr.heap.size #[Value.int .i64 5,Value.int .i64 10,Value.int .i64 100] 2):=(BSwa.out.below (Below.refl _ _)).read HQ.out hg;obtain⟨xwb,rfl⟩:=Int.eq_ofNat_of_zero_le hx0;have hxb:xwb<3:=by omega
         have hxb':(xwb:Int)<3:=by omega
         obtain⟨z9,HZ9⟩:=nmd ([(5:Int),10,100].getD xwb 0);clear hr hg hx0 hx1
         (try go_wp2_with fail)
         refine hK.out _ _ ?_ (fun hHeld=> ?_)
         ·exact kSwb
         clear hK K
         (try simp only[Act.put])
         refine tkH 11 hHeld ?_;refine wpAnyH_ready (rs:=[12,14]) (by kernel_rfl) (by simp) ?_;refine AllReadyH.cons rfl (fun K hK=> ?_) ?_
         ·have sz:=zg7 BSwb.out.1 hxb
          rw[HZ9.out]at sz;go_simp;refine hK.out _ _ ?_ (fun hHeld=> ?_)
          ·exact(Dwb.out.below (Below.refl _ _)).cells.1.2.2.2.1
          clear hK K
          (try simp only[Act.put])
          clear sz;refine tkH 13 hHeld ?_;refine wpAnyH_ready (rs:=[14]) (by kernel_rfl) (by simp) ?_;refine AllReadyH.cons rfl (fun K hK=> ?_) ?_
          ·go_simp
           refine hK.out _ _ ?_ (fun hHeld=> ?_)
           ·exact(Dwb.out.below ((Below.refl _ _).alloc (Nat.le_refl _) _)).cells.1.2.2.2.1
           clear hK K
           (try simp only[Act.put])
           refine wpAnyH_ready (rs:=[15]) (by kernel_rfl) (by simp) ?_;refine AllReadyH.cons rfl (fun K hK=> ?_) ?_
           ·go_simp
            refine hK.out _ _ ?_ (fun hHeld2=> ?_)
            ·with_reducible exact(Dwb.out.below ((Below.refl _ _).alloc (Nat.le_refl _) _)).cells.1.2.2.2.1
            clear hK K;refine wpAnyH_done (by kernel_rfl) ?_ _
            (try go_wp2_with fail)
            go_meet;exact⟨_,_,_,_,rfl,Dwb.out.below ((Below.refl _ _).alloc (Nat.le_refl _) _),zb9.new Dwb.out _ _⟩
           exact AllReadyH.nil
          exact AllReadyH.nil
         refine AllReadyH.cons rfl (fun K hK=> ?_) ?_
         ·go_simp
          refine hK.out _ _ ?_ (fun hHeld=> ?_)
          ·exact(Dwb.out.below ((Below.refl _ _).alloc (Nat.le_refl _) _)).cells.1.2.2.2.1
          clear hK K
          (try simp only[Act.put])
          refine wpAnyH_ready (rs:=[12]) (by kernel_rfl) (by simp) ?_;refine AllReadyH.cons rfl (fun K hK=> ?_) ?_
          ·have sz:=zg7 (za1 ((Below.refl wb.heap.size wb).alloc (Nat.le_refl _) (Obj.cells #[Value.int .i64 0,Value.int .i64 0,Value.int .i64 0,Value.int .i64 0,Value.int .i64 0] 41)) (za3 BSwb.out.1) BSwb.out.1) hxb
           rw[HZ9.out]at sz;go_simp;refine hK.out _ _ ?_ (fun hHeld=> ?_)
           ·exact(Dwb.out.below ((Below.refl _ _).alloc (Nat.le_refl _) _)).cells.1.2.2.2.1
           clear hK K
           (try simp only[Act.put])
           clear sz;refine tkH 13 hHeld ?_;refine wpAnyH_ready (rs:=[15]) (by kernel_rfl) (by simp) ?_;refine AllReadyH.cons rfl (fun K hK=> ?_) ?_
           ·go_simp
            refine hK.out _ _ ?_ (fun hHeld2=> ?_)
            ·with_reducible exact(Dwb.out.below ((Below.refl _ _).alloc (Nat.le_refl _) _)).cells.1.2.2.2.1
            clear hK K;refine wpAnyH_done (by kernel_rfl) ?_ _
            (try go_wp2_with fail)
            go_meet;exact⟨_,_,_,_,rfl,Dwb.out.below ((Below.refl _ _).alloc (Nat.le_refl _) _),zb9.new Dwb.out _ _⟩
           exact AllReadyH.nil
          exact AllReadyH.nil
         exact AllReadyH.nil
        refine AllReadyH.cons rfl (fun K hK=> ?_) ?_
        ·go_simp
         refine hK.out _ _ ?_ (fun hHeld=> ?_)
         ·exact(Dwa.out.below ((Below.refl _ _).alloc (Nat.le_refl _) _)).cells.1.2.2.2.1
         clear hK K
         (try simp only[Act.put])
         refine wpAnyH_ready (rs:=[10]) (by kernel_rfl) (by simp) ?_;refine AllReadyH.cons rfl (fun K hK=> ?_) ?_
         ·go_simp
          refine(zb1 q pwa c 3 a bs (wa.alloc (Obj.cells #[Value.int .i64 0,Value.int .i64 0,Value.int .i64 0,Value.int .i64 0,Value.int .i64 0] 41)) (Rwa.out.below ((Below.refl _ _).alloc (Nat.le_refl _) _)) (by omega)).mono ?_;rintro e wb ⟨xwb,pwb,rfl,hx0,hx1,hr,hg⟩;have Dwb:Hid _:=(Dwa.out.below ((Below.refl _ _).alloc (Nat.le_refl _) _)).read hr hg;have Rwb:Hid (RD wb q a bs c pwb):=hr;have kSwb:=Dwb.out.cells.1.2.2.2.1;have BAwb:Hid (zb9 w wb k g (.slice (some ⟨go,0,none⟩) m1 co) (.slice av j cv) wa.heap.size #[Value.int .i64 0,Value.int .i64 0,Value.int .i64 0,Value.int .i64 0,Value.int .i64 0] 41):=by show zb9 _ _ _ _ _ _ _ _ _;have h:=(zb9.new Dwa.out _ _).read HQ.out hg;simpa using h
          have BSwb:Hid (zb9 w wb k g (.slice (some ⟨go,0,none⟩) m1 co) (.slice av j cv) wr.heap.size #[Value.int .i64 5,Value.int .i64 10,Value.int .i64 100] 2):=(BSwa.out.below ((Below.refl _ _).alloc (Nat.le_refl _) _)).read HQ.out hg;obtain⟨xwb,rfl⟩:=Int.eq_ofNat_of_zero_le hx0;have hxb:xwb<3:=by omega
          have hxb':(xwb:Int)<3:=by omega
          obtain⟨z9,HZ9⟩:=nmd ([(5:Int),10,100].getD xwb 0);obtain⟨z0,z1,z2,z3,z4⟩:=zb6 BAwb.out.1;have zf:=fun i=>frozen_of_row _ _ i _ _ BAwb.out.1;have hkb:=BAwb.out.2.2.1.symm;clear hr hg hx0 hx1
          (try go_wp2_with fail)
          refine hK.out _ _ ?_ (fun hHeld=> ?_)
          ·exact kSwb
          clear hK K
          (try simp only[Act.put])
          refine tkH 11 hHeld ?_;refine wpAnyH_ready (rs:=[12]) (by kernel_rfl) (by simp) ?_;refine AllReadyH.cons rfl (fun K hK=> ?_) ?_
          ·have sz:=zg7 BSwb.out.1 hxb
           rw[HZ9.out]at sz;go_simp;refine hK.out _ _ ?_ (fun hHeld=> ?_)
           ·exact(Dwb.out.below (Below.refl _ _)).cells.1.2.2.2.1
           clear hK K
           (try simp only[Act.put])
           clear sz;refine tkH 13 hHeld ?_;refine wpAnyH_ready (rs:=[15]) (by kernel_rfl) (by simp) ?_;refine AllReadyH.cons rfl (fun K hK=> ?_) ?_
           ·have HDL:Hid _:=Dwb.out.below (Below.refl _ _)
            have HBL:Hid (zb9 w wb k g (.slice (some ⟨go,0,none⟩) m1 co) (.slice av j cv) wa.heap.size #[Value.int .i64 0,Value.int .i64 0,Value.int .i64 0,Value.int .i64 0,Value.int .i64 0] 41):=BAwb.out.below (Below.refl _ _);obtain⟨z0,z1,z2,z3,z4⟩:=zb6 HBL.out.1;have zf:=fun i=>frozen_of_row _ _ i _ _ HBL.out.1;have hkb:=HBL.out.2.2.1.symm;go_simp;refine hK.out _ _ ?_ (fun hHeld2=> ?_)
            ·with_reducible exact zK9 hHeld hkb
            clear hK K;refine wpAnyH_done (by kernel_rfl) ?_ _
            (try go_wp2_with fail)
            go_meet;exact⟨_,_,_,_,rfl,(HDL.out.boxes5 HBL.out _ _ _ _ _).1,(HDL.out.boxes5 HBL.out _ _ _ _ _).2⟩
           exact AllReadyH.nil
          exact AllReadyH.nil
         exact AllReadyH.nil
        exact AllReadyH.nil
       refine AllReadyH.cons rfl (fun K hK=> ?_) ?_
       ·go_simp
        refine hK.out _ _ ?_ (fun hHeld=> ?_)
        ·exact(Dwr.out.below ((((Below.refl _ _).alloc (Nat.le_refl _) _).alloc (by simp) _).drew)).cells.1.2.2.2.1
        clear hK K
        (try simp only[Act.put])
        refine wpAnyH_ready (rs:=[7]) (by kernel_rfl) (by simp) ?_;refine AllReadyH.cons rfl (fun K hK=> ?_) ?_
        ·go_simp
         refine(zb1 q pwr c n a bs ((wr.alloc (Obj.cells #[Value.int .i64 5,Value.int .i64 10,Value.int .i64 100] 2)).alloc (Obj.cells #[Value.int .i64 0,Value.int .i64 0,Value.int .i64 0,Value.int .i64 0,Value.int .i64 0] 41)).drew (Rwr.out.below ((((Below.refl _ _).alloc (Nat.le_refl _) _).alloc (by simp) _).drew)) (by omega)).mono ?_;rintro e wa ⟨xwa,pwa,rfl,hx0,hx1,hr,hg⟩;have Dwa:Hid _:=(Dwr.out.below ((((Below.refl _ _).alloc (Nat.le_refl _) _).alloc (by simp) _).drew)).read hr hg;have Rwa:Hid (RD wa q a bs c pwa):=hr;have kSwa:=Dwa.out.cells.1.2.2.2.1;have BAwa:Hid (zb9 w wa k g (.slice (some ⟨go,0,none⟩) m1 co) (.slice av j cv) (wr.heap.size+1) #[Value.int .i64 0,Value.int .i64 0,Value.int .i64 0,Value.int .i64 0,Value.int .i64 0] 41):=by show zb9 _ _ _ _ _ _ _ _ _;have h:=((zb9.new (Dwr.out.below ((Below.refl _ _).alloc (Nat.le_refl _) _)) _ _).below (Below.refl _ _).drew).read HQ.out hg;simpa using h
         have BSwa:Hid (zb9 w wa k g (.slice (some ⟨go,0,none⟩) m1 co) (.slice av j cv) wr.heap.size #[Value.int .i64 5,Value.int .i64 10,Value.int .i64 100] 2):=by show zb9 _ _ _ _ _ _ _ _ _;have h:=(((zb9.new Dwr.out _ _).below ((Below.refl _ _).alloc (Nat.le_refl _) _)).below (Below.refl _ _).drew).read HQ.out hg;simpa using h
         clear hr hg hx0 hx1
         (try go_wp2_with fail)
         refine hK.out _ _ ?_ (fun hHeld=> ?_)
         ·exact kSwa
         clear hK K
         (try simp only[Act.put])
         refine wpAnyH_ready (rs:=[10]) (by kernel_rfl) (by simp) ?_;refine AllReadyH.cons rfl (fun K hK=> ?_) ?_
         ·go_simp
          refine(zb1 q pwa c 3 a bs wa (Rwa.out.below (Below.refl _ _)) (by omega)).mono ?_;rintro e wb ⟨xwb,pwb,rfl,hx0,hx1,hr,hg⟩;have Dwb:Hid _:=(Dwa.out.below (Below.refl _ _)).read hr hg;have Rwb:Hid (RD wb q a bs c pwb):=hr;have kSwb:=Dwb.out.cells.1.2.2.2.1;have BAwb:Hid (zb9 w wb k g (.slice (some ⟨go,0,none⟩) m1 co) (.slice av j cv) (wr.heap.size+1) #[Value.int .i64 0,Value.int .i64 0,Value.int .i64 0,Value.int .i64 0,Value.int .i64 0] 41):=(BAwa.out.below (Below.refl _ _)).read HQ.out hg;have BSwb:Hid (zb9 w wb k g (.slice (some ⟨go,0,none⟩) m1 co) (.slice av j cv) wr.heap.size #[Value.int .i64 5,Value.int .i64 10,Value.int .i64 100] 2):=(BSwa.out.below (Below.refl _ _)).read HQ.out hg;obtain⟨xwb,rfl⟩:=Int.eq_ofNat_of_zero_le hx0;have hxb:xwb<3:=by omega
          have hxb':(xwb:Int)<3:=by omega
          obtain⟨z9,HZ9⟩:=nmd ([(5:Int),10,100].getD xwb 0);obtain⟨z0,z1,z2,z3,z4⟩:=zb6 BAwb.out.1;have zf:=fun i=>frozen_of_row _ _ i _ _ BAwb.out.1;have hkb:=BAwb.out.2.2.1.symm;clear hr hg hx0 hx1
          (try go_wp2_with fail)
          refine hK.out _ _ ?_ (fun hHeld=> ?_)
          ·exact kSwb
          clear hK K
          (try simp only[Act.put])
          refine tkH 11 hHeld ?_;refine wpAnyH_ready (rs:=[12]) (by kernel_rfl) (by simp) ?_;refine AllReadyH.cons rfl (fun K hK=> ?_) ?_
          ·have sz:=zg7 BSwb.out.1 hxb
           rw[HZ9.out]at sz;go_simp;refine hK.out _ _ ?_ (fun hHeld=> ?_)
           ·exact(Dwb.out.below (Below.refl _ _)).cells.1.2.2.2.1
           clear hK K
           (try simp only[Act.put])
           clear sz;refine tkH 13 hHeld ?_;refine wpAnyH_ready (rs:=[15]) (by kernel_rfl) (by simp) ?_;refine AllReadyH.cons rfl (fun K hK=> ?_) ?_
           ·have HDL:Hid _:=Dwb.out.below (Below.refl _ _)
            have HBL:Hid (zb9 w wb k g (.slice (some ⟨go,0,none⟩) m1 co) (.slice av j cv) (wr.heap.size+1) #[Value.int .i64 0,Value.int .i64 0,Value.int .i64 0,Value.int .i64 0,Value.int .i64 0] 41):=BAwb.out.below (Below.refl _ _);obtain⟨z0,z1,z2,z3,z4⟩:=zb6 HBL.out.1;have zf:=fun i=>frozen_of_row _ _ i _ _ HBL.out.1;have hkb:=HBL.out.2.2.1.symm;go_simp;refine hK.out _ _ ?_ (fun hHeld2=> ?_)
            ·with_reducible exact zK9 hHeld hkb
            clear hK K;refine wpAnyH_done (by kernel_rfl) ?_ _
            (try go_wp2_with fail)
            go_meet;exact⟨_,_,_,_,rfl,(HDL.out.boxes5 HBL.out _ _ _ _ _).1,(HDL.out.boxes5 HBL.out _ _ _ _ _).2⟩
           exact AllReadyH.nil
          exact AllReadyH.nil
         exact AllReadyH.nil
        exact AllReadyH.nil
       exact AllReadyH.nil
      refine AllReadyH.cons rfl (fun K hK=> ?_) ?_
      ·go_simp
       refine hK.out _ _ ?_ (fun hHeld=> ?_)
       ·exact(Dwr.out.below (((Below.refl _ _).alloc (Nat.le_refl _) _).drew)).cells.1.2.2.2.1
       clear hK K
       (try simp only[Act.put])
       refine wpAnyH_ready (rs:=[7,8]) (by kernel_rfl) (by simp) ?_;refine AllReadyH.cons rfl (fun K hK=> ?_) ?_
       ·go_simp
        refine(zb1 q pwr c n a bs (wr.alloc (Obj.cells #[Value.int .i64 0,Value.int .i64 0,Value.int .i64 0,Value.int .i64 0,Value.int .i64 0] 41)).drew (Rwr.out.below (((Below.refl _ _).alloc (Nat.le_refl _) _).drew)) (by omega)).mono ?_;rintro e wa ⟨xwa,pwa,rfl,hx0,hx1,hr,hg⟩;have Dwa:Hid _:=(Dwr.out.below (((Below.refl _ _).alloc (Nat.le_refl _) _).drew)).read hr hg;have Rwa:Hid (RD wa q a bs c pwa):=hr;have kSwa:=Dwa.out.cells.1.2.2.2.1;have BAwa:Hid (zb9 w wa k g (.slice (some ⟨go,0,none⟩) m1 co) (.slice av j cv) wr.heap.size #[Value.int .i64 0,Value.int .i64 0,Value.int .i64 0,Value.int .i64 0,Value.int .i64 0] 41):=by show zb9 _ _ _ _ _ _ _ _ _;have h:=((zb9.new Dwr.out _ _).below (Below.refl _ _).drew).read HQ.out hg;simpa using h
        clear hr hg hx0 hx1
        (try go_wp2_with fail)
        refine hK.out _ _ ?_ (fun hHeld=> ?_)
        ·exact kSwa
        clear hK K
        (try simp only[Act.put])
        refine wpAnyH_ready (rs:=[8,10]) (by kernel_rfl) (by simp) ?_;refine AllReadyH.cons rfl (fun K hK=> ?_) ?_
        ·go_simp
         refine hK.out _ _ ?_ (fun hHeld=> ?_)
         ·exact(Dwa.out.below ((Below.refl _ _).alloc (Nat.le_refl _) _)).cells.1.2.2.2.1
         clear hK K
         (try simp only[Act.put])
         refine wpAnyH_ready (rs:=[10]) (by kernel_rfl) (by simp) ?_;refine AllReadyH.cons rfl (fun K hK=> ?_) ?_
         ·go_simp
          refine(zb1 q pwa c 3 a bs (wa.alloc (Obj.cells #[Value.int .i64 5,Value.int .i64 10,Value.int .i64 100] 2)) (Rwa.out.below ((Below.refl _ _).alloc (Nat.le_refl _) _)) (by omega)).mono ?_;rintro e wb ⟨xwb,pwb,rfl,hx0,hx1,hr,hg⟩;have Dwb:Hid _:=(Dwa.out.below ((Below.refl _ _).alloc (Nat.le_refl _) _)).read hr hg;have Rwb:Hid (RD wb q a bs c pwb):=hr;have kSwb:=Dwb.out.cells.1.2.2.2.1;have BAwb:Hid (zb9 w wb k g (.slice (some ⟨go,0,none⟩) m1 co) (.slice av j cv) wr.heap.size #[Value.int .i64 0,Value.int .i64 0,Value.int .i64 0,Value.int .i64 0,Value.int .i64 0] 41):=(BAwa.out.below ((Below.refl _ _).alloc (Nat.le_refl _) _)).read HQ.out hg;have BSwb:Hid (zb9 w wb k g (.slice (some ⟨go,0,none⟩) m1 co) (.slice av j cv) wa.heap.size #[Value.int .i64 5,Value.int .i64 10,Value.int .i64 100] 2):=by show zb9 _ _ _ _ _ _ _ _ _;have h:=(zb9.new Dwa.out _ _).read HQ.out hg;simpa using h
          obtain⟨xwb,rfl⟩:=Int.eq_ofNat_of_zero_le hx0;have hxb:xwb<3:=by omega
          have hxb':(xwb:Int)<3:=by omega
          obtain⟨z9,HZ9⟩:=nmd ([(5:Int),10,100].getD xwb 0);obtain⟨z0,z1,z2,z3,z4⟩:=zb6 BAwb.out.1;have zf:=fun i=>frozen_of_row _ _ i _ _ BAwb.out.1;have hkb:=BAwb.out.2.2.1.symm;clear hr hg hx0 hx1
          (try go_wp2_with fail)
          refine hK.out _ _ ?_ (fun hHeld=> ?_)
          ·exact kSwb
          clear hK K
          (try simp only[Act.put])
          refine tkH 11 hHeld ?_;refine wpAnyH_ready (rs:=[12]) (by kernel_rfl) (by simp) ?_;refine AllReadyH.cons rfl (fun K hK=> ?_) ?_
          ·have sz:=zg7 BSwb.out.1 hxb
           rw[HZ9.out]at sz;go_simp;refine hK.out _ _ ?_ (fun hHeld=> ?_)
           ·exact(Dwb.out.below (Below.refl _ _)).cells.1.2.2.2.1
           clear hK K
           (try simp only[Act.put])
           clear sz;refine tkH 13 hHeld ?_;refine wpAnyH_ready (rs:=[15]) (by kernel_rfl) (by simp) ?_;refine AllReadyH.cons rfl (fun K hK=> ?_) ?_
           ·have HDL:Hid _:=Dwb.out.below (Below.refl _ _)
            have HBL:Hid (zb9 w wb k g (.slice (some ⟨go,0,none⟩) m1 co) (.slice av j cv) wr.heap.size #[Value.int .i64 0,Value.int .i64 0,Value.int .i64 0,Value.int .i64 0,Value.int .i64 0] 41):=BAwb.out.below (Below.refl _ _);obtain⟨z0,z1,z2,z3,z4⟩:=zb6 HBL.out.1;have zf:=fun i=>frozen_of_row _ _ i _ _ HBL.out.1;have hkb:=HBL.out.2.2.1.symm;go_simp;refine hK.out _ _ ?_ (fun hHeld2=> ?_)
            ·with_reducible exact zK9 hHeld hkb
            clear hK K;refine wpAnyH_done (by kernel_rfl) ?_ _
            (try go_wp2_with fail)
            go_meet;exact⟨_,_,_,_,rfl,(HDL.out.boxes5 HBL.out _ _ _ _ _).1,(HDL.out.boxes5 HBL.out _ _ _ _ _).2⟩
           exact AllReadyH.nil
          exact AllReadyH.nil
         exact AllReadyH.nil
        refine AllReadyH.cons rfl (fun K hK=> ?_) ?_
        ·go_simp
         refine(zb1 q pwa c 3 a bs wa (Rwa.out.below (Below.refl _ _)) (by omega)).mono ?_;rintro e wb ⟨xwb,pwb,rfl,hx0,hx1,hr,hg⟩;have Dwb:Hid _:=(Dwa.out.below (Below.refl _ _)).read hr hg;have Rwb:Hid (RD wb q a bs c pwb):=hr;have kSwb:=Dwb.out.cells.1.2.2.2.1;have BAwb:Hid (zb9 w wb k g (.slice (some ⟨go,0,none⟩) m1 co) (.slice av j cv) wr.heap.size #[Value.int .i64 0,Value.int .i64 0,Value.int .i64 0,Value.int .i64 0,Value.int .i64 0] 41):=(BAwa.out.below (Below.refl _ _)).read HQ.out hg;obtain⟨xwb,rfl⟩:=Int.eq_ofNat_of_zero_le hx0;have hxb:xwb<3:=by omega
         have hxb':(xwb:Int)<3:=by omega
         obtain⟨z9,HZ9⟩:=nmd ([(5:Int),10,100].getD xwb 0);obtain⟨z0,z1,z2,z3,z4⟩:=zb6 BAwb.out.1;have zf:=fun i=>frozen_of_row _ _ i _ _ BAwb.out.1;have hkb:=BAwb.out.2.2.1.symm;clear hr hg hx0 hx1
         (try go_wp2_with fail)
         refine hK.out _ _ ?_ (fun hHeld=> ?_)
         ·exact kSwb
         clear hK K
         (try simp only[Act.put])
         refine wpAnyH_ready (rs:=[8]) (by kernel_rfl) (by simp) ?_;refine AllReadyH.cons rfl (fun K hK=> ?_) ?_
         ·go_simp
          refine hK.out _ _ ?_ (fun hHeld=> ?_)
          ·exact(Dwb.out.below ((Below.refl _ _).alloc (Nat.le_refl _) _)).cells.1.2.2.2.1
          clear hK K
          (try simp only[Act.put])
          refine tkH 11 hHeld ?_;refine wpAnyH_ready (rs:=[12]) (by kernel_rfl) (by simp) ?_;refine AllReadyH.cons rfl (fun K hK=> ?_) ?_
          ·have sz:=zx8 wb 5 10 100 2 xwb hxb
           rw[HZ9.out]at sz;go_simp;refine hK.out _ _ ?_ (fun hHeld=> ?_)
           ·exact(Dwb.out.below ((Below.refl _ _).alloc (Nat.le_refl _) _)).cells.1.2.2.2.1
           clear hK K
           (try simp only[Act.put])
           clear sz;refine tkH 13 hHeld ?_;refine wpAnyH_ready (rs:=[15]) (by kernel_rfl) (by simp) ?_;refine AllReadyH.cons rfl (fun K hK=> ?_) ?_
           ·have HDL:Hid (CD w (wb.alloc (Obj.cells #[Value.int .i64 5,Value.int .i64 10,Value.int .i64 100] 2)) q a bs c k n g zl cg zs (.slice (some ⟨go,0,none⟩) m1 co) m1 O (.slice av j cv) j V f0):=Dwb.out.below ((Below.refl _ _).alloc (Nat.le_refl _) _)
            have HBL:Hid (zb9 w (wb.alloc (Obj.cells #[Value.int .i64 5,Value.int .i64 10,Value.int .i64 100] 2)) k g (.slice (some ⟨go,0,none⟩) m1 co) (.slice av j cv) wr.heap.size #[Value.int .i64 0,Value.int .i64 0,Value.int .i64 0,Value.int .i64 0,Value.int .i64 0] 41):=BAwb.out.below ((Below.refl _ _).alloc (Nat.le_refl _) _);obtain⟨z0,z1,z2,z3,z4⟩:=zb6 HBL.out.1;have zf:=fun i=>frozen_of_row _ _ i _ _ HBL.out.1;have hkb:=HBL.out.2.2.1.symm;go_simp;refine hK.out _ _ ?_ (fun hHeld2=> ?_)
            ·with_reducible exact zK9 hHeld hkb
            clear hK K;refine wpAnyH_done (by kernel_rfl) ?_ _
            (try go_wp2_with fail)
            go_meet;exact⟨_,_,_,_,rfl,(HDL.out.boxes5 HBL.out _ _ _ _ _).1,(HDL.out.boxes5 HBL.out _ _ _ _ _).2⟩
           exact AllReadyH.nil
          exact AllReadyH.nil
         exact AllReadyH.nil
        exact AllReadyH.nil
       refine AllReadyH.cons rfl (fun K hK=> ?_) ?_
       ·go_simp
        refine hK.out _ _ ?_ (fun hHeld=> ?_)
        ·exact(Dwr.out.below ((((Below.refl _ _).alloc (Nat.le_refl _) _).alloc (by simp) _).drew)).cells.1.2.2.2.1
        clear hK K
        (try simp only[Act.put])
        refine wpAnyH_ready (rs:=[7]) (by kernel_rfl) (by simp) ?_;refine AllReadyH.cons rfl (fun K hK=> ?_) ?_
        ·go_simp
         refine(zb1 q pwr c n a bs ((wr.alloc (Obj.cells #[Value.int .i64 0,Value.int .i64 0,Value.int .i64 0,Value.int .i64 0,Value.int .i64 0] 41)).alloc (Obj.cells #[Value.int .i64 5,Value.int .i64 10,Value.int .i64 100] 2)).drew (Rwr.out.below ((((Below.refl _ _).alloc (Nat.le_refl _) _).alloc (by simp) _).drew)) (by omega)).mono ?_;rintro e wa ⟨xwa,pwa,rfl,hx0,hx1,hr,hg⟩;have Dwa:Hid _:=(Dwr.out.below ((((Below.refl _ _).alloc (Nat.le_refl _) _).alloc (by simp) _).drew)).read hr hg;have Rwa:Hid (RD wa q a bs c pwa):=hr;have kSwa:=Dwa.out.cells.1.2.2.2.1;have BAwa:Hid (zb9 w wa k g (.slice (some ⟨go,0,none⟩) m1 co) (.slice av j cv) wr.heap.size #[Value.int .i64 0,Value.int .i64 0,Value.int .i64 0,Value.int .i64 0,Value.int .i64 0] 41):=by show zb9 _ _ _ _ _ _ _ _ _;have h:=(((zb9.new Dwr.out _ _).below ((Below.refl _ _).alloc (Nat.le_refl _) _)).below (Below.refl _ _).drew).read HQ.out hg;simpa using h
         have BSwa:Hid (zb9 w wa k g (.slice (some ⟨go,0,none⟩) m1 co) (.slice av j cv) (wr.heap.size+1) #[Value.int .i64 5,Value.int .i64 10,Value.int .i64 100] 2):=by show zb9 _ _ _ _ _ _ _ _ _;have h:=((zb9.new (Dwr.out.below ((Below.refl _ _).alloc (Nat.le_refl _) _)) _ _).below (Below.refl _ _).drew).read HQ.out hg;simpa using h
         clear hr hg hx0 hx1
         (try go_wp2_with fail)
         refine hK.out _ _ ?_ (fun hHeld=> ?_)
         ·exact kSwa
         clear hK K
         (try simp only[Act.put])
         refine wpAnyH_ready (rs:=[10]) (by kernel_rfl) (by simp) ?_;refine AllReadyH.cons rfl (fun K hK=> ?_) ?_
         ·go_simp
          refine(zb1 q pwa c 3 a bs wa (Rwa.out.below (Below.refl _ _)) (by omega)).mono ?_;rintro e wb ⟨xwb,pwb,rfl,hx0,hx1,hr,hg⟩;have Dwb:Hid _:=(Dwa.out.below (Below.refl _ _)).read hr hg;have Rwb:Hid (RD wb q a bs c pwb):=hr;have kSwb:=Dwb.out.cells.1.2.2.2.1;have BAwb:Hid (zb9 w wb k g (.slice (some ⟨go,0,none⟩) m1 co) (.slice av j cv) wr.heap.size #[Value.int .i64 0,Value.int .i64 0,Value.int .i64 0,Value.int .i64 0,Value.int .i64 0] 41):=(BAwa.out.below (Below.refl _ _)).read HQ.out hg;have BSwb:Hid (zb9 w wb k g (.slice (some ⟨go,0,none⟩) m1 co) (.slice av j cv) (wr.heap.size+1) #[Value.int .i64 5,Value.int .i64 10,Value.int .i64 100] 2):=(BSwa.out.below (Below.refl _ _)).read HQ.out hg;obtain⟨xwb,rfl⟩:=Int.eq_ofNat_of_zero_le hx0;have hxb:xwb<3:=by omega
          have hxb':(xwb:Int)<3:=by omega
          obtain⟨z9,HZ9⟩:=nmd ([(5:Int),10,100].getD xwb 0);obtain⟨z0,z1,z2,z3,z4⟩:=zb6 BAwb.out.1;have zf:=fun i=>frozen_of_row _ _ i _ _ BAwb.out.1;have hkb:=BAwb.out.2.2.1.symm;clear hr hg hx0 hx1
          (try go_wp2_with fail)
          refine hK.out _ _ ?_ (fun hHeld=> ?_)
          ·exact kSwb
          clear hK K
          (try simp only[Act.put])
          refine tkH 11 hHeld ?_;refine wpAnyH_ready (rs:=[12]) (by kernel_rfl) (by simp) ?_;refine AllReadyH.cons rfl (fun K hK=> ?_) ?_
          ·have sz:=zg7 BSwb.out.1 hxb
           rw[HZ9.out]at sz;go_simp;refine hK.out _ _ ?_ (fun hHeld=> ?_)
           ·exact(Dwb.out.below (Below.refl _ _)).cells.1.2.2.2.1
           clear hK K
           (try simp only[Act.put])
           clear sz;refine tkH 13 hHeld ?_;refine wpAnyH_ready (rs:=[15]) (by kernel_rfl) (by simp) ?_;refine AllReadyH.cons rfl (fun K hK=> ?_) ?_
           ·have HDL:Hid _:=Dwb.out.below (Below.refl _ _)
            have HBL:Hid (zb9 w wb k g (.slice (some ⟨go,0,none⟩) m1 co) (.slice av j cv) wr.heap.size #[Value.int .i64 0,Value.int .i64 0,Value.int .i64 0,Value.int .i64 0,Value.int .i64 0] 41):=BAwb.out.below (Below.refl _ _);obtain⟨z0,z1,z2,z3,z4⟩:=zb6 HBL.out.1;have zf:=fun i=>frozen_of_row _ _ i _ _ HBL.out.1;have hkb:=HBL.out.2.2.1.symm;go_simp;refine hK.out _ _ ?_ (fun hHeld2=> ?_)
            ·with_reducible exact zK9 hHeld hkb
            clear hK K;refine wpAnyH_done (by kernel_rfl) ?_ _
            (try go_wp2_with fail)
            go_meet;exact⟨_,_,_,_,rfl,(HDL.out.boxes5 HBL.out _ _ _ _ _).1,(HDL.out.boxes5 HBL.out _ _ _ _ _).2⟩
           exact AllReadyH.nil
          exact AllReadyH.nil
         exact AllReadyH.nil
        exact AllReadyH.nil
       exact AllReadyH.nil
      exact AllReadyH.nil
     case rest=>
      clear Dwr Rwr;obtain⟨kb,x0,x1,x2,rfl,hd,hbx⟩:=hcut;have D5:Hid _:=hd;have X5:Hid (zb9 w wc k g (.slice (some ⟨go,0,none⟩) m1 co) (.slice av j cv) kb #[.int .i64 x0,.int .i64 x1,.int .i64 x2,.int .i64 0,.int .i64 0] 41):=hbx;obtain⟨p5,hr5⟩:=hd.r;have R5:Hid (RD wc q a bs c p5):=hr5;clear hd hbx hr5
      go_wp2_with fail
      refine(zQ9 q p5 c a bs wc R5.out).mono ?_;rintro e w6 ⟨x3,x4,p6,rfl,hr,hg⟩;have D6:Hid _:=D5.out.read hr hg;have X6:Hid (zb9 w w6 k g (.slice (some ⟨go,0,none⟩) m1 co) (.slice av j cv) kb #[.int .i64 x0,.int .i64 x1,.int .i64 x2,.int .i64 0,.int .i64 0] 41):=X5.out.read HQ.out hg;clear hr hg D5 X5 R5;obtain⟨z0,z1,z2,z3,z4⟩:=zb6 X6.out.1;have zf:=fun i=>frozen_of_row _ _ i _ _ X6.out.1;go_upto_region 14 with fail;have D7:Hid (CD w ((w6.setCell ⟨kb,3,none⟩ (.int .i64 x3)).setCell ⟨kb,4,none⟩ (.int .i64 x4)) q a bs c k n g zl cg zs (.slice (some ⟨go,0,none⟩) m1 co) m1 O (.slice av j cv) j V f0):=(D6.out.box' X6.out 3 _).box' (X6.out.set 3 _) 4 _;have X7:Hid (zb9 w ((w6.setCell ⟨kb,3,none⟩ (.int .i64 x3)).setCell ⟨kb,4,none⟩ (.int .i64 x4)) k g (.slice (some ⟨go,0,none⟩) m1 co) (.slice av j cv) kb #[.int .i64 x0,.int .i64 x1,.int .i64 x2,.int .i64 x3,.int .i64 x4] 41):=by show zb9 _ _ _ _ _ _ _ _ _;have:=(X6.out.set 3 (.int .i64 x3)).set 4 (.int .i64 x4);simpa using this
      clear D6 X6 z0 z1 z2 z3 z4 zf;generalize(w6.setCell ⟨kb,3,none⟩ (.int .i64 x3)).setCell ⟨kb,4,none⟩ (.int .i64 x4)=W7 at*;obtain⟨z0,z1,z2,z3,z4⟩:=zb6 X7.out.1;have zf:=fun i=>frozen_of_row _ _ i _ _ X7.out.1;obtain⟨x5,HX5⟩:∃x,IntKind.i64.wrap (x4+100)=x:=⟨_,rfl⟩;have HX5':wrap64 (x4+100)=x5:=by rw[<-HX5,IntKind.wrap_i64];unfold wrap64;rfl
      go_upto_region 15 with fail;clear HX5 HX5';have D8:Hid (CD w (W7.setCell ⟨kb,4,none⟩ (.int .i64 x5)) q a bs c k n g zl cg zs (.slice (some ⟨go,0,none⟩) m1 co) m1 O (.slice av j cv) j V f0):=D7.out.box' X7.out 4 _;have X8:Hid (zb9 w (W7.setCell ⟨kb,4,none⟩ (.int .i64 x5)) k g (.slice (some ⟨go,0,none⟩) m1 co) (.slice av j cv) kb #[.int .i64 x0,.int .i64 x1,.int .i64 x2,.int .i64 x3,.int .i64 x5] 41):=by show zb9 _ _ _ _ _ _ _ _ _;have:=X7.out.set 4 (.int .i64 x5);simpa using this
      clear D7 X7 z0 z1 z2 z3 z4 zf;generalize W7.setCell ⟨kb,4,none⟩ (.int .i64 x5)=W8 at*;obtain⟨z0,z1,z2,z3,z4⟩:=zb6 X8.out.1;obtain⟨⟨-,-,-,k3,-⟩,kf⟩:=D8.out.cells;have HI9:Hid (za0 (W8.alloc (Obj.cells #[Value.int .i64 x0,Value.int .i64 x1,Value.int .i64 x2,Value.int .i64 x3,Value.int .i64 x5] 41)) (some ⟨W8.heap.size,0,none⟩) [x0,x1,x2,x3,x5]):=za0.of_row (zs:=[x0,x1,x2,x3,x5]) (heap_alloc_new _ _);have HS9:Hid (w.heap.size+1<=(W8.alloc (Obj.cells #[Value.int .i64 x0,Value.int .i64 x1,Value.int .i64 x2,Value.int .i64 x3,Value.int .i64 x5] 41)).heap.size):=by have:=D8.out.size;show _<=_;simp;omega
      go_wp2_with(
       at_builtin;refine zA5 28 41 _ 5 40 yd5 Tryz.underlying28 rfl (by omega) (by omega) _ rfl _ _ rfl (w.heap.size+1) _ j V rfl (D8.out.v.alloc _) W8.heap.size 1 [x0,x1,x2,x3,x5] rfl rfl HI9.out (by omega) HS9.out ?_;intro v' w9 hown hg hbk _;obtain⟨g9,c9,e9,_⟩:=zj7 hown;subst e9;have D9:Hid _:=D8.out.putV hown hg hbk;have k9:w9.cell? ⟨k,3,none⟩=some (.slice av j cv):=by
        have h9:=za5 hg (za1 ((Below.refl W8.heap.size W8).alloc (Nat.le_refl _) _) (za3 D8.out.b1) D8.out.b1) (fun e=>(D8.out.d2 _ e.symm).1 rfl);have:=cell_of_row _ _ 3 _ _ _ h9;simpa using this
       have f9:∀i,w9.frozen? ⟨k,i,none⟩=false:=by
        have h9:=za5 hg (za1 ((Below.refl W8.heap.size W8).alloc (Nat.le_refl _) _) (za3 D8.out.b1) D8.out.b1) (fun e=>(D8.out.d2 _ e.symm).1 rfl);exact fun i=>frozen_of_row _ _ i _ _ h9
       clear hown hg hbk)
      go_roundw
      case rel=>exact⟨i - 1,j+1,_,V++[x0,x1,x2,x3,x5],by omega,by first|rfl|go_num,D9.out⟩
      case measure=>simp[intOf];omega
    ·have hi0:i=0:=by omega
     subst hi0;have hjm:j=m2:=by omega
     subst hjm;obtain⟨gv,cv',e,-⟩:=zj7 (k:=j - 1) (by have:=Dwr.out.v;rw[Nat.sub_add_cancel hm21];exact this);rw[Nat.sub_add_cancel hm21]at e
     injection e with e1 e2 e3
     subst e1 e3
     go_wp2_with fail
     refine(zb1 q pwr c 40 a bs _ Rwr.out (by omega)).mono ?_;rintro e w6 ⟨y6,p6,rfl,hy0,hy1,hr,hg⟩;obtain⟨y6,rfl⟩:=Int.eq_ofNat_of_zero_le hy0;have D6:Hid _:=Dwr.out.read hr hg;have R6:Hid (RD w6 q a bs c p6):=hr;clear hr hg Dwr Rwr hy0 hy1;obtain⟨kv,HKV⟩:=nmd j;rw[HKV.out]at D6 hm21 hm22⊢;by_cases h39:y6=39
     ·subst h39
      go_wp2_with fail
      refine(zm8 q p6 c 0 1000000 a bs w6 R6.out (by omega) (by omega) (by omega) (by omega)).mono ?_;rintro e w7 ⟨f7,p7,rfl,-,-,hr,hg⟩;have D7:Hid _:=D6.out.read hr hg;clear hr hg D6 R6;obtain⟨⟨k0,k1,k2,k3,k4⟩,kf⟩:=D7.out.cells;have D8:Hid _:=D7.out.setF f7;clear D7;go_upto_region 23 with fail;clear k0 k1 k2 k3 k4 kf;generalize w7.setCell ⟨k,4,none⟩ (.int .i64 f7)=W8 at*;obtain⟨⟨k0,k1,k2,k3,k4⟩,kf⟩:=D8.out.cells;obtain⟨b0,b1,b2,b3,b4⟩:=zb6 D8.out.b0;have bf:=fun i=>frozen_of_row _ _ i _ _ D8.out.b0;go_wp2;exact D8.out.done HZ.out HZC.out hm11 hm12 hm21 hm22 _ (by rfl) (by rfl)
     ·by_cases h38:y6=38
      ·subst h38
       clear h39;obtain⟨⟨-,-,k2,-,-⟩,kf⟩:=D6.out.cells;have hmo:(0:Int)<(m1:Int):=by omega
       have hmp:0<m1:=by omega
       have hmq:¬m1=0:=by omega
       go_upto_region 20 with fail;have kS:=k2
       go_region_held3 (fun W=>W.cell? ⟨k,2,none⟩=some (.slice (some ⟨go,0,none⟩) m1 co)) (first|with_reducible exact kS|with_reducible exact kT|go_keep) ((first
        |(go_at_call 42
          with_reducible refine(zm8 q p6 c 0 40 a bs w6.drew (R6.out.below (Below.refl _ _).drew) (by omega) (by omega) (by omega) (by omega)).mono ?_
          rintro e w7 ⟨f7,p7,rfl,-,-,hr,hg⟩;have D7:Hid _:=(D6.out.below (Below.refl _ _).drew).read hr hg;have kS:=D7.out.cells.1.2.2.1;obtain⟨o4,of⟩:=zI6 (k:=4) D7.out.o (by have:=D7.out.o.1;rw[List.length_map]at this;omega);have kT:=(D7.out.setO 4 f7).cells.1.2.2.1;clear hr hg)))
       all_goals
        have D8:Hid _:=D7.out.setO 4 f7;clear D6 R6 D7 k2 kf hmo hmp hmq o4 of kS kT;generalize w7.setCell ⟨go,4,none⟩ (.int .i64 f7)=W8 at*;obtain⟨⟨k0,k1,k2,k3,k4⟩,kf⟩:=D8.out.cells;obtain⟨b0,b1,b2,b3,b4⟩:=zb6 D8.out.b0;have bf:=fun i=>frozen_of_row _ _ i _ _ D8.out.b0;go_wp2;exact D8.out.done HZ.out HZC.out hm11 hm12 hm21 hm22 _ (by rfl) (by rfl)
      ·by_cases h37:y6=37
       ·subst h37
        clear h39 h38;obtain⟨⟨-,-,-,k3,-⟩,kf⟩:=D6.out.cells;have hmo:(0:Int)<(kv:Int):=by omega
        have hmp:0<kv:=by omega
        have hmq:¬kv=0:=by omega
        go_upto_region 22 with fail;have kS:=k3
        go_region_held3 (fun W=>W.cell? ⟨k,3,none⟩=some (.slice (some ⟨gv,0,none⟩) kv cv)) (first|with_reducible exact kS|with_reducible exact kT|go_keep) ((first
         |(go_at_call 42
           with_reducible refine(zm8 q p6 c 1 20 a bs w6.drew (R6.out.below (Below.refl _ _).drew) (by omega) (by omega) (by omega) (by omega)).mono ?_
           rintro e w7 ⟨f7,p7,rfl,-,-,hr,hg⟩;have D7:Hid _:=(D6.out.below (Below.refl _ _).drew).read hr hg;have kS:=D7.out.cells.1.2.2.2.1;obtain⟨o4,of⟩:=zI6 (k:=0) D7.out.v (by have:=D7.out.v.1;rw[List.length_map]at this;omega);have kT:=(D7.out.setV 0 f7).cells.1.2.2.2.1;clear hr hg)))
        all_goals
         have D8:Hid _:=D7.out.setV 0 f7;clear D6 R6 D7 k3 kf hmo hmp hmq o4 of kS kT;generalize w7.setCell ⟨gv,0,none⟩ (.int .i64 f7)=W8 at*;obtain⟨⟨k0,k1,k2,k3,k4⟩,kf⟩:=D8.out.cells;obtain⟨b0,b1,b2,b3,b4⟩:=zb6 D8.out.b0;have bf:=fun i=>frozen_of_row _ _ i _ _ D8.out.b0;go_wp2;exact D8.out.done HZ.out HZC.out hm11 hm12 hm21 hm22 _ (by rfl) (by rfl)
       ·have e39:((y6:Int)==39)=false:=by simp;omega
        have e38:((y6:Int)==38)=false:=by simp;omega
        have e37:((y6:Int)==37)=false:=by simp;omega
        clear h39 h38 h37 R6;obtain⟨⟨k0,k1,k2,k3,k4⟩,kf⟩:=D6.out.cells;obtain⟨b0,b1,b2,b3,b4⟩:=zb6 D6.out.b0;have bf:=fun i=>frozen_of_row _ _ i _ _ D6.out.b0;go_wp2;exact D6.out.done HZ.out HZC.out hm11 hm12 hm21 hm22 _ (by rfl) (by rfl)
theorem zZ7(q p c:Nat)(m:Nat)(a:Option Addr)(bs:List Int)(w:World)(h:RD w q a bs c p)(hm1:1<=m)(hm2:m<=12):
 Calls Tryz.prog 39 #[.pointer (some ⟨q,0,none⟩),.int .i64 m] w (yl5 w q a bs c m):=(yc6 q p c m a bs w h hm1 hm2).mono fun _ _ ⟨n,g,zl,cg,go,ko,co,gv,kv,cv,zs,O,V,fi,h1,h2,h3,h4,h5,h6,h7,h8,_⟩=>⟨n,g,zl,cg,go,ko,co,gv,kv,cv,zs,O,V,fi,h1,h2,h3,h4,h5,h6,h7,h8⟩
end Go.Proofs.YtjobhigmdaiinaaGreat
