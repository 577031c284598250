import Derived.Test.YtkchnomkiboihaaGreatPack36
set_option maxHeartbeats 4000000
namespace Go.Proofs.YtkchnomkiboihaaGreat
open Value renaming slice→za,int→zc
open IntKind renaming i64→zb
open Obj renaming cells→zd
open Go renaming World→zg
open Act renaming put→zi
open List renaming length→zj
open World renaming ownsRow→zk
open Go.RowKit
open Q
structure OQ(w W:zg)(cs ps:Array Value)(o0 o1:Value):Prop where
 b:Below w.heap.size w W
 c:W.heap[w.heap.size]? =some (.cells cs 30 (0,0))
 p:W.heap[w.heap.size+1]? =some (.cells ps 33 (0,0))
 a:W.heap[w.heap.size+2]? =some (zd #[za none 0 0,za none 0 0] 33 (0,0))
 o:W.heap[w.heap.size+3]? =some (zd #[o0,o1] 33 (0,0))
theorem OQ.below{w W W':zg}{cs ps:Array Value}{o0 o1:Value}(h:OQ w W cs ps o0 o1)(hb:Below W.heap.size W W'):OQ w W' cs ps o0 o1:=
 ⟨h.b.trans (hb.mono h.b.size),za0 hb (za2 h.c) h.c,za0 hb (za2 h.p) h.p,za0 hb (za2 h.a) h.a,za0 hb (za2 h.o) h.o⟩
theorem OQ.size{w W:zg}{cs ps:Array Value}{o0 o1:Value}(h:OQ w W cs ps o0 o1):w.heap.size+4<=W.heap.size:=za2 h.o
def OU(w W:zg)(ps:Array Value)(R:List RT)(L:List Int)(s:QS)(o0 o1:Value):Prop:=(s.f=false/\ #[o0,o1]=ps)∨(s.f=true/\∃S,PO W (w.heap.size+4) o0 S o1 (zn1 L s.s.1)/\S.map RT.key=(zK9 R (oneT R s.s)).map RT.key/\∃g c,o1=za (some ⟨g,0,none⟩) (zn1 L s.s.1).length c)
theorem OU.below{w W W':zg}{ps:Array Value}{R:List RT}{L:List Int}{s:QS}{o0 o1:Value}(h:OU w W ps R L s o0 o1)(hb:Below W.heap.size W W'):OU w W' ps R L s o0 o1:=by
 rcases h with h|⟨h1,S,h2,h3⟩
 ·exact .inl h
 ·exact .inr ⟨h1,S,h2.below hb,h3⟩
theorem yu1{ok:zg2->Bool}{dl:zg2->Int}(l:List zg2):(qst ok dl l).f=false->(qst ok dl l).v=0:=by
 suffices h:∀(m:List zg2) (s:QS),(s.f=false->s.v=0)->(m.foldl (zl9 ok dl) s).f=false->(m.foldl (zl9 ok dl) s).v=0 from h l qs0 (fun _=>rfl)
 intro m
 induction m with
 |nil=>intro s hs hf;exact hs hf
 |cons p m ih=>
  intro s hs hf;rw[yD]at hf⊢;refine ih _ (fun h9=> ?_) hf;unfold zl9 at h9⊢;split
  ·rename_i hc
   rw[zV hc]at h9;cases h9
  ·rename_i hc
   rw[zW hc]at h9;exact hs h9
theorem yh4(n fine veh:Int)(a ao av bi:Option Addr)(cap ko co kv cv c2:Nat)(zs os vs ids:List Int)(w:zg)(hA:za3 w a zs)(hO:za3 w ao os)(hV:za3 w av vs)(hI:za3 w bi ids)(hlo:os.length=ko*6)(hlv:vs.length=kv*5)(hko:ko<=9223372036854775807)(hkv:kv<=9223372036854775807)(hli:ids.length<=9223372036854775807)(hc2:ids.length<=c2)(hbi:(bi=none/\ids=[]/\c2=0)∨∃g,bi=some ⟨g,0,none⟩)(id:Int)(k:Nat)(ch:Bool)(hch:chB (zc8 n zs os vs ko kv fine) n zs os vs ko kv veh ids (inB (k:Int) 0 (ids.length:Int)) (insL ids k id)=ch)(D:Int)(hD:chD ch n zs os vs ko kv veh ids (insL ids k id)=D)(xs:List Int)(hxs:chL ch (insL ids k id)=xs):
 Calls Tryz.prog 71 #[.agg #[zc zb n,za a zs.length cap,za ao ko co,za av kv cv,zc zb fine],.agg #[zc zb veh,za bi ids.length c2],zc zb id,zc zb (k:Int)] w (yo4 w ch veh D xs):=by
 rcases hbi with⟨rfl,rfl,rfl⟩|⟨g,rfl⟩
 ·exact zw7 n fine veh a ao av cap ko co kv cv zs os vs w hA hO hV hlo hlv hko hkv id (k:Int) ch (by simpa using hch) D (by simpa using hD) xs (by simpa using hxs)
 ·exact zw9 n fine veh a ao av g 0 cap ko co kv cv c2 zs os vs ids w hA hO hV hI hlo hlv hko hkv hli hc2 id (k:Int) ch (by simpa using hch) D (by simpa using hD) xs (by simpa using hxs)
theorem yn2{R:List RT}{r s:RT}(hS:zg1 R)(hr:r.ids≠[])(h:r.key=s.key):(zK9 R r).map RT.key=(zK9 R s).map RT.key:=by
 have hi:r.ids=s.ids:=congrArg Prod.snd h;rw[z39 hS hr,z39 hS (by rw[<-hi];exact hr)];exact z72 rfl h
def yC9(w:zg)(f:Bool)(T:List RT)(L:List Int)(e:Ending)(w':zg):Prop:=∃ra rn rc gl ln lc S,e=.returned (.tuple #[.agg #[za ra rn rc,za (some ⟨gl,0,none⟩) ln lc],.bool f])/\Below w.heap.size w w'/\S.length=rn/\L.length=ln/\S.map RT.key=T.map RT.key/\PO w' w.heap.size (za ra rn rc) S (za (some ⟨gl,0,none⟩) ln lc) L
theorem yp6{R S:List RT}{r:RT}(hi:zx3 R)(hr:r.ids≠[]/\r.ids.length<=13)(h:S.map RT.key=(zK9 R r).map RT.key):∀x∈S,x.ids≠[]/\x.ids.length<=500:=fun x hx=>by
 have h1:x.key∈(zK9 R r).map RT.key:=by rw[<-h];exact xP hx
 obtain⟨y,hy,e⟩:=yy.1 h1;have e2:y.ids=x.ids:=congrArg Prod.snd e;rw[<-e2];rcases(zL1 R r).1 y hy with h2|h2
 ·have:=hi y h2
  exact⟨this.1,by omega⟩
 ·rw[h2];exact⟨hr.1,by omega⟩
set_option maxRecDepth 10000 in
theorem yz7(n fine:Int)(a ao ra:Option Addr)(zl cap ko co bv ov kv cv nr rc bl ol ln lc:Nat)(zs os vs L:List Int)(R:List RT)(w:zg)(hA:za3 w a zs)(hO:za3 w ao os)(hV:za3 w (some ⟨bv,ov,none⟩) vs)(hlz:zs.length=zl)(hlo:os.length=ko*6)(hlv:vs.length=kv*5)(hko:ko<=12)(hkv:kv<=5)(hcB:zc8 n zs os vs ko kv fine=true)(hR:za9 w ra R)(hnr:R.length=nr)(hn:nr<=100)(hL:za3 w (some ⟨bl,ol,none⟩) L)(hlL:L.length=ln)(hln:ln<=12)(hS:zg1 R)(hi:zx3 R)(had:∀r∈R,∃g,r.a=some ⟨g,0,none⟩):
 Calls Tryz.prog 95 #[.agg #[zc zb n,za a zl cap,za ao ko co,za (some ⟨bv,ov,none⟩) kv cv,zc zb fine],.agg #[za ra nr rc,za (some ⟨bl,ol,none⟩) ln lc]] w (yC9 w (zy3 n fine zs os vs ko kv R L).f (zB8 n fine zs os vs ko kv R L) (zD2 n fine zs os vs ko kv R L)):=by
 have HA:=za4 hA;have HO:=za4 hO;have HV:=za4 hV;have HLZ:=za4 hlz;have HLO:=za4 hlo;have HLV:=za4 hlv;have HCB:=za4 hcB;have HR:=za4 hR;have HN:=za4 hnr;have HL:=za4 hL;have HM:=za4 hlL;have HS:=za4 hS;have HI:=za4 hi;have HAD:=za4 had;clear hA hO hV hlz hlo hlv hcB hR hnr hL hlL hS hi had;obtain⟨fn,HFN⟩:=nmd (qst (gOk n fine zs os vs ko kv R) (gD n zs os vs ko kv R));have HONE:Hid (zy3 n fine zs os vs ko kv R L=fn (sp3 R vs kv L ln)):=by show _=_;rw[<-HFN.X,<-HM.X];rfl
 obtain⟨s9,HS9⟩:=nmd (zy3 n fine zs os vs ko kv R L);obtain⟨RX,HRX⟩:=nmd (zB8 n fine zs os vs ko kv R L);obtain⟨LX,HLX⟩:=nmd (zD2 n fine zs os vs ko kv R L);have HRR:Hid (RX=if s9.f then wrL R (oneT R s9.s)else R):=by show _=_;rw[<-HRX.X];unfold zB8;rw[HS9.X]
 have HLL:Hid (LX=if s9.f then zn1 L s9.s.1 else L):=by show _=_;rw[<-HLX.X];unfold zD2;rw[HS9.X]
 rw[HS9.X,HRX.X,HLX.X];rw[HS9.X]at HONE;clear HS9 HRX HLX;have HGRP:Hid (∀l id veh,fn (l++sp1 id veh ((zc6 R veh).ids.length+1))=grp fine id veh (fn l) (bpV true n zs os vs ko kv veh (zc6 R veh).ids id)):=fun l id veh=>by rw[<-HFN.X];exact yE1 n fine zs os vs ko kv R l id veh
 have HF0:Hid (fn []=qs0):=by show _=_;rw[<-HFN.X];rfl
 have Q0:Hid (OQ w ((((w.alloc (zd #[zc zb n,za a zl cap,za ao ko co,za (some ⟨bv,ov,none⟩) kv cv,zc zb fine] 30)).alloc (zd #[za ra nr rc,za (some ⟨bl,ol,none⟩) ln lc] 33)).alloc (zd #[za none 0 0,za none 0 0] 33)).alloc (zd #[za ra nr rc,za (some ⟨bl,ol,none⟩) ln lc] 33)) #[zc zb n,za a zl cap,za ao ko co,za (some ⟨bv,ov,none⟩) kv cv,zc zb fine] #[za ra nr rc,za (some ⟨bl,ol,none⟩) ln lc] (za ra nr rc) (za (some ⟨bl,ol,none⟩) ln lc)):=by
  refine⟨(((zK _).alloc (by simp) _).alloc (by simp;omega) _).alloc (by simp;omega) _,?_,?_,?_,?_⟩
  ·exact(yY _ _ (by simp;omega)).trans ((yY _ _ (by simp;omega)).trans (xb _ _ _))
  ·exact(yY _ _ (by simp<;>omega)).trans ((yY _ _ (by simp)).trans (y8 _ _ _))
  ·have:=xb ((w.alloc (zd #[zc zb n,za a zl cap,za ao ko co,za (some ⟨bv,ov,none⟩) kv cv,zc zb fine] 30)).alloc (zd #[za ra nr rc,za (some ⟨bl,ol,none⟩) ln lc] 33)) (zd #[za none 0 0,za none 0 0] 33) (zd #[za ra nr rc,za (some ⟨bl,ol,none⟩) ln lc] 33)
   simpa using this
  ·have:=y8 ((w.alloc (zd #[zc zb n,za a zl cap,za ao ko co,za (some ⟨bv,ov,none⟩) kv cv,zc zb fine] 30)).alloc (zd #[za ra nr rc,za (some ⟨bl,ol,none⟩) ln lc] 33)) (zd #[za none 0 0,za none 0 0] 33) (zd #[za ra nr rc,za (some ⟨bl,ol,none⟩) ln lc] 33)
   simpa using this
 have P00:Hid ((((w.alloc (zd #[zc zb n,za a zl cap,za ao ko co,za (some ⟨bv,ov,none⟩) kv cv,zc zb fine] 30)).alloc (zd #[za ra nr rc,za (some ⟨bl,ol,none⟩) ln lc] 33)).alloc (zd #[za none 0 0,za none 0 0] 33)).heap[w.heap.size+1]? =some (zd #[za ra nr rc,za (some ⟨bl,ol,none⟩) ln lc] 33 (0,0))):=(yY _ _ (by simp)).trans (y8 _ _ _);obtain⟨e0,e1⟩:=za1 P00.X;go_enter Tryz.func95,Tryz.ntmps95
 go_wp2_with fail
 clear e0 e1 P00;generalize(((w.alloc (zd #[zc zb n,za a zl cap,za ao ko co,za (some ⟨bv,ov,none⟩) kv cv,zc zb fine] 30)).alloc (zd #[za ra nr rc,za (some ⟨bl,ol,none⟩) ln lc] 33)).alloc (zd #[za none 0 0,za none 0 0] 33)).alloc (zd #[za ra nr rc,za (some ⟨bl,ol,none⟩) ln lc] 33)=W0 at*;go_loopw[6,7,9] (fun tb tf t wr=>∃(i:Nat) (o0 o1:Value),i<=ln/\t=zc zb i/\tb=zc zb (fn (sp3 R vs kv L i)).v/\tf=.bool (fn (sp3 R vs kv L i)).f/\OQ w wr #[zc zb n,za a zl cap,za ao ko co,za (some ⟨bv,ov,none⟩) kv cv,zc zb fine] #[za ra nr rc,za (some ⟨bl,ol,none⟩) ln lc] o0 o1/\OU w wr #[za ra nr rc,za (some ⟨bl,ol,none⟩) ln lc] R L (fn (sp3 R vs kv L i)) o0 o1) (fun _ _ t _=>ln - (intOf t).toNat)
 case atStart=>exact⟨0,_,_,yZ _,rfl,by show _=zc zb (fn []).v;rw[HF0.X];first|done|rfl,by show _=Value.bool (fn []).f;rw[HF0.X];first|done|rfl,Q0.X,.inl ⟨by show(fn []).f=false;rw[HF0.X];rfl,rfl⟩⟩
 case round=>
  clear Q0;obtain⟨i,o0,o1,hi,rfl,rfl,rfl,hq,hu⟩:=hrel;have Q1:=za4 hq;have U1:=za4 hu;clear hq hu;obtain⟨p0,p1⟩:=za1 Q1.X.p;by_cases hlt:i<ln
  ·have hiI:(i:Int)<(ln:Int):=by omega
   have HNX:Hid (sp3 R vs kv L (i+1)=sp3 R vs kv L i++sp2 R vs (L.getD i 0) kv):=rfl;have HIE:Hid (∀W,Below w.heap.size w W->W.cell? ⟨bl,ol+i,none⟩=some (zc zb (L.getD i 0))):=fun W hW=>by
    obtain⟨b1,o1,e,c1⟩:=(HL.X.below hW) i (by rw[HM.X];exact hlt);simp only[xV,xZ,qb]at e;obtain⟨rfl,rfl⟩:=e;exact c1
   generalize L.getD i 0=id at*;generalize sp3 R vs kv L i=l1 at*
   go_wp2_with fail
   clear p0 p1;go_loopw[6,7,10] (fun tb tf t wr=>∃(k:Nat) (o0 o1:Value),k<=kv/\t=zc zb k/\tb=zc zb (fn (l1++sp2 R vs id k)).v/\tf=.bool (fn (l1++sp2 R vs id k)).f/\OQ w wr #[zc zb n,za a zl cap,za ao ko co,za (some ⟨bv,ov,none⟩) kv cv,zc zb fine] #[za ra nr rc,za (some ⟨bl,ol,none⟩) ln lc] o0 o1/\OU w wr #[za ra nr rc,za (some ⟨bl,ol,none⟩) ln lc] R L (fn (l1++sp2 R vs id k)) o0 o1) (fun _ _ t _=>kv - (intOf t).toNat)
   case atStart=>exact⟨0,o0,o1,yZ _,rfl,by show _=zc zb (fn (l1++[])).v;rw[xY],by show _=Value.bool (fn (l1++[])).f;rw[xY],Q1.X,by show OU _ _ _ _ _ (fn (l1++[])) _ _;rw[xY];exact U1.X⟩
   case round=>
    clear Q1 U1;obtain⟨k,o0,o1,hk,rfl,rfl,rfl,hq,hu⟩:=hrel;have Q3:=za4 hq;have U3':=za4 hu;clear hq hu;obtain⟨d0,d1,d2,d3,d4⟩:=za7 Q3.X.c;by_cases hlk:k<kv
    ·have hkI:(k:Int)<(kv:Int):=by omega
     have HN2:Hid (fn (l1++sp2 R vs id (k+1))=grp fine id (vs.getD (k*5) 0) (fn (l1++sp2 R vs id k)) (bpV true n zs os vs ko kv (vs.getD (k*5) 0) (zc6 R (vs.getD (k*5) 0)).ids id)):=by
      show _=_;rw[<-HGRP.X,z7];rfl
     have HVE:Hid (∀W,Below w.heap.size w W->W.cell? ⟨bv,ov+k*5,none⟩=some (zc zb (vs.getD (k*5) 0))):=fun W hW=>by
      obtain⟨b1,o1,e,c1⟩:=(HV.X.below hW) (k*5) (by rw[HLV.X];omega);simp only[xV,xZ,qb]at e;obtain⟨rfl,rfl⟩:=e;exact c1
     have hsv:=yu1 (ok:=gOk n fine zs os vs ko kv R) (dl:=gD n zs os vs ko kv R) (l1++sp2 R vs id k);rw[HFN.X]at hsv;generalize vs.getD (k*5) 0=veh at*;generalize fn (l1++sp2 R vs id k)=s at*;have U3:Hid (OU w wr #[za ra nr rc,za (some ⟨bl,ol,none⟩) ln lc] R L s o0 o1):=U3'.X;have HSV:=za4 hsv;clear U3' hsv;obtain⟨hra,hr12,hrc,-⟩:=z87 HR.X HI.X veh;have HRT:=za4 hra;have HRA9:Hid (((zc6 R veh).a=none/\(zc6 R veh).ids=[]/\(zc6 R veh).c=0)∨∃g,(zc6 R veh).a=some ⟨g,0,none⟩):=by
      rcases zz2 R veh with h|h
      ·exact .inr (HAD.X _ h)
      ·rw[h];exact .inl ⟨rfl,rfl,rfl⟩
     have HTT:Hid (oneT R (id,veh,0)=oneT R (id,veh,0)):=rfl;have LR0:∀W,Below wr.heap.size wr W->_:=fun W hW=>zE8 ra (some ⟨bl,ol,none⟩) rc ln lc R veh W (HR.X.below (Q3.X.below hW).b) (by rw[HN.X];omega)
     rw[HN.X]at LR0;obtain⟨b9,HB9⟩:=nmd (bpV true n zs os vs ko kv veh (zc6 R veh).ids id);rw[HB9.X]at HN2;obtain⟨rt,HRTO⟩:=nmd (zc6 R veh);rw[HRTO.X]at hr12 hrc HRT HRA9 LR0 HB9;obtain⟨rtv,ra9,rids,rc9⟩:=rt;simp only at hr12 hrc HRT HRA9 LR0 HB9;obtain⟨rl,HRL⟩:=nmd rids.length;rw[HRL.X]at hr12 hrc LR0;have LR:Hid _:=LR0;have HC10:Hid (∀W,Below wr.heap.size wr W->(fun W=>W.cell? ⟨w.heap.size+1,0,none⟩=some (za ra nr rc)/\W.cell? ⟨w.heap.size+1,1,none⟩=some (za (some ⟨bl,ol,none⟩) ln lc)/\W.cell? ⟨w.heap.size,3,none⟩=some (za (some ⟨bv,ov,none⟩) kv cv)/\W.cell? ⟨bv,ov+k*5,none⟩=some (zc zb veh)) W):=fun W hW=>by
      have q:=Q3.X.below hW;obtain⟨x0,x1⟩:=za1 q.p;obtain⟨y0,y1,y2,y3,y4⟩:=za7 q.c;exact⟨x0,x1,y3,HVE.X W q.b⟩
     clear LR0 hra HTT;go_upto_region 10 with fail;clear d0 d1 d2 d3 d4;go_cut [11]from 33 to 40 (fun s11 wx=>∃rb:Nat,s11=.pointer (some ⟨rb,0,none⟩)/\Below wr.heap.size wr wx/\wx.heap[rb]? =some (zd #[zc zb veh,za ra9 rl rc9] 80 (0,0))/\wr.heap.size<=rb)
     case first=>
      go_wp2_with fail
      refine qV (S:=(fun W=>W.cell? ⟨w.heap.size+1,0,none⟩=some (za ra nr rc)/\W.cell? ⟨w.heap.size+1,1,none⟩=some (za (some ⟨bl,ol,none⟩) ln lc)/\W.cell? ⟨w.heap.size,3,none⟩=some (za (some ⟨bv,ov,none⟩) kv cv)/\W.cell? ⟨bv,ov+k*5,none⟩=some (zc zb veh))) (by kernel_rfl) ?_ (fun hHeld=> ?_)
      ·exact HC10.X _ (yV _ _).drew
      have BD:Hid (Below wr.heap.size wr wr.drew):=(yV _ _).drew;generalize wr.drew=wd at*;refine tkH 0 hHeld ?_;refine tkH 1 hHeld ?_;refine tkH 2 hHeld ?_;refine tkH 3 hHeld ?_;refine tkH 4 hHeld ?_;refine tkH 5 hHeld ?_;refine tkH 6 hHeld ?_;refine qT (rs:=[7,8]) (by kernel_rfl) (by simp) ?_;refine qR rfl (fun K hK=> ?_) ?_
      ·skip
       go_simp;refine(LR.X wd BD.X).mono ?_;rintro e w1 ⟨rfl,hb⟩;have B1:Hid (Below wr.heap.size wr w1):=BD.X.trans (hb.mono BD.X.size);clear hb
       (try go_wp2_with fail)
       refine hK.out _ _ ?_ (fun hHeld=> ?_)
       ·exact HC10.X _ B1.X
       clear hK K
       (try simp only[zi,xB,zL,xC])
       refine qT (rs:=[8]) (by kernel_rfl) (by simp) ?_;refine qR rfl (fun K hK=> ?_) qS;have BZ:Hid (Below wr.heap.size wr (w1.alloc (zd #[zc zb 0,za none 0 0] 80))):=B1.X.alloc B1.X.size _;have VZ0:Hid ((w1.alloc (zd #[zc zb 0,za none 0 0] 80)).heap[w1.heap.size]? =some (zd #[zc zb 0,za none 0 0] 80 (0,0))):=zN _ _;have HZL:Hid (wr.heap.size<=w1.heap.size):=B1.X.size;go_simp;refine hK.out _ _ ?_ (fun hHeld=> ?_)
       ·exact HC10.X _ BZ.X
       clear hK K
       (try simp only[zi,xB,zL,xC])
       obtain⟨rb,HKZ⟩:=nmd w1.heap.size;rw[HKZ.X]at VZ0 HZL⊢;generalize(w1.alloc (zd #[zc zb 0,za none 0 0] 80))=wz at*;obtain⟨z0,z1⟩:=za1 VZ0.X;have zf:=fun i=>yU _ _ i _ _ VZ0.X;refine qT (rs:=[9]) (by kernel_rfl) (by simp) ?_;refine qR rfl (fun K hK=> ?_) qS;have B5:Hid (Below wr.heap.size wr ((wz.setCell ⟨rb,0,none⟩ (zc zb veh)).setCell ⟨rb,1,none⟩ (za ra9 rl rc9))):=(BZ.X.setCell HZL.X _).setCell HZL.X _;have s1:=zP wz rb 0 _ _ (zc zb veh) VZ0.X;have V5:Hid (((wz.setCell ⟨rb,0,none⟩ (zc zb veh)).setCell ⟨rb,1,none⟩ (za ra9 rl rc9)).heap[rb]? =some (zd #[zc zb veh,za ra9 rl rc9] 80 (0,0))):=by
        have s2:=zP _ rb 1 _ _ (za ra9 rl rc9) s1;simp at s2;exact s2
       have HZ5:Hid (wr.heap.size<=rb):=HZL.X;clear s1;go_simp;refine hK.out _ _ ?_ (fun hHeld=> ?_)
       ·exact HC10.X _ B5.X
       clear hK K;generalize((wz.setCell ⟨rb,0,none⟩ (zc zb veh)).setCell ⟨rb,1,none⟩ (za ra9 rl rc9))=w5 at*;refine qU (by kernel_rfl) ?_ _;clear hHeld
       (try go_wp2_with fail)
       go_meet;exact⟨rb,rfl,B5.X,V5.X,HZ5.X⟩
      refine qR rfl (fun K hK=> ?_) qS;have BZ:Hid (Below wr.heap.size wr (wd.alloc (zd #[zc zb 0,za none 0 0] 80))):=BD.X.alloc BD.X.size _;have VZ0:Hid ((wd.alloc (zd #[zc zb 0,za none 0 0] 80)).heap[wd.heap.size]? =some (zd #[zc zb 0,za none 0 0] 80 (0,0))):=zN _ _;have HZL:Hid (wr.heap.size<=wd.heap.size):=BD.X.size;go_simp;refine hK.out _ _ ?_ (fun hHeld=> ?_)
      ·exact HC10.X _ BZ.X
      clear hK K
      (try simp only[zi,xB,zL,xC])
      obtain⟨rb,HKZ⟩:=nmd wd.heap.size;rw[HKZ.X]at VZ0 HZL⊢;generalize(wd.alloc (zd #[zc zb 0,za none 0 0] 80))=wz at*;obtain⟨z0,z1⟩:=za1 VZ0.X;have zf:=fun i=>yU _ _ i _ _ VZ0.X;refine qT (rs:=[7]) (by kernel_rfl) (by simp) ?_;refine qR rfl (fun K hK=> ?_) qS;go_simp;refine(LR.X wz BZ.X).mono ?_;rintro e w1 ⟨rfl,hb⟩;have B1:Hid (Below wr.heap.size wr w1):=BZ.X.trans (hb.mono BZ.X.size);have VZ1:=za4 (za0 hb (za2 VZ0.X) VZ0.X);obtain⟨z0,z1⟩:=za1 VZ1.X;have zf:=fun i=>yU _ _ i _ _ VZ1.X;clear hb
      (try go_wp2_with fail)
      refine hK.out _ _ ?_ (fun hHeld=> ?_)
      ·exact HC10.X _ B1.X
      clear hK K
      (try simp only[zi,xB,zL,xC])
      refine qT (rs:=[9]) (by kernel_rfl) (by simp) ?_;refine qR rfl (fun K hK=> ?_) qS;have B5:Hid (Below wr.heap.size wr ((w1.setCell ⟨rb,0,none⟩ (zc zb veh)).setCell ⟨rb,1,none⟩ (za ra9 rl rc9))):=(B1.X.setCell HZL.X _).setCell HZL.X _;have s1:=zP w1 rb 0 _ _ (zc zb veh) VZ1.X;have V5:Hid (((w1.setCell ⟨rb,0,none⟩ (zc zb veh)).setCell ⟨rb,1,none⟩ (za ra9 rl rc9)).heap[rb]? =some (zd #[zc zb veh,za ra9 rl rc9] 80 (0,0))):=by
       have s2:=zP _ rb 1 _ _ (za ra9 rl rc9) s1;simp at s2;exact s2
      have HZ5:Hid (wr.heap.size<=rb):=HZL.X;clear s1;go_simp;refine hK.out _ _ ?_ (fun hHeld=> ?_)
      ·exact HC10.X _ B5.X
      clear hK K;generalize((w1.setCell ⟨rb,0,none⟩ (zc zb veh)).setCell ⟨rb,1,none⟩ (za ra9 rl rc9))=w5 at*;refine qU (by kernel_rfl) ?_ _;clear hHeld
      (try go_wp2_with fail)
      go_meet;exact⟨rb,rfl,B5.X,V5.X,HZ5.X⟩
     case rest=>
      obtain⟨rb,rfl,hB5,hV5,hZ5⟩:=hcut;obtain⟨w5,hw5⟩:∃v,v=wc:=⟨_,rfl⟩;subst hw5;have B5:=za4 hB5;have V5:=za4 hV5;have HZ5:=za4 hZ5;clear hB5 hV5 hZ5;clear LR HC10;have Q5:=za4 (Q3.X.below B5.X);have U5:=za4 (U3.X.below B5.X);have HW5:Hid (w.heap.size+4<=rb):=y7 Q3.X.size HZ5.X;have BP0:=fun(W:zg) (hW:Below w5.heap.size w5 W)=>z80 n fine veh a ao (some ⟨bv,ov,none⟩) ra9 cap ko co kv cv rc9 zs os vs rids W (HA.X.below (Q5.X.below hW).b) (HO.X.below (Q5.X.below hW).b) (HV.X.below (Q5.X.below hW).b) (HRT.X.below (Q5.X.below hW).b) HLO.X HLV.X (by omega) (by omega) (by rw[HRL.X];omega) (by rw[HRL.X];exact hrc) HRA9.X id b9 (by rw[HCB.X];exact HB9.X)
      rw[HLZ.X,HRL.X]at BP0;have BP:Hid _:=BP0;have HC11:Hid (∀W,Below w5.heap.size w5 W->(fun W=>W.cell? ⟨w.heap.size,0,none⟩=some (zc zb n)/\W.cell? ⟨w.heap.size,1,none⟩=some (za a zl cap)/\W.cell? ⟨w.heap.size,2,none⟩=some (za ao ko co)/\W.cell? ⟨w.heap.size,3,none⟩=some (za (some ⟨bv,ov,none⟩) kv cv)/\W.cell? ⟨w.heap.size,4,none⟩=some (zc zb fine)/\W.cell? ⟨rb,0,none⟩=some (zc zb veh)/\W.cell? ⟨rb,1,none⟩=some (za ra9 rl rc9)/\W.cell? ⟨w.heap.size+1,1,none⟩=some (za (some ⟨bl,ol,none⟩) ln lc)/\W.cell? ⟨bl,ol+i,none⟩=some (zc zb id)) W):=fun W hW=>by
       have q:=Q5.X.below hW;obtain⟨x0,x1⟩:=za1 q.p;obtain⟨y0,y1,y2,y3,y4⟩:=za7 q.c;obtain⟨v0,v1⟩:=za1 (za0 hW (za2 V5.X) V5.X);exact⟨y0,y1,y2,y3,y4,v0,v1,x1,HIE.X W q.b⟩
      clear BP0 B5 Q3 U3 HZ5;have kS:=HC11.X _ (yV _ _).drew
      go_wp2_with fail
      go_region_held3 (fun W=>W.cell? ⟨w.heap.size,0,none⟩=some (zc zb n)/\W.cell? ⟨w.heap.size,1,none⟩=some (za a zl cap)/\W.cell? ⟨w.heap.size,2,none⟩=some (za ao ko co)/\W.cell? ⟨w.heap.size,3,none⟩=some (za (some ⟨bv,ov,none⟩) kv cv)/\W.cell? ⟨w.heap.size,4,none⟩=some (zc zb fine)/\W.cell? ⟨rb,0,none⟩=some (zc zb veh)/\W.cell? ⟨rb,1,none⟩=some (za ra9 rl rc9)/\W.cell? ⟨w.heap.size+1,1,none⟩=some (za (some ⟨bl,ol,none⟩) ln lc)/\W.cell? ⟨bl,ol+i,none⟩=some (zc zb id)) (first|with_reducible exact kS|go_keep) ((first
       |(go_at_call 132
         with_reducible refine(BP.X w5.drew (yV _ _).drew).mono ?_
         rintro e w6 ⟨rfl,hb⟩;have B6:Hid (Below w5.heap.size w5 w6):=(yV _ _).drew.trans hb;have kS:=HC11.X _ B6.X;clear hb)))
      clear kS BP;have Q6:=za4 (Q5.X.below B6.X);have U6:=za4 (U5.X.below B6.X);have V6:=za4 (za0 B6.X (za2 V5.X) V5.X);have HC13:Hid (∀W,Below w6.heap.size w6 W->(fun W=>W.cell? ⟨w.heap.size,0,none⟩=some (zc zb n)/\W.cell? ⟨w.heap.size,1,none⟩=some (za a zl cap)/\W.cell? ⟨w.heap.size,2,none⟩=some (za ao ko co)/\W.cell? ⟨w.heap.size,3,none⟩=some (za (some ⟨bv,ov,none⟩) kv cv)/\W.cell? ⟨w.heap.size,4,none⟩=some (zc zb fine)/\W.cell? ⟨rb,0,none⟩=some (zc zb veh)/\W.cell? ⟨rb,1,none⟩=some (za ra9 rl rc9)/\W.cell? ⟨w.heap.size+1,1,none⟩=some (za (some ⟨bl,ol,none⟩) ln lc)/\W.cell? ⟨bl,ol+i,none⟩=some (zc zb id)) W):=fun W hW=>HC11.X W (B6.X.trans (hW.mono B6.X.size));clear Q5 U5 V5 B6 HC11;obtain⟨sf,ss,sv⟩:=s;obtain⟨bf,bi,bvv⟩:=b9;simp only at HSV⊢;cases bf
      ·have HNS:Hid (fn (l1++sp2 R vs id (k+1))=⟨sf,ss,sv⟩):=by show _=_;rw[HN2.X];exact zW (fun h=>by cases h.1)
       clear HN2 HC13;obtain⟨d0,d1,d2,d3,d4⟩:=za7 Q6.X.c;go_wp2;go_roundw
       case rel=>exact⟨k+1,o0,o1,by omega,by first|rfl|go_num,by rw[HNS.X],by rw[HNS.X],Q6.X,by rw[HNS.X];exact U6.X⟩
       case measure=>simp[intOf];omega
      ·by_cases hfi:bvv<=fine
       ·have hgt:¬fine<bvv:=by omega
        by_cases htk:sf=false∨bvv<sv
        ·have HNS:Hid (fn (l1++sp2 R vs id (k+1))=⟨true,(id,veh,bi),bvv⟩):=by show _=_;rw[HN2.X];exact zV ⟨rfl,hfi,htk⟩
         clear HN2;have hgo:sf=false∨(sf=true/\¬sv<=bvv):=by cases sf;exact .inl rfl;exact .inr ⟨rfl,by rcases htk with h|h;cases h;omega⟩
         have hpm:=ym9 (ok:=plB true n zs os vs ko kv veh rids id) (dl:=plD true n zs os vs ko kv veh rids id) (rids.length+1);have HB8:pst (plB true n zs os vs ko kv veh rids id) (plD true n zs os vs ko kv veh rids id) (rids.length+1)=⟨true,bi,bvv⟩:=HB9.X;rw[HB8]at hpm;obtain⟨hp1,hp2,-⟩:=hpm rfl;simp only at hp1 hp2;obtain⟨xs,HXS⟩:=nmd (insL rids bi id);obtain⟨xl,HXL⟩:=nmd xs.length;obtain⟨vv,HVV⟩:=nmd (chI true veh);have HVE9:Hid (vv=veh):=by show _=_;rw[<-HVV.X];rfl
         have HXN:Hid (xs≠[]/\xs.length<=13):=by
          rw[<-HXS.X];refine⟨by unfold insL;simp,?_⟩;unfold insL;rw[xU,yg,zZ,x7,HRL.X];omega
         have CI0:=fun(W:zg) (hW:Below w6.heap.size w6 W)=>yh4 n fine veh a ao (some ⟨bv,ov,none⟩) ra9 cap ko co kv cv rc9 zs os vs rids W (HA.X.below (Q6.X.below hW).b) (HO.X.below (Q6.X.below hW).b) (HV.X.below (Q6.X.below hW).b) (HRT.X.below (Q6.X.below hW).b) HLO.X HLV.X (by omega) (by omega) (by rw[HRL.X];omega) (by rw[HRL.X];exact hrc) HRA9.X id bi true (by rw[HCB.X];exact hp1) bvv (by have h:=hp2;unfold plD at h;rw[hp1]at h;exact h) xs HXS.X
         rw[HLZ.X,HRL.X]at CI0;have CI:Hid _:=CI0;have HW6:Hid (w.heap.size+4<=w6.heap.size):=Q6.X.size;clear CI0 hpm HB8 hp1 hp2 U6;rcases hgo with h9|⟨h9,hge⟩
         ·subst h9
          obtain⟨d0,d1,d2,d3,d4⟩:=za7 Q6.X.c;go_upto_region 13 with fail;clear d0 d1 d2 d3 d4;go_cut [15,16,17]from 69 to 81 (fun s15 s16 s17 wx=>∃(kr:Nat) (ad:Option Addr) (cg:Nat),s15=.pointer (some ⟨kr,0,none⟩)/\s16=zc zb bvv/\s17=.bool true/\Below w6.heap.size w6 wx/\wx.heap[kr]? =some (zd #[zc zb vv,za ad xl cg] 80 (0,0))/\wx.ownsRow (w.heap.size+4) 2 1 (za ad xl cg) xl (xs.map (zc zb)))
          case first=>
           go_wp2_with fail
           refine qV (S:=(fun W=>W.cell? ⟨w.heap.size,0,none⟩=some (zc zb n)/\W.cell? ⟨w.heap.size,1,none⟩=some (za a zl cap)/\W.cell? ⟨w.heap.size,2,none⟩=some (za ao ko co)/\W.cell? ⟨w.heap.size,3,none⟩=some (za (some ⟨bv,ov,none⟩) kv cv)/\W.cell? ⟨w.heap.size,4,none⟩=some (zc zb fine)/\W.cell? ⟨rb,0,none⟩=some (zc zb veh)/\W.cell? ⟨rb,1,none⟩=some (za ra9 rl rc9)/\W.cell? ⟨w.heap.size+1,1,none⟩=some (za (some ⟨bl,ol,none⟩) ln lc)/\W.cell? ⟨bl,ol+i,none⟩=some (zc zb id))) (by kernel_rfl) ?_ (fun hHeld=> ?_)
           ·exact HC13.X _ (yV _ _).drew
           have BD:Hid (Below w6.heap.size w6 w6.drew):=(yV _ _).drew;generalize w6.drew=wd at*;refine tkH 0 hHeld ?_;refine tkH 1 hHeld ?_;refine tkH 2 hHeld ?_;refine tkH 3 hHeld ?_;refine tkH 4 hHeld ?_;refine tkH 5 hHeld ?_;refine tkH 6 hHeld ?_;refine tkH 7 hHeld ?_;refine qT (rs:=[8,13]) (by kernel_rfl) (by simp) ?_;refine qR rfl (fun K hK=> ?_) ?_
           ·skip
            go_simp;refine(CI.X wd BD.X).mono ?_;rintro e w1 ⟨hb,ad,cg,rfl,ho⟩;have B1:Hid (Below w6.heap.size w6 w1):=BD.X.trans (hb.mono BD.X.size);rw[HVV.X,HXL.X];have O1:Hid (w1.ownsRow (w.heap.size+4) 2 1 (za ad xl cg) xl (xs.map (zc zb))):=by
             rw[HXL.X]at ho;exact zc4 ho (by have:=HW6.X;have:=BD.X.size;omega)
            clear ho;clear hb
            (try go_wp2_with fail)
            refine hK.out _ _ ?_ (fun hHeld=> ?_)
            ·exact HC13.X _ B1.X
            clear hK K
            (try simp only[zi,xB,zL,xC])
            refine tkH 9 hHeld ?_;refine tkH 10 hHeld ?_;refine tkH 11 hHeld ?_;refine tkH 12 hHeld ?_;refine qT (rs:=[13]) (by kernel_rfl) (by simp) ?_;refine qR rfl (fun K hK=> ?_) qS;have BZ:Hid (Below w6.heap.size w6 (w1.alloc (zd #[zc zb 0,za none 0 0] 80))):=B1.X.alloc B1.X.size _;have VZ0:Hid ((w1.alloc (zd #[zc zb 0,za none 0 0] 80)).heap[w1.heap.size]? =some (zd #[zc zb 0,za none 0 0] 80 (0,0))):=zN _ _;have HZL:Hid (w6.heap.size<=w1.heap.size):=B1.X.size;have OZ:Hid (zk (w1.alloc (zd #[zc zb 0,za none 0 0] 80)) (w.heap.size+4) 2 1 (za ad xl cg) xl (xs.map (zc zb))):=O1.X.alloc _;go_simp;refine hK.out _ _ ?_ (fun hHeld=> ?_)
            ·exact HC13.X _ BZ.X
            clear hK K
            (try simp only[zi,xB,zL,xC])
            obtain⟨kr,HKZ⟩:=nmd w1.heap.size;rw[HKZ.X]at VZ0 HZL⊢;generalize(w1.alloc (zd #[zc zb 0,za none 0 0] 80))=wz at*;obtain⟨z0,z1⟩:=za1 VZ0.X;have zf:=fun i=>yU _ _ i _ _ VZ0.X;refine qT (rs:=[14]) (by kernel_rfl) (by simp) ?_;refine qR rfl (fun K hK=> ?_) qS;have B5:Hid (Below w6.heap.size w6 ((wz.setCell ⟨kr,0,none⟩ (zc zb vv)).setCell ⟨kr,1,none⟩ (za ad xl cg))):=(BZ.X.setCell HZL.X _).setCell HZL.X _;have s1:=zP wz kr 0 _ _ (zc zb vv) VZ0.X;have V5:Hid (((wz.setCell ⟨kr,0,none⟩ (zc zb vv)).setCell ⟨kr,1,none⟩ (za ad xl cg)).heap[kr]? =some (zd #[zc zb vv,za ad xl cg] 80 (0,0))):=by
             have s2:=zP _ kr 1 _ _ (za ad xl cg) s1;simp at s2;exact s2
            have O5:Hid (zk ((wz.setCell ⟨kr,0,none⟩ (zc zb vv)).setCell ⟨kr,1,none⟩ (za ad xl cg)) (w.heap.size+4) 2 1 (za ad xl cg) xl (xs.map (zc zb))):=zd4 (zd4 OZ.X VZ0.X) (zP _ kr 0 _ _ _ VZ0.X);have HZ5:Hid (w6.heap.size<=kr):=HZL.X;clear s1;go_simp;refine hK.out _ _ ?_ (fun hHeld=> ?_)
            ·exact HC13.X _ B5.X
            clear hK K;generalize((wz.setCell ⟨kr,0,none⟩ (zc zb vv)).setCell ⟨kr,1,none⟩ (za ad xl cg))=w5 at*;refine tkH 15 hHeld ?_;refine tkH 16 hHeld ?_;refine qU (by kernel_rfl) ?_ _;clear hHeld
            (try go_wp2_with fail)
            go_meet;exact⟨kr,ad,cg,rfl,rfl,rfl,B5.X,V5.X,O5.X⟩
           refine qR rfl (fun K hK=> ?_) qS;have BZ:Hid (Below w6.heap.size w6 (wd.alloc (zd #[zc zb 0,za none 0 0] 80))):=BD.X.alloc BD.X.size _;have VZ0:Hid ((wd.alloc (zd #[zc zb 0,za none 0 0] 80)).heap[wd.heap.size]? =some (zd #[zc zb 0,za none 0 0] 80 (0,0))):=zN _ _;have HZL:Hid (w6.heap.size<=wd.heap.size):=BD.X.size;go_simp;refine hK.out _ _ ?_ (fun hHeld=> ?_)
           ·exact HC13.X _ BZ.X
           clear hK K
           (try simp only[zi,xB,zL,xC])
           obtain⟨kr,HKZ⟩:=nmd wd.heap.size;rw[HKZ.X]at VZ0 HZL⊢;generalize(wd.alloc (zd #[zc zb 0,za none 0 0] 80))=wz at*;obtain⟨z0,z1⟩:=za1 VZ0.X;have zf:=fun i=>yU _ _ i _ _ VZ0.X;refine qT (rs:=[8]) (by kernel_rfl) (by simp) ?_;refine qR rfl (fun K hK=> ?_) qS;go_simp;refine(CI.X wz BZ.X).mono ?_;rintro e w1 ⟨hb,ad,cg,rfl,ho⟩;have B1:Hid (Below w6.heap.size w6 w1):=BZ.X.trans (hb.mono BZ.X.size);rw[HVV.X,HXL.X];have O1:Hid (w1.ownsRow (w.heap.size+4) 2 1 (za ad xl cg) xl (xs.map (zc zb))):=by
            rw[HXL.X]at ho;exact zc4 ho (by have:=HW6.X;have:=BZ.X.size;omega)
           clear ho;have VZ1:=za4 (za0 hb (za2 VZ0.X) VZ0.X);obtain⟨z0,z1⟩:=za1 VZ1.X;have zf:=fun i=>yU _ _ i _ _ VZ1.X;clear hb
           (try go_wp2_with fail)
           refine hK.out _ _ ?_ (fun hHeld=> ?_)
           ·exact HC13.X _ B1.X
           clear hK K
           (try simp only[zi,xB,zL,xC])
           refine tkH 9 hHeld ?_;refine tkH 10 hHeld ?_;refine tkH 11 hHeld ?_;refine tkH 12 hHeld ?_;refine qT (rs:=[14]) (by kernel_rfl) (by simp) ?_;refine qR rfl (fun K hK=> ?_) qS;have B5:Hid (Below w6.heap.size w6 ((w1.setCell ⟨kr,0,none⟩ (zc zb vv)).setCell ⟨kr,1,none⟩ (za ad xl cg))):=(B1.X.setCell HZL.X _).setCell HZL.X _;have s1:=zP w1 kr 0 _ _ (zc zb vv) VZ1.X;have V5:Hid (((w1.setCell ⟨kr,0,none⟩ (zc zb vv)).setCell ⟨kr,1,none⟩ (za ad xl cg)).heap[kr]? =some (zd #[zc zb vv,za ad xl cg] 80 (0,0))):=by
            have s2:=zP _ kr 1 _ _ (za ad xl cg) s1;simp at s2;exact s2
           have O5:Hid (zk ((w1.setCell ⟨kr,0,none⟩ (zc zb vv)).setCell ⟨kr,1,none⟩ (za ad xl cg)) (w.heap.size+4) 2 1 (za ad xl cg) xl (xs.map (zc zb))):=zd4 (zd4 O1.X VZ1.X) (zP _ kr 0 _ _ _ VZ1.X);have HZ5:Hid (w6.heap.size<=kr):=HZL.X;clear s1;go_simp;refine hK.out _ _ ?_ (fun hHeld=> ?_)
           ·exact HC13.X _ B5.X
           clear hK K;generalize((w1.setCell ⟨kr,0,none⟩ (zc zb vv)).setCell ⟨kr,1,none⟩ (za ad xl cg))=w5 at*;refine tkH 15 hHeld ?_;refine tkH 16 hHeld ?_;refine qU (by kernel_rfl) ?_ _;clear hHeld
           (try go_wp2_with fail)
           go_meet;exact⟨kr,ad,cg,rfl,rfl,rfl,B5.X,V5.X,O5.X⟩
          case rest=>
           obtain⟨kr,ad,cg,rfl,rfl,rfl,hB5,hV5,hO5⟩:=hcut;obtain⟨w5,hw5⟩:∃v,v=wc:=⟨_,rfl⟩;subst hw5;have B5:=za4 hB5;have V5:=za4 hV5;have O5:=za4 hO5;clear hB5 hV5 hO5;clear CI HC13 HVV;have Q7:=za4 (Q6.X.below B5.X);have HW7:Hid (w.heap.size+4<=w5.heap.size):=Q7.X.size;obtain⟨gx,e⟩:∃gx,ad=some ⟨gx,0,none⟩:=by
            rcases own_kinds O5.X with⟨_,h0⟩|⟨g,c,e,_,_⟩
            ·exact absurd (qK.1 (HXL.X.trans h0)) HXN.X.1
            ·simp only[xW]at e
             exact⟨g,e.1⟩
           subst e;have LS:=z41 ra bl ol rc lc gx 0 cg R L vv xs w5 (HR.X.below Q7.X.b) (HL.X.below Q7.X.b) (zj8 O5.X) (by rw[HN.X];omega) (fun r hr=>⟨(HI.X r hr).1,by have:=(HI.X r hr).2.1;omega⟩) (by rw[HM.X];omega) ⟨HXN.X.1,by have:=HXN.X.2;omega⟩;rw[HN.X,HM.X,HXL.X]at LS;obtain⟨p0,p1⟩:=za1 Q7.X.p;obtain⟨v0,v1⟩:=za1 V5.X
           go_wp2_with fail
           refine LS.mono ?_;rintro e w8 ⟨ra8,rc8,gl8,lc8,S8,rfl,hb8,hk8,ho8⟩;obtain⟨n8,HN8⟩:=nmd S8.length;rw[HN8.X,HM.X];rw[HN8.X,HM.X]at ho8;have Q8:=za4 (Q7.X.below hb8);have P8:=za4 ho8;have HK8:Hid (S8.map RT.key=(zK9 R (oneT R (id,veh,bi))).map RT.key):=by
            show _=_;rw[hk8];refine yn2 HS.X HXN.X.1 ?_;show(vv,xs)=(veh,insL (zc6 R veh).ids bi id);rw[HVE9.X,HRTO.X,HXS.X]
           clear hb8 ho8 hk8 LS p0 p1 v0 v1 V5 O5 B5 Q7;obtain⟨q0,q1⟩:=za1 Q8.X.o;have qf:=fun i=>yU _ _ i _ _ Q8.X.o;have s1:=zP w8 (w.heap.size+3) 0 _ _ (za ra8 n8 rc8) Q8.X.o;have s2:=zP _ (w.heap.size+3) 1 _ _ (za (some ⟨gl8,0,none⟩) ln lc8) s1;simp at s2;have Q9:Hid (OQ w ((w8.setCell ⟨w.heap.size+3,0,none⟩ (za ra8 n8 rc8)).setCell ⟨w.heap.size+3,1,none⟩ (za (some ⟨gl8,0,none⟩) ln lc8)) #[zc zb n,za a zl cap,za ao ko co,za (some ⟨bv,ov,none⟩) kv cv,zc zb fine] #[za ra nr rc,za (some ⟨bl,ol,none⟩) ln lc] (za ra8 n8 rc8) (za (some ⟨gl8,0,none⟩) ln lc8)):=⟨(Q8.X.b.setCell (by simp) _).setCell (by simp) _,za6 (za6 Q8.X.c (by omega)) (by omega),za6 (za6 Q8.X.p (by omega)) (by omega),za6 (za6 Q8.X.a (by omega)) (by omega),s2⟩;have P9:Hid (PO ((w8.setCell ⟨w.heap.size+3,0,none⟩ (za ra8 n8 rc8)).setCell ⟨w.heap.size+3,1,none⟩ (za (some ⟨gl8,0,none⟩) ln lc8)) (w.heap.size+4) (za ra8 n8 rc8) S8 (za (some ⟨gl8,0,none⟩) ln lc8) L):=((P8.X.box Q8.X.o).box s1).base HW7.X;clear s1 s2
           go_wp2_with fail
           clear q0 q1 qf Q8 P8;generalize((w8.setCell ⟨w.heap.size+3,0,none⟩ (za ra8 n8 rc8)).setCell ⟨w.heap.size+3,1,none⟩ (za (some ⟨gl8,0,none⟩) ln lc8))=w9 at*;have CU0:=fun(W:zg) (hW:Below w9.heap.size w9 W)=>zZ9 (some ⟨bl,ol,none⟩) lc ln L id W (HL.X.below (Q9.X.below hW).b) HM.X (by omega)
           obtain⟨m10,HM10⟩:=nmd ((zn1 L id).length);rw[HM10.X]at CU0;have CU:Hid _:=CU0;have HC15:Hid (∀W,Below w9.heap.size w9 W->(fun W=>W.cell? ⟨w.heap.size+1,1,none⟩=some (za (some ⟨bl,ol,none⟩) ln lc)/\W.cell? ⟨bl,ol+i,none⟩=some (zc zb id)) W):=fun W hW=>by
            have q:=Q9.X.below hW;exact⟨(za1 q.p).2,HIE.X W q.b⟩
           clear CU0;have kS:=HC15.X _ (yV _ _).drew
           go_region_held3 (fun W=>W.cell? ⟨w.heap.size+1,1,none⟩=some (za (some ⟨bl,ol,none⟩) ln lc)/\W.cell? ⟨bl,ol+i,none⟩=some (zc zb id)) (first|with_reducible exact kS|with_reducible exact kS5|go_keep) ((first
            |(go_at_call 73
              with_reducible refine(CU.X w9.drew (yV _ _).drew).mono ?_
              rintro e w10 ⟨g10,c10,rfl,hb,ho⟩;have B10:Hid (Below w9.heap.size w9 w10):=(yV _ _).drew.trans hb;have Q10:=za4 (Q9.X.below B10.X);have L10:Hid (w10.ownsRow (w.heap.size+4) 2 1 (za (some ⟨g10,0,none⟩) m10 c10) m10 ((zn1 L id).map (zc zb))):=zc4 ho Q9.X.size;have kS:=HC15.X _ B10.X;have kS5:(fun W=>W.cell? ⟨w.heap.size+1,1,none⟩=some (za (some ⟨bl,ol,none⟩) ln lc)/\W.cell? ⟨bl,ol+i,none⟩=some (zc zb id)) (w10.setCell ⟨w.heap.size+3,1,none⟩ (za (some ⟨g10,0,none⟩) m10 c10)):=⟨za5 kS.1 (by show w.heap.size+1≠w.heap.size+3;omega),HIE.X _ (Q10.X.b.setCell (by simp) _)⟩;obtain⟨q0,q1⟩:=za1 Q10.X.o;have qf:=fun i=>yU _ _ i _ _ Q10.X.o;clear hb ho)))
           clear kS kS5 CU HC15;have s1:=zP w10 (w.heap.size+3) 1 _ _ (za (some ⟨g10,0,none⟩) m10 c10) Q10.X.o;simp at s1;have Q11:Hid (OQ w (w10.setCell ⟨w.heap.size+3,1,none⟩ (za (some ⟨g10,0,none⟩) m10 c10)) #[zc zb n,za a zl cap,za ao ko co,za (some ⟨bv,ov,none⟩) kv cv,zc zb fine] #[za ra nr rc,za (some ⟨bl,ol,none⟩) ln lc] (za ra8 n8 rc8) (za (some ⟨g10,0,none⟩) m10 c10)):=⟨Q10.X.b.setCell (by simp) _,za6 Q10.X.c (by omega),za6 Q10.X.p (by omega),za6 Q10.X.a (by omega),s1⟩;have U11:Hid (OU w (w10.setCell ⟨w.heap.size+3,1,none⟩ (za (some ⟨g10,0,none⟩) m10 c10)) #[za ra nr rc,za (some ⟨bl,ol,none⟩) ln lc] R L ⟨true,(id,veh,bi),bvv⟩ (za ra8 n8 rc8) (za (some ⟨g10,0,none⟩) m10 c10)):=.inr ⟨rfl,S8,⟨((P9.X.below B10.X).box Q10.X.o).r,((P9.X.below B10.X).box Q10.X.o).s,by show zk _ _ _ _ _ (zn1 L id).length _;rw[HM10.X];exact ze6 L10.X Q10.X.o (by decide)⟩,HK8.X,g10,c10,by show _=za _ (zn1 L id).length _;rw[HM10.X]⟩;clear s1 L10 q0 q1 qf Q10 P9 B10 Q9;go_wp2;go_roundw
           case rel=>exact⟨k+1,_,_,by omega,by first|rfl|go_num,by rw[HNS.X],by rw[HNS.X],Q11.X,by rw[HNS.X];exact U11.X⟩
           case measure=>simp[intOf];omega
         ·subst h9
          obtain⟨d0,d1,d2,d3,d4⟩:=za7 Q6.X.c;go_upto_region 13 with fail;clear d0 d1 d2 d3 d4;go_cut [15,16,17]from 69 to 81 (fun s15 s16 s17 wx=>∃(kr:Nat) (ad:Option Addr) (cg:Nat),s15=.pointer (some ⟨kr,0,none⟩)/\s16=zc zb bvv/\s17=.bool true/\Below w6.heap.size w6 wx/\wx.heap[kr]? =some (zd #[zc zb vv,za ad xl cg] 80 (0,0))/\wx.ownsRow (w.heap.size+4) 2 1 (za ad xl cg) xl (xs.map (zc zb)))
          case first=>
           go_wp2_with fail
           refine qV (S:=(fun W=>W.cell? ⟨w.heap.size,0,none⟩=some (zc zb n)/\W.cell? ⟨w.heap.size,1,none⟩=some (za a zl cap)/\W.cell? ⟨w.heap.size,2,none⟩=some (za ao ko co)/\W.cell? ⟨w.heap.size,3,none⟩=some (za (some ⟨bv,ov,none⟩) kv cv)/\W.cell? ⟨w.heap.size,4,none⟩=some (zc zb fine)/\W.cell? ⟨rb,0,none⟩=some (zc zb veh)/\W.cell? ⟨rb,1,none⟩=some (za ra9 rl rc9)/\W.cell? ⟨w.heap.size+1,1,none⟩=some (za (some ⟨bl,ol,none⟩) ln lc)/\W.cell? ⟨bl,ol+i,none⟩=some (zc zb id))) (by kernel_rfl) ?_ (fun hHeld=> ?_)
           ·exact HC13.X _ (yV _ _).drew
           have BD:Hid (Below w6.heap.size w6 w6.drew):=(yV _ _).drew;generalize w6.drew=wd at*;refine tkH 0 hHeld ?_;refine tkH 1 hHeld ?_;refine tkH 2 hHeld ?_;refine tkH 3 hHeld ?_;refine tkH 4 hHeld ?_;refine tkH 5 hHeld ?_;refine tkH 6 hHeld ?_;refine tkH 7 hHeld ?_;refine qT (rs:=[8,13]) (by kernel_rfl) (by simp) ?_;refine qR rfl (fun K hK=> ?_) ?_
           ·skip
            go_simp;refine(CI.X wd BD.X).mono ?_;rintro e w1 ⟨hb,ad,cg,rfl,ho⟩;have B1:Hid (Below w6.heap.size w6 w1):=BD.X.trans (hb.mono BD.X.size);rw[HVV.X,HXL.X];have O1:Hid (w1.ownsRow (w.heap.size+4) 2 1 (za ad xl cg) xl (xs.map (zc zb))):=by
             rw[HXL.X]at ho;exact zc4 ho (by have:=HW6.X;have:=BD.X.size;omega)
            clear ho;clear hb
            (try go_wp2_with fail)
            refine hK.out _ _ ?_ (fun hHeld=> ?_)
            ·exact HC13.X _ B1.X
            clear hK K
            (try simp only[zi,xB,zL,xC])
            refine tkH 9 hHeld ?_;refine tkH 10 hHeld ?_;refine tkH 11 hHeld ?_;refine tkH 12 hHeld ?_;refine qT (rs:=[13]) (by kernel_rfl) (by simp) ?_;refine qR rfl (fun K hK=> ?_) qS;have BZ:Hid (Below w6.heap.size w6 (w1.alloc (zd #[zc zb 0,za none 0 0] 80))):=B1.X.alloc B1.X.size _;have VZ0:Hid ((w1.alloc (zd #[zc zb 0,za none 0 0] 80)).heap[w1.heap.size]? =some (zd #[zc zb 0,za none 0 0] 80 (0,0))):=zN _ _;have HZL:Hid (w6.heap.size<=w1.heap.size):=B1.X.size;have OZ:Hid (zk (w1.alloc (zd #[zc zb 0,za none 0 0] 80)) (w.heap.size+4) 2 1 (za ad xl cg) xl (xs.map (zc zb))):=O1.X.alloc _;go_simp;refine hK.out _ _ ?_ (fun hHeld=> ?_)
            ·exact HC13.X _ BZ.X
            clear hK K
            (try simp only[zi,xB,zL,xC])
            obtain⟨kr,HKZ⟩:=nmd w1.heap.size;rw[HKZ.X]at VZ0 HZL⊢;generalize(w1.alloc (zd #[zc zb 0,za none 0 0] 80))=wz at*;obtain⟨z0,z1⟩:=za1 VZ0.X;have zf:=fun i=>yU _ _ i _ _ VZ0.X;refine qT (rs:=[14]) (by kernel_rfl) (by simp) ?_;refine qR rfl (fun K hK=> ?_) qS;have B5:Hid (Below w6.heap.size w6 ((wz.setCell ⟨kr,0,none⟩ (zc zb vv)).setCell ⟨kr,1,none⟩ (za ad xl cg))):=(BZ.X.setCell HZL.X _).setCell HZL.X _;have s1:=zP wz kr 0 _ _ (zc zb vv) VZ0.X;have V5:Hid (((wz.setCell ⟨kr,0,none⟩ (zc zb vv)).setCell ⟨kr,1,none⟩ (za ad xl cg)).heap[kr]? =some (zd #[zc zb vv,za ad xl cg] 80 (0,0))):=by
             have s2:=zP _ kr 1 _ _ (za ad xl cg) s1;simp at s2;exact s2
            have O5:Hid (zk ((wz.setCell ⟨kr,0,none⟩ (zc zb vv)).setCell ⟨kr,1,none⟩ (za ad xl cg)) (w.heap.size+4) 2 1 (za ad xl cg) xl (xs.map (zc zb))):=zd4 (zd4 OZ.X VZ0.X) (zP _ kr 0 _ _ _ VZ0.X);have HZ5:Hid (w6.heap.size<=kr):=HZL.X;clear s1;go_simp;refine hK.out _ _ ?_ (fun hHeld=> ?_)
            ·exact HC13.X _ B5.X
            clear hK K;generalize((wz.setCell ⟨kr,0,none⟩ (zc zb vv)).setCell ⟨kr,1,none⟩ (za ad xl cg))=w5 at*;refine tkH 15 hHeld ?_;refine tkH 16 hHeld ?_;refine qU (by kernel_rfl) ?_ _;clear hHeld
            (try go_wp2_with fail)
            go_meet;exact⟨kr,ad,cg,rfl,rfl,rfl,B5.X,V5.X,O5.X⟩
           refine qR rfl (fun K hK=> ?_) qS;have BZ:Hid (Below w6.heap.size w6 (wd.alloc (zd #[zc zb 0,za none 0 0] 80))):=BD.X.alloc BD.X.size _;have VZ0:Hid ((wd.alloc (zd #[zc zb 0,za none 0 0] 80)).heap[wd.heap.size]? =some (zd #[zc zb 0,za none 0 0] 80 (0,0))):=zN _ _;have HZL:Hid (w6.heap.size<=wd.heap.size):=BD.X.size;go_simp;refine hK.out _ _ ?_ (fun hHeld=> ?_)
           ·exact HC13.X _ BZ.X
           clear hK K
           (try simp only[zi,xB,zL,xC])
           obtain⟨kr,HKZ⟩:=nmd wd.heap.size;rw[HKZ.X]at VZ0 HZL⊢;generalize(wd.alloc (zd #[zc zb 0,za none 0 0] 80))=wz at*;obtain⟨z0,z1⟩:=za1 VZ0.X;have zf:=fun i=>yU _ _ i _ _ VZ0.X;refine qT (rs:=[8]) (by kernel_rfl) (by simp) ?_;refine qR rfl (fun K hK=> ?_) qS;go_simp;refine(CI.X wz BZ.X).mono ?_;rintro e w1 ⟨hb,ad,cg,rfl,ho⟩;have B1:Hid (Below w6.heap.size w6 w1):=BZ.X.trans (hb.mono BZ.X.size);rw[HVV.X,HXL.X];have O1:Hid (w1.ownsRow (w.heap.size+4) 2 1 (za ad xl cg) xl (xs.map (zc zb))):=by
            rw[HXL.X]at ho;exact zc4 ho (by have:=HW6.X;have:=BZ.X.size;omega)
           clear ho;have VZ1:=za4 (za0 hb (za2 VZ0.X) VZ0.X);obtain⟨z0,z1⟩:=za1 VZ1.X;have zf:=fun i=>yU _ _ i _ _ VZ1.X;clear hb
           (try go_wp2_with fail)
           refine hK.out _ _ ?_ (fun hHeld=> ?_)
           ·exact HC13.X _ B1.X
           clear hK K
           (try simp only[zi,xB,zL,xC])
           refine tkH 9 hHeld ?_;refine tkH 10 hHeld ?_;refine tkH 11 hHeld ?_;refine tkH 12 hHeld ?_;refine qT (rs:=[14]) (by kernel_rfl) (by simp) ?_;refine qR rfl (fun K hK=> ?_) qS;have B5:Hid (Below w6.heap.size w6 ((w1.setCell ⟨kr,0,none⟩ (zc zb vv)).setCell ⟨kr,1,none⟩ (za ad xl cg))):=(B1.X.setCell HZL.X _).setCell HZL.X _;have s1:=zP w1 kr 0 _ _ (zc zb vv) VZ1.X;have V5:Hid (((w1.setCell ⟨kr,0,none⟩ (zc zb vv)).setCell ⟨kr,1,none⟩ (za ad xl cg)).heap[kr]? =some (zd #[zc zb vv,za ad xl cg] 80 (0,0))):=by
            have s2:=zP _ kr 1 _ _ (za ad xl cg) s1;simp at s2;exact s2
           have O5:Hid (zk ((w1.setCell ⟨kr,0,none⟩ (zc zb vv)).setCell ⟨kr,1,none⟩ (za ad xl cg)) (w.heap.size+4) 2 1 (za ad xl cg) xl (xs.map (zc zb))):=zd4 (zd4 O1.X VZ1.X) (zP _ kr 0 _ _ _ VZ1.X);have HZ5:Hid (w6.heap.size<=kr):=HZL.X;clear s1;go_simp;refine hK.out _ _ ?_ (fun hHeld=> ?_)
           ·exact HC13.X _ B5.X
           clear hK K;generalize((w1.setCell ⟨kr,0,none⟩ (zc zb vv)).setCell ⟨kr,1,none⟩ (za ad xl cg))=w5 at*;refine tkH 15 hHeld ?_;refine tkH 16 hHeld ?_;refine qU (by kernel_rfl) ?_ _;clear hHeld
           (try go_wp2_with fail)
           go_meet;exact⟨kr,ad,cg,rfl,rfl,rfl,B5.X,V5.X,O5.X⟩
          case rest=>
           obtain⟨kr,ad,cg,rfl,rfl,rfl,hB5,hV5,hO5⟩:=hcut;obtain⟨w5,hw5⟩:∃v,v=wc:=⟨_,rfl⟩;subst hw5;have B5:=za4 hB5;have V5:=za4 hV5;have O5:=za4 hO5;clear hB5 hV5 hO5;clear CI HC13 HVV;have Q7:=za4 (Q6.X.below B5.X);have HW7:Hid (w.heap.size+4<=w5.heap.size):=Q7.X.size;obtain⟨gx,e⟩:∃gx,ad=some ⟨gx,0,none⟩:=by
            rcases own_kinds O5.X with⟨_,h0⟩|⟨g,c,e,_,_⟩
            ·exact absurd (qK.1 (HXL.X.trans h0)) HXN.X.1
            ·simp only[xW]at e
             exact⟨g,e.1⟩
           subst e;have LS:=z41 ra bl ol rc lc gx 0 cg R L vv xs w5 (HR.X.below Q7.X.b) (HL.X.below Q7.X.b) (zj8 O5.X) (by rw[HN.X];omega) (fun r hr=>⟨(HI.X r hr).1,by have:=(HI.X r hr).2.1;omega⟩) (by rw[HM.X];omega) ⟨HXN.X.1,by have:=HXN.X.2;omega⟩;rw[HN.X,HM.X,HXL.X]at LS;obtain⟨p0,p1⟩:=za1 Q7.X.p;obtain⟨v0,v1⟩:=za1 V5.X
           go_wp2_with fail
           refine LS.mono ?_;rintro e w8 ⟨ra8,rc8,gl8,lc8,S8,rfl,hb8,hk8,ho8⟩;obtain⟨n8,HN8⟩:=nmd S8.length;rw[HN8.X,HM.X];rw[HN8.X,HM.X]at ho8;have Q8:=za4 (Q7.X.below hb8);have P8:=za4 ho8;have HK8:Hid (S8.map RT.key=(zK9 R (oneT R (id,veh,bi))).map RT.key):=by
            show _=_;rw[hk8];refine yn2 HS.X HXN.X.1 ?_;show(vv,xs)=(veh,insL (zc6 R veh).ids bi id);rw[HVE9.X,HRTO.X,HXS.X]
           clear hb8 ho8 hk8 LS p0 p1 v0 v1 V5 O5 B5 Q7;obtain⟨q0,q1⟩:=za1 Q8.X.o;have qf:=fun i=>yU _ _ i _ _ Q8.X.o;have s1:=zP w8 (w.heap.size+3) 0 _ _ (za ra8 n8 rc8) Q8.X.o;have s2:=zP _ (w.heap.size+3) 1 _ _ (za (some ⟨gl8,0,none⟩) ln lc8) s1;simp at s2;have Q9:Hid (OQ w ((w8.setCell ⟨w.heap.size+3,0,none⟩ (za ra8 n8 rc8)).setCell ⟨w.heap.size+3,1,none⟩ (za (some ⟨gl8,0,none⟩) ln lc8)) #[zc zb n,za a zl cap,za ao ko co,za (some ⟨bv,ov,none⟩) kv cv,zc zb fine] #[za ra nr rc,za (some ⟨bl,ol,none⟩) ln lc] (za ra8 n8 rc8) (za (some ⟨gl8,0,none⟩) ln lc8)):=⟨(Q8.X.b.setCell (by simp) _).setCell (by simp) _,za6 (za6 Q8.X.c (by omega)) (by omega),za6 (za6 Q8.X.p (by omega)) (by omega),za6 (za6 Q8.X.a (by omega)) (by omega),s2⟩;have P9:Hid (PO ((w8.setCell ⟨w.heap.size+3,0,none⟩ (za ra8 n8 rc8)).setCell ⟨w.heap.size+3,1,none⟩ (za (some ⟨gl8,0,none⟩) ln lc8)) (w.heap.size+4) (za ra8 n8 rc8) S8 (za (some ⟨gl8,0,none⟩) ln lc8) L):=((P8.X.box Q8.X.o).box s1).base HW7.X;clear s1 s2
           go_wp2_with fail
           clear q0 q1 qf Q8 P8;generalize((w8.setCell ⟨w.heap.size+3,0,none⟩ (za ra8 n8 rc8)).setCell ⟨w.heap.size+3,1,none⟩ (za (some ⟨gl8,0,none⟩) ln lc8))=w9 at*;have CU0:=fun(W:zg) (hW:Below w9.heap.size w9 W)=>zZ9 (some ⟨bl,ol,none⟩) lc ln L id W (HL.X.below (Q9.X.below hW).b) HM.X (by omega)
           obtain⟨m10,HM10⟩:=nmd ((zn1 L id).length);rw[HM10.X]at CU0;have CU:Hid _:=CU0;have HC15:Hid (∀W,Below w9.heap.size w9 W->(fun W=>W.cell? ⟨w.heap.size+1,1,none⟩=some (za (some ⟨bl,ol,none⟩) ln lc)/\W.cell? ⟨bl,ol+i,none⟩=some (zc zb id)) W):=fun W hW=>by
            have q:=Q9.X.below hW;exact⟨(za1 q.p).2,HIE.X W q.b⟩
           clear CU0;have kS:=HC15.X _ (yV _ _).drew
           go_region_held3 (fun W=>W.cell? ⟨w.heap.size+1,1,none⟩=some (za (some ⟨bl,ol,none⟩) ln lc)/\W.cell? ⟨bl,ol+i,none⟩=some (zc zb id)) (first|with_reducible exact kS|with_reducible exact kS5|go_keep) ((first
            |(go_at_call 73
              with_reducible refine(CU.X w9.drew (yV _ _).drew).mono ?_
              rintro e w10 ⟨g10,c10,rfl,hb,ho⟩;have B10:Hid (Below w9.heap.size w9 w10):=(yV _ _).drew.trans hb;have Q10:=za4 (Q9.X.below B10.X);have L10:Hid (w10.ownsRow (w.heap.size+4) 2 1 (za (some ⟨g10,0,none⟩) m10 c10) m10 ((zn1 L id).map (zc zb))):=zc4 ho Q9.X.size;have kS:=HC15.X _ B10.X;have kS5:(fun W=>W.cell? ⟨w.heap.size+1,1,none⟩=some (za (some ⟨bl,ol,none⟩) ln lc)/\W.cell? ⟨bl,ol+i,none⟩=some (zc zb id)) (w10.setCell ⟨w.heap.size+3,1,none⟩ (za (some ⟨g10,0,none⟩) m10 c10)):=⟨za5 kS.1 (by show w.heap.size+1≠w.heap.size+3;omega),HIE.X _ (Q10.X.b.setCell (by simp) _)⟩;obtain⟨q0,q1⟩:=za1 Q10.X.o;have qf:=fun i=>yU _ _ i _ _ Q10.X.o;clear hb ho)))
           clear kS kS5 CU HC15;have s1:=zP w10 (w.heap.size+3) 1 _ _ (za (some ⟨g10,0,none⟩) m10 c10) Q10.X.o;simp at s1;have Q11:Hid (OQ w (w10.setCell ⟨w.heap.size+3,1,none⟩ (za (some ⟨g10,0,none⟩) m10 c10)) #[zc zb n,za a zl cap,za ao ko co,za (some ⟨bv,ov,none⟩) kv cv,zc zb fine] #[za ra nr rc,za (some ⟨bl,ol,none⟩) ln lc] (za ra8 n8 rc8) (za (some ⟨g10,0,none⟩) m10 c10)):=⟨Q10.X.b.setCell (by simp) _,za6 Q10.X.c (by omega),za6 Q10.X.p (by omega),za6 Q10.X.a (by omega),s1⟩;have U11:Hid (OU w (w10.setCell ⟨w.heap.size+3,1,none⟩ (za (some ⟨g10,0,none⟩) m10 c10)) #[za ra nr rc,za (some ⟨bl,ol,none⟩) ln lc] R L ⟨true,(id,veh,bi),bvv⟩ (za ra8 n8 rc8) (za (some ⟨g10,0,none⟩) m10 c10)):=.inr ⟨rfl,S8,⟨((P9.X.below B10.X).box Q10.X.o).r,((P9.X.below B10.X).box Q10.X.o).s,by show zk _ _ _ _ _ (zn1 L id).length _;rw[HM10.X];exact ze6 L10.X Q10.X.o (by decide)⟩,HK8.X,g10,c10,by show _=za _ (zn1 L id).length _;rw[HM10.X]⟩;clear s1 L10 q0 q1 qf Q10 P9 B10 Q9;go_wp2;go_roundw
           case rel=>exact⟨k+1,_,_,by omega,by first|rfl|go_num,by rw[HNS.X],by rw[HNS.X],Q11.X,by rw[HNS.X];exact U11.X⟩
           case measure=>simp[intOf];omega
        ·have HNS:Hid (fn (l1++sp2 R vs id (k+1))=⟨sf,ss,sv⟩):=by show _=_;rw[HN2.X];exact zW (fun h=>htk h.2.2)
         clear HN2 HC13;have hsf:sf=true:=by cases sf;exact absurd (.inl rfl) htk;rfl
         subst hsf;have hge:sv<=bvv:=by rcases Int.lt_or_le bvv sv with h|h;exact absurd (.inr h) htk;exact h
         obtain⟨d0,d1,d2,d3,d4⟩:=za7 Q6.X.c;go_wp2;go_roundw
         case rel=>exact⟨k+1,o0,o1,by omega,by first|rfl|go_num,by rw[HNS.X],by rw[HNS.X],Q6.X,by rw[HNS.X];exact U6.X⟩
         case measure=>simp[intOf];omega
       ·have HNS:Hid (fn (l1++sp2 R vs id (k+1))=⟨sf,ss,sv⟩):=by show _=_;rw[HN2.X];exact zW (fun h=>hfi h.2.1)
        clear HN2 HC13;have hgt:fine<bvv:=by omega
        obtain⟨d0,d1,d2,d3,d4⟩:=za7 Q6.X.c;go_wp2;go_roundw
        case rel=>exact⟨k+1,o0,o1,by omega,by first|rfl|go_num,by rw[HNS.X],by rw[HNS.X],Q6.X,by rw[HNS.X];exact U6.X⟩
        case measure=>simp[intOf];omega
    ·have hkI:¬((k:Int)<(kv:Int)):=by omega
     have hke:k=kv:=by omega
     go_wp2;go_roundw
     case rel=>exact⟨i+1,o0,o1,by omega,by first|rfl|go_num,by rw[HNX.X,hke],by rw[HNX.X,hke],Q3.X,by have U9:=U3'.X;rw[hke,<-HNX.X]at U9;exact U9⟩
     case measure=>simp[intOf];omega
  ·have hiI:¬((i:Int)<(ln:Int)):=by omega
   have hie:i=ln:=by omega
   have HQ9:Hid (fn (sp3 R vs kv L i)=s9):=by show _=_;rw[hie];exact HONE.X.symm
   rw[HQ9.X]at U1⊢;rcases U1.X with⟨hsf,hps⟩|⟨hsf,S,hPO,hky,g,c,e⟩
   ·simp only[Array.mk.injEq,List.cons.injEq,qb]at hps
    obtain⟨rfl,rfl⟩:=hps;have hRX:RX=R:=by rw[HRR.X,hsf];rfl
    have hLX:LX=L:=by rw[HLL.X,hsf];rfl
    have CC:=zp9 ra bl ol rc lc R L wr (HR.X.below Q1.X.b) (HL.X.below Q1.X.b) (by rw[HN.X];omega) (fun r hr=>⟨(HI.X r hr).1,by have:=(HI.X r hr).2.1;omega⟩) (by rw[HM.X];omega);rw[HN.X,HM.X]at CC;have HRXE:=za4 hRX;have HLXE:=za4 hLX;clear hRX hLX;obtain⟨q0,q1⟩:=za1 Q1.X.o
    go_wp2_with fail
    refine CC.mono ?_;rintro e w2 ⟨ra2,rc2,gl2,lc2,S2,rfl,hb,hk,ho⟩;rw[HN.X,HM.X]at ho;rw[HN.X,HM.X];have Q2:=za4 (Q1.X.below hb);have P2:Hid (PO w2 (w.heap.size+4) (za ra2 nr rc2) S2 (za (some ⟨gl2,0,none⟩) ln lc2) L):=ho.base (by have:=Q1.X.size;omega);have HK2:Hid (S2.map RT.key=RX.map RT.key):=by show _=_;rw[HRXE.X];exact hk
    clear hb ho hk CC q0 q1;obtain⟨a0,a1⟩:=za1 Q2.X.a;have af:=fun i=>yU _ _ i _ _ Q2.X.a;have s1:=zP w2 (w.heap.size+2) 0 _ _ (za ra2 nr rc2) Q2.X.a;have P3:Hid (PO ((w2.setCell ⟨w.heap.size+2,0,none⟩ (za ra2 nr rc2)).setCell ⟨w.heap.size+2,1,none⟩ (za (some ⟨gl2,0,none⟩) ln lc2)) (w.heap.size+4) (za ra2 nr rc2) S2 (za (some ⟨gl2,0,none⟩) ln lc2) L):=(P2.X.box Q2.X.a).box s1;have B3:Hid (Below w.heap.size w ((w2.setCell ⟨w.heap.size+2,0,none⟩ (za ra2 nr rc2)).setCell ⟨w.heap.size+2,1,none⟩ (za (some ⟨gl2,0,none⟩) ln lc2))):=(Q2.X.b.setCell (by simp) _).setCell (by simp) _;clear s1;go_wp2;refine yX (v:=.tuple #[.agg #[za ra2 nr rc2,za (some ⟨gl2,0,none⟩) ln lc2],.bool s9.f]) (by simp[results,Tryz.results95,go_sem,a0,a1,hsf]) rfl ?_;show yC9 _ _ _ _ _ _;exact⟨ra2,_,rc2,gl2,_,lc2,S2,by rw[hsf],B3.X,by have:=congrArg zj HK2.X;simp only[qn]at this;rw[this];rw[HRXE.X];exact HN.X,by rw[HLXE.X];exact HM.X,HK2.X,by rw[HLXE.X];exact P3.X.base (by omega)⟩
   ·have hRX:RX=wrL R (oneT R s9.s):=by rw[HRR.X,hsf];rfl
    have hLX:LX=zn1 L s9.s.1:=by rw[HLL.X,hsf];rfl
    obtain⟨sa,sc,e0⟩:=zp4 hPO.r;subst e e0;have hTN:(oneT R s9.s).ids≠[]/\(oneT R s9.s).ids.length<=13:=by
     have h2:=z50 (fun r hr=>(HI.X r hr).2.1) s9.s.2.1;refine⟨by unfold oneT insL;simp,?_⟩;unfold oneT insL;simp only[xU,yg,zZ,x7];omega
    have HKX:Hid (RX.map RT.key=S.map RT.key):=by show _=_;rw[hRX,hky,z39 HS.X hTN.1]
    have hlc:=zR1 L s9.s.1;rw[HM.X]at hlc;obtain⟨LC,HLC⟩:=nmd (zn1 L s9.s.1);rw[HLC.X]at hPO hlc hLX Q1;have HLXE:=za4 hLX;have hSl:S.length<=400:=by
     have h1:=congrArg zj hky;simp only[qn]at h1;have h2:=(zL1 R (oneT R s9.s)).2;rw[HN.X]at h2;omega
    have CC:=zp9 sa g 0 sc c S LC wr hPO.at (zj8 hPO.l) (by omega) (yp6 HI.X hTN hky) (by omega);obtain⟨nS,HNS⟩:=nmd S.length;obtain⟨nC,HNC⟩:=nmd LC.length;rw[HNS.X,HNC.X]at CC Q1;clear hRX hLX hPO hky hlc hSl hTN;obtain⟨q0,q1⟩:=za1 Q1.X.o
    go_wp2_with fail
    refine CC.mono ?_;rintro e w2 ⟨ra2,rc2,gl2,lc2,S2,rfl,hb,hk,ho⟩;rw[HNS.X,HNC.X]at ho;rw[HNS.X,HNC.X];have Q2:=za4 (Q1.X.below hb);have P2:Hid (PO w2 (w.heap.size+4) (za ra2 nS rc2) S2 (za (some ⟨gl2,0,none⟩) nC lc2) LC):=ho.base (by have:=Q1.X.size;omega);have HK2:Hid (S2.map RT.key=RX.map RT.key):=by show _=_;rw[HKX.X];exact hk
    clear hb ho hk CC q0 q1;obtain⟨a0,a1⟩:=za1 Q2.X.a;have af:=fun i=>yU _ _ i _ _ Q2.X.a;have s1:=zP w2 (w.heap.size+2) 0 _ _ (za ra2 nS rc2) Q2.X.a;have P3:Hid (PO ((w2.setCell ⟨w.heap.size+2,0,none⟩ (za ra2 nS rc2)).setCell ⟨w.heap.size+2,1,none⟩ (za (some ⟨gl2,0,none⟩) nC lc2)) (w.heap.size+4) (za ra2 nS rc2) S2 (za (some ⟨gl2,0,none⟩) nC lc2) LC):=(P2.X.box Q2.X.a).box s1;have B3:Hid (Below w.heap.size w ((w2.setCell ⟨w.heap.size+2,0,none⟩ (za ra2 nS rc2)).setCell ⟨w.heap.size+2,1,none⟩ (za (some ⟨gl2,0,none⟩) nC lc2))):=(Q2.X.b.setCell (by simp) _).setCell (by simp) _;clear s1;go_wp2;refine yX (v:=.tuple #[.agg #[za ra2 nS rc2,za (some ⟨gl2,0,none⟩) nC lc2],.bool s9.f]) (by simp[results,Tryz.results95,go_sem,a0,a1,hsf]) rfl ?_;show yC9 _ _ _ _ _ _;exact⟨ra2,_,rc2,gl2,_,lc2,S2,by rw[hsf],B3.X,by have:=congrArg zj HK2.X;simp only[qn]at this;rw[this];have h2:=congrArg zj HKX.X;simp only[qn]at h2;rw[h2];exact HNS.X,by rw[HLXE.X];exact HNC.X,HK2.X,by rw[HLXE.X];exact P3.X.base (by omega)⟩
