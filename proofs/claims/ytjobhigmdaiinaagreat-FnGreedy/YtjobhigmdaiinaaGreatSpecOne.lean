import Derived.Test.YtjobhigmdaiinaaGreatPack2
import Derived.Test.YtjobhigmdaiinaaGreatPack4
import Derived.Test.YtjobhigmdaiinaaGreatPack7
import Derived.Test.YtjobhigmdaiinaaGreatPack13
import Derived.Test.YtjobhigmdaiinaaGreatPack17
import Derived.Test.YtjobhigmdaiinaaGreatPack19
import Derived.Test.YtjobhigmdaiinaaGreatPack30
import Derived.Test.YtjobhigmdaiinaaGreatSpecBestOwn
import Derived.Deep.RegionHeld3
import Derived.Deep.CutRange
namespace Go.Proofs.YtjobhigmdaiinaaGreat
open Go.RowKit
structure OQ(w W:World)(cs ps:Array Value)(o0 o1:Value):Prop where
 b:Below w.heap.size w W
 c:W.heap[w.heap.size]? =some (.cells cs 30 (0,0))
 p:W.heap[w.heap.size+1]? =some (.cells ps 33 (0,0))
 a:W.heap[w.heap.size+2]? =some (.cells #[.slice none 0 0,.slice none 0 0] 33 (0,0))
 o:W.heap[w.heap.size+3]? =some (.cells #[o0,o1] 33 (0,0))
theorem OQ.below{w W W':World}{cs ps:Array Value}{o0 o1:Value}(h:OQ w W cs ps o0 o1)(hb:Below W.heap.size W W'):OQ w W' cs ps o0 o1:=
 ⟨h.b.trans (hb.mono h.b.size),za1 hb (za3 h.c) h.c,za1 hb (za3 h.p) h.p,za1 hb (za3 h.a) h.a,za1 hb (za3 h.o) h.o⟩
theorem OQ.size{w W:World}{cs ps:Array Value}{o0 o1:Value}(h:OQ w W cs ps o0 o1):w.heap.size+4<=W.heap.size:=za3 h.o
def OU(w W:World)(ps:Array Value)(R:List RT)(L:List Int)(s:QS)(o0 o1:Value):Prop:=(s.f=false/\ #[o0,o1]=ps)∨(s.f=true/\∃S,PO W (w.heap.size+4) o0 S o1 (zh7 L s.s.1)/\S.map RT.key=(setL R (oneT R s.s)).map RT.key/\∃g c,o1=.slice (some ⟨g,0,none⟩) (zh7 L s.s.1).length c)
theorem OU.below{w W W':World}{ps:Array Value}{R:List RT}{L:List Int}{s:QS}{o0 o1:Value}(h:OU w W ps R L s o0 o1)(hb:Below W.heap.size W W'):OU w W' ps R L s o0 o1:=by
 rcases h with h|⟨h1,S,h2,h3⟩
 ·exact .inl h
 ·exact .inr ⟨h1,S,h2.below hb,h3⟩
theorem yc4{ok:zh4->Bool}{dl:zh4->Int}(l:List zh4):(qst ok dl l).f=false->(qst ok dl l).v=0:=by
 suffices h:∀(m:List zh4) (s:QS),(s.f=false->s.v=0)->(m.foldl (zk8 ok dl) s).f=false->(m.foldl (zk8 ok dl) s).v=0 from h l qs0 (fun _=>rfl)
 intro m
 induction m with
 |nil=>intro s hs hf;exact hs hf
 |cons p m ih=>
  intro s hs hf;rw[List.foldl_cons]at hf⊢;refine ih _ (fun h9=> ?_) hf;unfold zk8 at h9⊢;split
  ·rename_i hc
   rw[if_pos hc]at h9;cases h9
  ·rename_i hc
   rw[if_neg hc]at h9;exact hs h9
theorem zP2(n fine veh:Int)(a ao av bi:Option Addr)(cap ko co kv cv c2:Nat)(zs os vs ids:List Int)(w:World)(hA:za0 w a zs)(hO:za0 w ao os)(hV:za0 w av vs)(hI:za0 w bi ids)(hlo:os.length=ko*6)(hlv:vs.length=kv*5)(hko:ko<=9223372036854775807)(hkv:kv<=9223372036854775807)(hli:ids.length<=9223372036854775807)(hc2:ids.length<=c2)(hbi:(bi=none/\ids=[]/\c2=0)∨∃g,bi=some ⟨g,0,none⟩)(id:Int)(k:Nat)(ch:Bool)(hch:chB (zb8 n zs os vs ko kv fine) n zs os vs ko kv veh ids (inB (k:Int) 0 (ids.length:Int)) (insL ids k id)=ch)(D:Int)(hD:chD ch n zs os vs ko kv veh ids (insL ids k id)=D)(xs:List Int)(hxs:chL ch (insL ids k id)=xs):
 Calls Tryz.prog 68 #[.agg #[.int .i64 n,.slice a zs.length cap,.slice ao ko co,.slice av kv cv,.int .i64 fine],.agg #[.int .i64 veh,.slice bi ids.length c2],.int .i64 id,.int .i64 (k:Int)] w (zK0 w ch veh D xs):=by
 rcases hbi with⟨rfl,rfl,rfl⟩|⟨g,rfl⟩
 ·exact zk9 n fine veh a ao av cap ko co kv cv zs os vs w hA hO hV hlo hlv hko hkv id (k:Int) ch (by simpa using hch) D (by simpa using hD) xs (by simpa using hxs)
 ·exact zl0 n fine veh a ao av g 0 cap ko co kv cv c2 zs os vs ids w hA hO hV hI hlo hlv hko hkv hli hc2 id (k:Int) ch (by simpa using hch) D (by simpa using hD) xs (by simpa using hxs)
theorem zQ4{R:List RT}{r s:RT}(hS:ze1 R)(hr:r.ids≠[])(h:r.key=s.key):(setL R r).map RT.key=(setL R s).map RT.key:=by
 have hi:r.ids=s.ids:=congrArg Prod.snd h;rw[zD9 hS hr,zD9 hS (by rw[<-hi];exact hr)];exact zN7 rfl h
def yq0(w:World)(f:Bool)(T:List RT)(L:List Int)(e:Ending)(w':World):Prop:=∃ra rn rc gl ln lc S,e=.returned (.tuple #[.agg #[.slice ra rn rc,.slice (some ⟨gl,0,none⟩) ln lc],.bool f])/\Below w.heap.size w w'/\S.length=rn/\L.length=ln/\S.map RT.key=T.map RT.key/\PO w' w.heap.size (.slice ra rn rc) S (.slice (some ⟨gl,0,none⟩) ln lc) L
theorem zV9{R S:List RT}{r:RT}(hi:zn1 R)(hr:r.ids≠[]/\r.ids.length<=13)(h:S.map RT.key=(setL R r).map RT.key):∀x∈S,x.ids≠[]/\x.ids.length<=500:=fun x hx=>by
 have h1:x.key∈(setL R r).map RT.key:=by rw[<-h];exact List.mem_map_of_mem hx
 obtain⟨y,hy,e⟩:=List.mem_map.1 h1;have e2:y.ids=x.ids:=congrArg Prod.snd e;rw[<-e2];rcases(zs6 R r).1 y hy with h2|h2
 ·have:=hi y h2
  exact⟨this.1,by omega⟩
 ·rw[h2];exact⟨hr.1,by omega⟩
set_option maxRecDepth 10000 in
set_option maxHeartbeats 4000000 in
theorem zK4(n fine:Int)(a ao ra:Option Addr)(zl cap ko co bv ov kv cv nr rc bl ol ln lc:Nat)(zs os vs L:List Int)(R:List RT)(w:World)(hA:za0 w a zs)(hO:za0 w ao os)(hV:za0 w (some ⟨bv,ov,none⟩) vs)(hlz:zs.length=zl)(hlo:os.length=ko*6)(hlv:vs.length=kv*5)(hko:ko<=12)(hkv:kv<=5)(hcB:zb8 n zs os vs ko kv fine=true)(hR:za6 w ra R)(hnr:R.length=nr)(hn:nr<=100)(hL:za0 w (some ⟨bl,ol,none⟩) L)(hlL:L.length=ln)(hln:ln<=12)(hS:ze1 R)(hi:zn1 R)(had:∀r∈R,∃g,r.a=some ⟨g,0,none⟩):
 Calls Tryz.prog 26 #[.agg #[.int .i64 n,.slice a zl cap,.slice ao ko co,.slice (some ⟨bv,ov,none⟩) kv cv,.int .i64 fine],.agg #[.slice ra nr rc,.slice (some ⟨bl,ol,none⟩) ln lc]] w (yq0 w (zm4 n fine zs os vs ko kv R L).f (zo8 n fine zs os vs ko kv R L) (zo2 n fine zs os vs ko kv R L)):=by
 have HA:Hid (za0 w a zs):=hA;have HO:Hid (za0 w ao os):=hO;have HV:Hid (za0 w (some ⟨bv,ov,none⟩) vs):=hV;have HLZ:Hid (zs.length=zl):=hlz;have HLO:Hid (os.length=ko*6):=hlo;have HLV:Hid (vs.length=kv*5):=hlv;have HCB:Hid (zb8 n zs os vs ko kv fine=true):=hcB;have HR:Hid (za6 w ra R):=hR;have HN:Hid (R.length=nr):=hnr;have HL:Hid (za0 w (some ⟨bl,ol,none⟩) L):=hL;have HM:Hid (L.length=ln):=hlL;have HS:Hid (ze1 R):=hS;have HI:Hid (zn1 R):=hi;have HAD:Hid (∀r∈R,∃g,r.a=some ⟨g,0,none⟩):=had;clear hA hO hV hlz hlo hlv hcB hR hnr hL hlL hS hi had;obtain⟨fn,HFN⟩:=nmd (qst (gOk n fine zs os vs ko kv R) (gD n zs os vs ko kv R));have HONE:Hid (zm4 n fine zs os vs ko kv R L=fn (sp3 R vs kv L ln)):=by show _=_;rw[<-HFN.out,<-HM.out];rfl
 obtain⟨s9,HS9⟩:=nmd (zm4 n fine zs os vs ko kv R L);obtain⟨RX,HRX⟩:=nmd (zo8 n fine zs os vs ko kv R L);obtain⟨LX,HLX⟩:=nmd (zo2 n fine zs os vs ko kv R L);have HRR:Hid (RX=if s9.f then wrL R (oneT R s9.s)else R):=by show _=_;rw[<-HRX.out];unfold zo8;rw[HS9.out]
 have HLL:Hid (LX=if s9.f then zh7 L s9.s.1 else L):=by show _=_;rw[<-HLX.out];unfold zo2;rw[HS9.out]
 rw[HS9.out,HRX.out,HLX.out];rw[HS9.out]at HONE;clear HS9 HRX HLX;have HGRP:Hid (∀l id veh,fn (l++sp1 id veh ((zd9 R veh).ids.length+1))=grp fine id veh (fn l) (bpV true n zs os vs ko kv veh (zd9 R veh).ids id)):=fun l id veh=>by rw[<-HFN.out];exact yn6 n fine zs os vs ko kv R l id veh
 have HF0:Hid (fn []=qs0):=by show _=_;rw[<-HFN.out];rfl
 have Q0:Hid (OQ w ((((w.alloc (.cells #[.int .i64 n,.slice a zl cap,.slice ao ko co,.slice (some ⟨bv,ov,none⟩) kv cv,.int .i64 fine] 30)).alloc (.cells #[.slice ra nr rc,.slice (some ⟨bl,ol,none⟩) ln lc] 33)).alloc (.cells #[.slice none 0 0,.slice none 0 0] 33)).alloc (.cells #[.slice ra nr rc,.slice (some ⟨bl,ol,none⟩) ln lc] 33)) #[.int .i64 n,.slice a zl cap,.slice ao ko co,.slice (some ⟨bv,ov,none⟩) kv cv,.int .i64 fine] #[.slice ra nr rc,.slice (some ⟨bl,ol,none⟩) ln lc] (.slice ra nr rc) (.slice (some ⟨bl,ol,none⟩) ln lc)):=by
  refine⟨((((Below.refl _ _).alloc (Nat.le_refl _) _).alloc (by simp) _).alloc (by simp;omega) _).alloc (by simp;omega) _,?_,?_,?_,?_⟩
  ·exact(heap_alloc_old _ _ (by simp;omega)).trans ((heap_alloc_old _ _ (by simp;omega)).trans (heap_alloc2_old _ _ _))
  ·exact(heap_alloc_old _ _ (by simp<;>omega)).trans ((heap_alloc_old _ _ (by simp)).trans (heap_alloc2_new _ _ _))
  ·have:=heap_alloc2_old ((w.alloc (.cells #[.int .i64 n,.slice a zl cap,.slice ao ko co,.slice (some ⟨bv,ov,none⟩) kv cv,.int .i64 fine] 30)).alloc (.cells #[.slice ra nr rc,.slice (some ⟨bl,ol,none⟩) ln lc] 33)) (.cells #[.slice none 0 0,.slice none 0 0] 33) (.cells #[.slice ra nr rc,.slice (some ⟨bl,ol,none⟩) ln lc] 33)
   simpa using this
  ·have:=heap_alloc2_new ((w.alloc (.cells #[.int .i64 n,.slice a zl cap,.slice ao ko co,.slice (some ⟨bv,ov,none⟩) kv cv,.int .i64 fine] 30)).alloc (.cells #[.slice ra nr rc,.slice (some ⟨bl,ol,none⟩) ln lc] 33)) (.cells #[.slice none 0 0,.slice none 0 0] 33) (.cells #[.slice ra nr rc,.slice (some ⟨bl,ol,none⟩) ln lc] 33)
   simpa using this
 have P00:Hid ((((w.alloc (.cells #[.int .i64 n,.slice a zl cap,.slice ao ko co,.slice (some ⟨bv,ov,none⟩) kv cv,.int .i64 fine] 30)).alloc (.cells #[.slice ra nr rc,.slice (some ⟨bl,ol,none⟩) ln lc] 33)).alloc (.cells #[.slice none 0 0,.slice none 0 0] 33)).heap[w.heap.size+1]? =some (.cells #[.slice ra nr rc,.slice (some ⟨bl,ol,none⟩) ln lc] 33 (0,0))):=(heap_alloc_old _ _ (by simp)).trans (heap_alloc2_new _ _ _);obtain⟨e0,e1⟩:=za2 P00.out;go_enter Tryz.func26,Tryz.ntmps26
 go_wp2_with fail
 clear e0 e1 P00;generalize(((w.alloc (.cells #[.int .i64 n,.slice a zl cap,.slice ao ko co,.slice (some ⟨bv,ov,none⟩) kv cv,.int .i64 fine] 30)).alloc (.cells #[.slice ra nr rc,.slice (some ⟨bl,ol,none⟩) ln lc] 33)).alloc (.cells #[.slice none 0 0,.slice none 0 0] 33)).alloc (.cells #[.slice ra nr rc,.slice (some ⟨bl,ol,none⟩) ln lc] 33)=W0 at*;go_loopw[6,7,9] (fun tb tf t wr=>∃(i:Nat) (o0 o1:Value),i<=ln/\t=.int .i64 i/\tb=.int .i64 (fn (sp3 R vs kv L i)).v/\tf=.bool (fn (sp3 R vs kv L i)).f/\OQ w wr #[.int .i64 n,.slice a zl cap,.slice ao ko co,.slice (some ⟨bv,ov,none⟩) kv cv,.int .i64 fine] #[.slice ra nr rc,.slice (some ⟨bl,ol,none⟩) ln lc] o0 o1/\OU w wr #[.slice ra nr rc,.slice (some ⟨bl,ol,none⟩) ln lc] R L (fn (sp3 R vs kv L i)) o0 o1) (fun _ _ t _=>ln - (intOf t).toNat)
 case atStart=>exact⟨0,_,_,Nat.zero_le _,rfl,by show _=Value.int .i64 (fn []).v;rw[HF0.out];first|done|rfl,by show _=Value.bool (fn []).f;rw[HF0.out];first|done|rfl,Q0.out,.inl ⟨by show(fn []).f=false;rw[HF0.out];rfl,rfl⟩⟩
 case round=>
  clear Q0;obtain⟨i,o0,o1,hi,rfl,rfl,rfl,hq,hu⟩:=hrel;have Q1:Hid (OQ w wr #[.int .i64 n,.slice a zl cap,.slice ao ko co,.slice (some ⟨bv,ov,none⟩) kv cv,.int .i64 fine] #[.slice ra nr rc,.slice (some ⟨bl,ol,none⟩) ln lc] o0 o1):=hq;have U1:Hid (OU w wr #[.slice ra nr rc,.slice (some ⟨bl,ol,none⟩) ln lc] R L (fn (sp3 R vs kv L i)) o0 o1):=hu;clear hq hu;obtain⟨p0,p1⟩:=za2 Q1.out.p;by_cases hlt:i<ln
  ·have hiI:(i:Int)<(ln:Int):=by omega
   have HNX:Hid (sp3 R vs kv L (i+1)=sp3 R vs kv L i++sp2 R vs (L.getD i 0) kv):=rfl;have HIE:Hid (∀W,Below w.heap.size w W->W.cell? ⟨bl,ol+i,none⟩=some (.int .i64 (L.getD i 0))):=fun W hW=>by
    obtain⟨b1,o1,e,c1⟩:=(HL.out.below hW) i (by rw[HM.out];exact hlt);simp only[Option.some.injEq,Addr.mk.injEq,and_true]at e;obtain⟨rfl,rfl⟩:=e;exact c1
   generalize L.getD i 0=id at*;generalize sp3 R vs kv L i=l1 at*
   go_wp2_with fail
   clear p0 p1;go_loopw[6,7,10] (fun tb tf t wr=>∃(k:Nat) (o0 o1:Value),k<=kv/\t=.int .i64 k/\tb=.int .i64 (fn (l1++sp2 R vs id k)).v/\tf=.bool (fn (l1++sp2 R vs id k)).f/\OQ w wr #[.int .i64 n,.slice a zl cap,.slice ao ko co,.slice (some ⟨bv,ov,none⟩) kv cv,.int .i64 fine] #[.slice ra nr rc,.slice (some ⟨bl,ol,none⟩) ln lc] o0 o1/\OU w wr #[.slice ra nr rc,.slice (some ⟨bl,ol,none⟩) ln lc] R L (fn (l1++sp2 R vs id k)) o0 o1) (fun _ _ t _=>kv - (intOf t).toNat)
   case atStart=>exact⟨0,o0,o1,Nat.zero_le _,rfl,by show _=Value.int .i64 (fn (l1++[])).v;rw[List.append_nil],by show _=Value.bool (fn (l1++[])).f;rw[List.append_nil],Q1.out,by show OU _ _ _ _ _ (fn (l1++[])) _ _;rw[List.append_nil];exact U1.out⟩
   case round=>
    clear Q1 U1;obtain⟨k,o0,o1,hk,rfl,rfl,rfl,hq,hu⟩:=hrel;have Q3:Hid (OQ w wr #[.int .i64 n,.slice a zl cap,.slice ao ko co,.slice (some ⟨bv,ov,none⟩) kv cv,.int .i64 fine] #[.slice ra nr rc,.slice (some ⟨bl,ol,none⟩) ln lc] o0 o1):=hq;have U3':Hid (OU w wr #[.slice ra nr rc,.slice (some ⟨bl,ol,none⟩) ln lc] R L (fn (l1++sp2 R vs id k)) o0 o1):=hu;clear hq hu;obtain⟨d0,d1,d2,d3,d4⟩:=za8 Q3.out.c;by_cases hlk:k<kv
    ·have hkI:(k:Int)<(kv:Int):=by omega
     have HN2:Hid (fn (l1++sp2 R vs id (k+1))=grp fine id (vs.getD (k*5) 0) (fn (l1++sp2 R vs id k)) (bpV true n zs os vs ko kv (vs.getD (k*5) 0) (zd9 R (vs.getD (k*5) 0)).ids id)):=by
      show _=_;rw[<-HGRP.out,List.append_assoc];rfl
     have HVE:Hid (∀W,Below w.heap.size w W->W.cell? ⟨bv,ov+k*5,none⟩=some (.int .i64 (vs.getD (k*5) 0))):=fun W hW=>by
      obtain⟨b1,o1,e,c1⟩:=(HV.out.below hW) (k*5) (by rw[HLV.out];omega);simp only[Option.some.injEq,Addr.mk.injEq,and_true]at e;obtain⟨rfl,rfl⟩:=e;exact c1
     have hsv:=yc4 (ok:=gOk n fine zs os vs ko kv R) (dl:=gD n zs os vs ko kv R) (l1++sp2 R vs id k);rw[HFN.out]at hsv;generalize vs.getD (k*5) 0=veh at*;generalize fn (l1++sp2 R vs id k)=s at*;have U3:Hid (OU w wr #[.slice ra nr rc,.slice (some ⟨bl,ol,none⟩) ln lc] R L s o0 o1):=U3'.out;have HSV:Hid (s.f=false->s.v=0):=hsv;clear U3' hsv;obtain⟨hra,hr12,hrc,-⟩:=yd4 HR.out HI.out veh;have HRT:Hid (za0 w (zd9 R veh).a (zd9 R veh).ids):=hra;have HRA9:Hid (((zd9 R veh).a=none/\(zd9 R veh).ids=[]/\(zd9 R veh).c=0)∨∃g,(zd9 R veh).a=some ⟨g,0,none⟩):=by
      rcases z24 R veh with h|h
      ·exact .inr (HAD.out _ h)
      ·rw[h];exact .inl ⟨rfl,rfl,rfl⟩
     have HTT:Hid (oneT R (id,veh,0)=oneT R (id,veh,0)):=rfl;have LR0:∀W,Below wr.heap.size wr W->_:=fun W hW=>z60 ra (some ⟨bl,ol,none⟩) rc ln lc R veh W (HR.out.below (Q3.out.below hW).b) (by rw[HN.out];omega)
     rw[HN.out]at LR0;obtain⟨b9,HB9⟩:=nmd (bpV true n zs os vs ko kv veh (zd9 R veh).ids id);rw[HB9.out]at HN2;obtain⟨rt,HRTO⟩:=nmd (zd9 R veh);rw[HRTO.out]at hr12 hrc HRT HRA9 LR0 HB9;obtain⟨rtv,ra9,rids,rc9⟩:=rt;simp only at hr12 hrc HRT HRA9 LR0 HB9;obtain⟨rl,HRL⟩:=nmd rids.length;rw[HRL.out]at hr12 hrc LR0;have LR:Hid _:=LR0;have HC10:Hid (∀W,Below wr.heap.size wr W->(fun W=>W.cell? ⟨w.heap.size+1,0,none⟩=some (.slice ra nr rc)/\W.cell? ⟨w.heap.size+1,1,none⟩=some (.slice (some ⟨bl,ol,none⟩) ln lc)/\W.cell? ⟨w.heap.size,3,none⟩=some (.slice (some ⟨bv,ov,none⟩) kv cv)/\W.cell? ⟨bv,ov+k*5,none⟩=some (.int .i64 veh)) W):=fun W hW=>by
      have q:=Q3.out.below hW;obtain⟨x0,x1⟩:=za2 q.p;obtain⟨y0,y1,y2,y3,y4⟩:=za8 q.c;exact⟨x0,x1,y3,HVE.out W q.b⟩
     clear LR0 hra HTT;go_upto_region 10 with fail;clear d0 d1 d2 d3 d4;go_cut [11]from 33 to 40 (fun s11 wx=>∃rb:Nat,s11=.pointer (some ⟨rb,0,none⟩)/\Below wr.heap.size wr wx/\wx.heap[rb]? =some (.cells #[.int .i64 veh,.slice ra9 rl rc9] 43 (0,0))/\wr.heap.size<=rb)
     case first=>
      go_wp2_with fail
      refine wp_region_held_drew (S:=(fun W=>W.cell? ⟨w.heap.size+1,0,none⟩=some (.slice ra nr rc)/\W.cell? ⟨w.heap.size+1,1,none⟩=some (.slice (some ⟨bl,ol,none⟩) ln lc)/\W.cell? ⟨w.heap.size,3,none⟩=some (.slice (some ⟨bv,ov,none⟩) kv cv)/\W.cell? ⟨bv,ov+k*5,none⟩=some (.int .i64 veh))) (by kernel_rfl) ?_ (fun hHeld=> ?_)
      ·exact HC10.out _ (Below.refl _ _).drew
      have BD:Hid (Below wr.heap.size wr wr.drew):=(Below.refl _ _).drew;generalize wr.drew=wd at*;refine tkH 0 hHeld ?_;refine tkH 1 hHeld ?_;refine tkH 2 hHeld ?_;refine tkH 3 hHeld ?_;refine tkH 4 hHeld ?_;refine tkH 5 hHeld ?_;refine tkH 6 hHeld ?_;refine wpAnyH_ready (rs:=[7,8]) (by kernel_rfl) (by simp) ?_;refine AllReadyH.cons rfl (fun K hK=> ?_) ?_
      ·skip
       go_simp;refine(LR.out wd BD.out).mono ?_;rintro e w1 ⟨rfl,hb⟩;have B1:Hid (Below wr.heap.size wr w1):=BD.out.trans (hb.mono BD.out.size);clear hb
       (try go_wp2_with fail)
       refine hK.out _ _ ?_ (fun hHeld=> ?_)
       ·exact HC10.out _ B1.out
       clear hK K
       (try simp only[Act.put,List.setIfInBounds_toArray,List.set_cons_zero,List.set_cons_succ])
       refine wpAnyH_ready (rs:=[8]) (by kernel_rfl) (by simp) ?_;refine AllReadyH.cons rfl (fun K hK=> ?_) AllReadyH.nil;have BZ:Hid (Below wr.heap.size wr (w1.alloc (.cells #[Value.int .i64 0,Value.slice none 0 0] 43))):=B1.out.alloc B1.out.size _;have VZ0:Hid ((w1.alloc (.cells #[Value.int .i64 0,Value.slice none 0 0] 43)).heap[w1.heap.size]? =some (.cells #[Value.int .i64 0,Value.slice none 0 0] 43 (0,0))):=heap_alloc_new _ _;have HZL:Hid (wr.heap.size<=w1.heap.size):=B1.out.size;go_simp;refine hK.out _ _ ?_ (fun hHeld=> ?_)
       ·exact HC10.out _ BZ.out
       clear hK K
       (try simp only[Act.put,List.setIfInBounds_toArray,List.set_cons_zero,List.set_cons_succ])
       obtain⟨rb,HKZ⟩:=nmd w1.heap.size;rw[HKZ.out]at VZ0 HZL⊢;generalize(w1.alloc (.cells #[Value.int .i64 0,Value.slice none 0 0] 43))=wz at*;obtain⟨z0,z1⟩:=za2 VZ0.out;have zf:=fun i=>frozen_of_row _ _ i _ _ VZ0.out;refine wpAnyH_ready (rs:=[9]) (by kernel_rfl) (by simp) ?_;refine AllReadyH.cons rfl (fun K hK=> ?_) AllReadyH.nil;have B5:Hid (Below wr.heap.size wr ((wz.setCell ⟨rb,0,none⟩ (.int .i64 veh)).setCell ⟨rb,1,none⟩ (.slice ra9 rl rc9))):=(BZ.out.setCell HZL.out _).setCell HZL.out _;have s1:=heap_setCell_same wz rb 0 _ _ (Value.int .i64 veh) VZ0.out;have V5:Hid (((wz.setCell ⟨rb,0,none⟩ (.int .i64 veh)).setCell ⟨rb,1,none⟩ (.slice ra9 rl rc9)).heap[rb]? =some (.cells #[.int .i64 veh,.slice ra9 rl rc9] 43 (0,0))):=by
        have s2:=heap_setCell_same _ rb 1 _ _ (Value.slice ra9 rl rc9) s1;simp at s2;exact s2
       have HZ5:Hid (wr.heap.size<=rb):=HZL.out;clear s1;go_simp;refine hK.out _ _ ?_ (fun hHeld=> ?_)
       ·exact HC10.out _ B5.out
       clear hK K;generalize((wz.setCell ⟨rb,0,none⟩ (.int .i64 veh)).setCell ⟨rb,1,none⟩ (.slice ra9 rl rc9))=w5 at*;refine wpAnyH_done (by kernel_rfl) ?_ _;clear hHeld
       (try go_wp2_with fail)
       go_meet;exact⟨rb,rfl,B5.out,V5.out,HZ5.out⟩
      refine AllReadyH.cons rfl (fun K hK=> ?_) AllReadyH.nil;have BZ:Hid (Below wr.heap.size wr (wd.alloc (.cells #[Value.int .i64 0,Value.slice none 0 0] 43))):=BD.out.alloc BD.out.size _;have VZ0:Hid ((wd.alloc (.cells #[Value.int .i64 0,Value.slice none 0 0] 43)).heap[wd.heap.size]? =some (.cells #[Value.int .i64 0,Value.slice none 0 0] 43 (0,0))):=heap_alloc_new _ _;have HZL:Hid (wr.heap.size<=wd.heap.size):=BD.out.size;go_simp;refine hK.out _ _ ?_ (fun hHeld=> ?_)
      ·exact HC10.out _ BZ.out
      clear hK K
      (try simp only[Act.put,List.setIfInBounds_toArray,List.set_cons_zero,List.set_cons_succ])
      obtain⟨rb,HKZ⟩:=nmd wd.heap.size;rw[HKZ.out]at VZ0 HZL⊢;generalize(wd.alloc (.cells #[Value.int .i64 0,Value.slice none 0 0] 43))=wz at*;obtain⟨z0,z1⟩:=za2 VZ0.out;have zf:=fun i=>frozen_of_row _ _ i _ _ VZ0.out;refine wpAnyH_ready (rs:=[7]) (by kernel_rfl) (by simp) ?_;refine AllReadyH.cons rfl (fun K hK=> ?_) AllReadyH.nil;go_simp;refine(LR.out wz BZ.out).mono ?_;rintro e w1 ⟨rfl,hb⟩;have B1:Hid (Below wr.heap.size wr w1):=BZ.out.trans (hb.mono BZ.out.size);have VZ1:Hid (w1.heap[rb]? =some (.cells #[Value.int .i64 0,Value.slice none 0 0] 43 (0,0))):=za1 hb (za3 VZ0.out) VZ0.out;obtain⟨z0,z1⟩:=za2 VZ1.out;have zf:=fun i=>frozen_of_row _ _ i _ _ VZ1.out;clear hb
      (try go_wp2_with fail)
      refine hK.out _ _ ?_ (fun hHeld=> ?_)
      ·exact HC10.out _ B1.out
      clear hK K
      (try simp only[Act.put,List.setIfInBounds_toArray,List.set_cons_zero,List.set_cons_succ])
      refine wpAnyH_ready (rs:=[9]) (by kernel_rfl) (by simp) ?_;refine AllReadyH.cons rfl (fun K hK=> ?_) AllReadyH.nil;have B5:Hid (Below wr.heap.size wr ((w1.setCell ⟨rb,0,none⟩ (.int .i64 veh)).setCell ⟨rb,1,none⟩ (.slice ra9 rl rc9))):=(B1.out.setCell HZL.out _).setCell HZL.out _;have s1:=heap_setCell_same w1 rb 0 _ _ (Value.int .i64 veh) VZ1.out;have V5:Hid (((w1.setCell ⟨rb,0,none⟩ (.int .i64 veh)).setCell ⟨rb,1,none⟩ (.slice ra9 rl rc9)).heap[rb]? =some (.cells #[.int .i64 veh,.slice ra9 rl rc9] 43 (0,0))):=by
       have s2:=heap_setCell_same _ rb 1 _ _ (Value.slice ra9 rl rc9) s1;simp at s2;exact s2
      have HZ5:Hid (wr.heap.size<=rb):=HZL.out;clear s1;go_simp;refine hK.out _ _ ?_ (fun hHeld=> ?_)
      ·exact HC10.out _ B5.out
      clear hK K;generalize((w1.setCell ⟨rb,0,none⟩ (.int .i64 veh)).setCell ⟨rb,1,none⟩ (.slice ra9 rl rc9))=w5 at*;refine wpAnyH_done (by kernel_rfl) ?_ _;clear hHeld
      (try go_wp2_with fail)
      go_meet;exact⟨rb,rfl,B5.out,V5.out,HZ5.out⟩
     case rest=>
      obtain⟨rb,rfl,hB5,hV5,hZ5⟩:=hcut;obtain⟨w5,hw5⟩:∃v,v=wc:=⟨_,rfl⟩;subst hw5;have B5:Hid (Below wr.heap.size wr w5):=hB5;have V5:Hid (w5.heap[rb]? =some (.cells #[.int .i64 veh,.slice ra9 rl rc9] 43 (0,0))):=hV5;have HZ5:Hid (wr.heap.size<=rb):=hZ5;clear hB5 hV5 hZ5;clear LR HC10;have Q5:Hid (OQ w w5 #[.int .i64 n,.slice a zl cap,.slice ao ko co,.slice (some ⟨bv,ov,none⟩) kv cv,.int .i64 fine] #[.slice ra nr rc,.slice (some ⟨bl,ol,none⟩) ln lc] o0 o1):=Q3.out.below B5.out;have U5:Hid (OU w w5 #[.slice ra nr rc,.slice (some ⟨bl,ol,none⟩) ln lc] R L s o0 o1):=U3.out.below B5.out;have HW5:Hid (w.heap.size+4<=rb):=Nat.le_trans Q3.out.size HZ5.out;have BP0:=fun(W:World) (hW:Below w5.heap.size w5 W)=>zz5 n fine veh a ao (some ⟨bv,ov,none⟩) ra9 cap ko co kv cv rc9 zs os vs rids W (HA.out.below (Q5.out.below hW).b) (HO.out.below (Q5.out.below hW).b) (HV.out.below (Q5.out.below hW).b) (HRT.out.below (Q5.out.below hW).b) HLO.out HLV.out (by omega) (by omega) (by rw[HRL.out];omega) (by rw[HRL.out];exact hrc) HRA9.out id b9 (by rw[HCB.out];exact HB9.out)
      rw[HLZ.out,HRL.out]at BP0;have BP:Hid _:=BP0;have HC11:Hid (∀W,Below w5.heap.size w5 W->(fun W=>W.cell? ⟨w.heap.size,0,none⟩=some (.int .i64 n)/\W.cell? ⟨w.heap.size,1,none⟩=some (.slice a zl cap)/\W.cell? ⟨w.heap.size,2,none⟩=some (.slice ao ko co)/\W.cell? ⟨w.heap.size,3,none⟩=some (.slice (some ⟨bv,ov,none⟩) kv cv)/\W.cell? ⟨w.heap.size,4,none⟩=some (.int .i64 fine)/\W.cell? ⟨rb,0,none⟩=some (.int .i64 veh)/\W.cell? ⟨rb,1,none⟩=some (.slice ra9 rl rc9)/\W.cell? ⟨w.heap.size+1,1,none⟩=some (.slice (some ⟨bl,ol,none⟩) ln lc)/\W.cell? ⟨bl,ol+i,none⟩=some (.int .i64 id)) W):=fun W hW=>by
       have q:=Q5.out.below hW;obtain⟨x0,x1⟩:=za2 q.p;obtain⟨y0,y1,y2,y3,y4⟩:=za8 q.c;obtain⟨v0,v1⟩:=za2 (za1 hW (za3 V5.out) V5.out);exact⟨y0,y1,y2,y3,y4,v0,v1,x1,HIE.out W q.b⟩
      clear BP0 B5 Q3 U3 HZ5;have kS:=HC11.out _ (Below.refl _ _).drew
      go_wp2_with fail
      go_region_held3 (fun W=>W.cell? ⟨w.heap.size,0,none⟩=some (.int .i64 n)/\W.cell? ⟨w.heap.size,1,none⟩=some (.slice a zl cap)/\W.cell? ⟨w.heap.size,2,none⟩=some (.slice ao ko co)/\W.cell? ⟨w.heap.size,3,none⟩=some (.slice (some ⟨bv,ov,none⟩) kv cv)/\W.cell? ⟨w.heap.size,4,none⟩=some (.int .i64 fine)/\W.cell? ⟨rb,0,none⟩=some (.int .i64 veh)/\W.cell? ⟨rb,1,none⟩=some (.slice ra9 rl rc9)/\W.cell? ⟨w.heap.size+1,1,none⟩=some (.slice (some ⟨bl,ol,none⟩) ln lc)/\W.cell? ⟨bl,ol+i,none⟩=some (.int .i64 id)) (first|with_reducible exact kS|go_keep) ((first
       |(go_at_call 67
         with_reducible refine(BP.out w5.drew (Below.refl _ _).drew).mono ?_
         rintro e w6 ⟨rfl,hb⟩;have B6:Hid (Below w5.heap.size w5 w6):=(Below.refl _ _).drew.trans hb;have kS:=HC11.out _ B6.out;clear hb)))
      clear kS BP;have Q6:Hid (OQ w w6 #[.int .i64 n,.slice a zl cap,.slice ao ko co,.slice (some ⟨bv,ov,none⟩) kv cv,.int .i64 fine] #[.slice ra nr rc,.slice (some ⟨bl,ol,none⟩) ln lc] o0 o1):=Q5.out.below B6.out;have U6:Hid (OU w w6 #[.slice ra nr rc,.slice (some ⟨bl,ol,none⟩) ln lc] R L s o0 o1):=U5.out.below B6.out;have V6:Hid (w6.heap[rb]? =some (.cells #[.int .i64 veh,.slice ra9 rl rc9] 43 (0,0))):=za1 B6.out (za3 V5.out) V5.out;have HC13:Hid (∀W,Below w6.heap.size w6 W->(fun W=>W.cell? ⟨w.heap.size,0,none⟩=some (.int .i64 n)/\W.cell? ⟨w.heap.size,1,none⟩=some (.slice a zl cap)/\W.cell? ⟨w.heap.size,2,none⟩=some (.slice ao ko co)/\W.cell? ⟨w.heap.size,3,none⟩=some (.slice (some ⟨bv,ov,none⟩) kv cv)/\W.cell? ⟨w.heap.size,4,none⟩=some (.int .i64 fine)/\W.cell? ⟨rb,0,none⟩=some (.int .i64 veh)/\W.cell? ⟨rb,1,none⟩=some (.slice ra9 rl rc9)/\W.cell? ⟨w.heap.size+1,1,none⟩=some (.slice (some ⟨bl,ol,none⟩) ln lc)/\W.cell? ⟨bl,ol+i,none⟩=some (.int .i64 id)) W):=fun W hW=>HC11.out W (B6.out.trans (hW.mono B6.out.size));clear Q5 U5 V5 B6 HC11;obtain⟨sf,ss,sv⟩:=s;obtain⟨bf,bi,bvv⟩:=b9;simp only at HSV⊢;cases bf
      ·have HNS:Hid (fn (l1++sp2 R vs id (k+1))=⟨sf,ss,sv⟩):=by show _=_;rw[HN2.out];exact if_neg (fun h=>by cases h.1)
       clear HN2 HC13;obtain⟨d0,d1,d2,d3,d4⟩:=za8 Q6.out.c;go_wp2;go_roundw
       case rel=>exact⟨k+1,o0,o1,by omega,by first|rfl|go_num,by rw[HNS.out],by rw[HNS.out],Q6.out,by rw[HNS.out];exact U6.out⟩
       case measure=>simp[intOf];omega
      ·by_cases hfi:bvv<=fine
       ·have hgt:¬fine<bvv:=by omega
        by_cases htk:sf=false∨bvv<sv
        ·have HNS:Hid (fn (l1++sp2 R vs id (k+1))=⟨true,(id,veh,bi),bvv⟩):=by show _=_;rw[HN2.out];exact if_pos ⟨rfl,hfi,htk⟩
         clear HN2;have hgo:sf=false∨(sf=true/\¬sv<=bvv):=by cases sf;exact .inl rfl;exact .inr ⟨rfl,by rcases htk with h|h;cases h;omega⟩
         have hpm:=zF6 (ok:=plB true n zs os vs ko kv veh rids id) (dl:=plD true n zs os vs ko kv veh rids id) (rids.length+1);have HB8:pst (plB true n zs os vs ko kv veh rids id) (plD true n zs os vs ko kv veh rids id) (rids.length+1)=⟨true,bi,bvv⟩:=HB9.out;rw[HB8]at hpm;obtain⟨hp1,hp2,-⟩:=hpm rfl;simp only at hp1 hp2;obtain⟨xs,HXS⟩:=nmd (insL rids bi id);obtain⟨xl,HXL⟩:=nmd xs.length;obtain⟨vv,HVV⟩:=nmd (chI true veh);have HVE9:Hid (vv=veh):=by show _=_;rw[<-HVV.out];rfl
         have HXN:Hid (xs≠[]/\xs.length<=13):=by
          rw[<-HXS.out];refine⟨by unfold insL;simp,?_⟩;unfold insL;rw[List.length_append,List.length_cons,List.length_take,List.length_drop,HRL.out];omega
         have CI0:=fun(W:World) (hW:Below w6.heap.size w6 W)=>zP2 n fine veh a ao (some ⟨bv,ov,none⟩) ra9 cap ko co kv cv rc9 zs os vs rids W (HA.out.below (Q6.out.below hW).b) (HO.out.below (Q6.out.below hW).b) (HV.out.below (Q6.out.below hW).b) (HRT.out.below (Q6.out.below hW).b) HLO.out HLV.out (by omega) (by omega) (by rw[HRL.out];omega) (by rw[HRL.out];exact hrc) HRA9.out id bi true (by rw[HCB.out];exact hp1) bvv (by have h:=hp2;unfold plD at h;rw[hp1]at h;exact h) xs HXS.out
         rw[HLZ.out,HRL.out]at CI0;have CI:Hid _:=CI0;have HW6:Hid (w.heap.size+4<=w6.heap.size):=Q6.out.size;clear CI0 hpm HB8 hp1 hp2 U6;rcases hgo with h9|⟨h9,hge⟩
         ·subst h9
          obtain⟨d0,d1,d2,d3,d4⟩:=za8 Q6.out.c;go_upto_region 13 with fail;clear d0 d1 d2 d3 d4;go_cut [15,16,17]from 69 to 81 (fun s15 s16 s17 wx=>∃(kr:Nat) (ad:Option Addr) (cg:Nat),s15=.pointer (some ⟨kr,0,none⟩)/\s16=.int .i64 bvv/\s17=.bool true/\Below w6.heap.size w6 wx/\wx.heap[kr]? =some (.cells #[.int .i64 vv,.slice ad xl cg] 43 (0,0))/\wx.ownsRow (w.heap.size+4) 2 1 (.slice ad xl cg) xl (xs.map (Value.int .i64)))
          case first=>
           go_wp2_with fail
           refine wp_region_held_drew (S:=(fun W=>W.cell? ⟨w.heap.size,0,none⟩=some (.int .i64 n)/\W.cell? ⟨w.heap.size,1,none⟩=some (.slice a zl cap)/\W.cell? ⟨w.heap.size,2,none⟩=some (.slice ao ko co)/\W.cell? ⟨w.heap.size,3,none⟩=some (.slice (some ⟨bv,ov,none⟩) kv cv)/\W.cell? ⟨w.heap.size,4,none⟩=some (.int .i64 fine)/\W.cell? ⟨rb,0,none⟩=some (.int .i64 veh)/\W.cell? ⟨rb,1,none⟩=some (.slice ra9 rl rc9)/\W.cell? ⟨w.heap.size+1,1,none⟩=some (.slice (some ⟨bl,ol,none⟩) ln lc)/\W.cell? ⟨bl,ol+i,none⟩=some (.int .i64 id))) (by kernel_rfl) ?_ (fun hHeld=> ?_)
           ·exact HC13.out _ (Below.refl _ _).drew
           have BD:Hid (Below w6.heap.size w6 w6.drew):=(Below.refl _ _).drew;generalize w6.drew=wd at*;refine tkH 0 hHeld ?_;refine tkH 1 hHeld ?_;refine tkH 2 hHeld ?_;refine tkH 3 hHeld ?_;refine tkH 4 hHeld ?_;refine tkH 5 hHeld ?_;refine tkH 6 hHeld ?_;refine tkH 7 hHeld ?_;refine wpAnyH_ready (rs:=[8,13]) (by kernel_rfl) (by simp) ?_;refine AllReadyH.cons rfl (fun K hK=> ?_) ?_
           ·skip
            go_simp;refine(CI.out wd BD.out).mono ?_;rintro e w1 ⟨hb,ad,cg,rfl,ho⟩;have B1:Hid (Below w6.heap.size w6 w1):=BD.out.trans (hb.mono BD.out.size);rw[HVV.out,HXL.out];have O1:Hid (w1.ownsRow (w.heap.size+4) 2 1 (.slice ad xl cg) xl (xs.map (Value.int .i64))):=by
             rw[HXL.out]at ho;exact zb7 ho (by have:=HW6.out;have:=BD.out.size;omega)
            clear ho;clear hb
            (try go_wp2_with fail)
            refine hK.out _ _ ?_ (fun hHeld=> ?_)
            ·exact HC13.out _ B1.out
            clear hK K
            (try simp only[Act.put,List.setIfInBounds_toArray,List.set_cons_zero,List.set_cons_succ])
            refine tkH 9 hHeld ?_;refine tkH 10 hHeld ?_;refine tkH 11 hHeld ?_;refine tkH 12 hHeld ?_;refine wpAnyH_ready (rs:=[13]) (by kernel_rfl) (by simp) ?_;refine AllReadyH.cons rfl (fun K hK=> ?_) AllReadyH.nil;have BZ:Hid (Below w6.heap.size w6 (w1.alloc (.cells #[Value.int .i64 0,Value.slice none 0 0] 43))):=B1.out.alloc B1.out.size _;have VZ0:Hid ((w1.alloc (.cells #[Value.int .i64 0,Value.slice none 0 0] 43)).heap[w1.heap.size]? =some (.cells #[Value.int .i64 0,Value.slice none 0 0] 43 (0,0))):=heap_alloc_new _ _;have HZL:Hid (w6.heap.size<=w1.heap.size):=B1.out.size;have OZ:Hid (World.ownsRow (w1.alloc (.cells #[Value.int .i64 0,Value.slice none 0 0] 43)) (w.heap.size+4) 2 1 (.slice ad xl cg) xl (xs.map (Value.int .i64))):=O1.out.alloc _;go_simp;refine hK.out _ _ ?_ (fun hHeld=> ?_)
            ·exact HC13.out _ BZ.out
            clear hK K
            (try simp only[Act.put,List.setIfInBounds_toArray,List.set_cons_zero,List.set_cons_succ])
            obtain⟨kr,HKZ⟩:=nmd w1.heap.size;rw[HKZ.out]at VZ0 HZL⊢;generalize(w1.alloc (.cells #[Value.int .i64 0,Value.slice none 0 0] 43))=wz at*;obtain⟨z0,z1⟩:=za2 VZ0.out;have zf:=fun i=>frozen_of_row _ _ i _ _ VZ0.out;refine wpAnyH_ready (rs:=[14]) (by kernel_rfl) (by simp) ?_;refine AllReadyH.cons rfl (fun K hK=> ?_) AllReadyH.nil;have B5:Hid (Below w6.heap.size w6 ((wz.setCell ⟨kr,0,none⟩ (.int .i64 vv)).setCell ⟨kr,1,none⟩ (.slice ad xl cg))):=(BZ.out.setCell HZL.out _).setCell HZL.out _;have s1:=heap_setCell_same wz kr 0 _ _ (Value.int .i64 vv) VZ0.out;have V5:Hid (((wz.setCell ⟨kr,0,none⟩ (.int .i64 vv)).setCell ⟨kr,1,none⟩ (.slice ad xl cg)).heap[kr]? =some (.cells #[.int .i64 vv,.slice ad xl cg] 43 (0,0))):=by
             have s2:=heap_setCell_same _ kr 1 _ _ (Value.slice ad xl cg) s1;simp at s2;exact s2
            have O5:Hid (World.ownsRow ((wz.setCell ⟨kr,0,none⟩ (.int .i64 vv)).setCell ⟨kr,1,none⟩ (.slice ad xl cg)) (w.heap.size+4) 2 1 (.slice ad xl cg) xl (xs.map (Value.int .i64))):=zd4 (zd4 OZ.out VZ0.out) (heap_setCell_same _ kr 0 _ _ _ VZ0.out);have HZ5:Hid (w6.heap.size<=kr):=HZL.out;clear s1;go_simp;refine hK.out _ _ ?_ (fun hHeld=> ?_)
            ·exact HC13.out _ B5.out
            clear hK K;generalize((wz.setCell ⟨kr,0,none⟩ (.int .i64 vv)).setCell ⟨kr,1,none⟩ (.slice ad xl cg))=w5 at*;refine tkH 15 hHeld ?_;refine tkH 16 hHeld ?_;refine wpAnyH_done (by kernel_rfl) ?_ _;clear hHeld
            (try go_wp2_with fail)
            go_meet;exact⟨kr,ad,cg,rfl,rfl,rfl,B5.out,V5.out,O5.out⟩
           refine AllReadyH.cons rfl (fun K hK=> ?_) AllReadyH.nil;have BZ:Hid (Below w6.heap.size w6 (wd.alloc (.cells #[Value.int .i64 0,Value.slice none 0 0] 43))):=BD.out.alloc BD.out.size _;have VZ0:Hid ((wd.alloc (.cells #[Value.int .i64 0,Value.slice none 0 0] 43)).heap[wd.heap.size]? =some (.cells #[Value.int .i64 0,Value.slice none 0 0] 43 (0,0))):=heap_alloc_new _ _;have HZL:Hid (w6.heap.size<=wd.heap.size):=BD.out.size;go_simp;refine hK.out _ _ ?_ (fun hHeld=> ?_)
           ·exact HC13.out _ BZ.out
           clear hK K
           (try simp only[Act.put,List.setIfInBounds_toArray,List.set_cons_zero,List.set_cons_succ])
           obtain⟨kr,HKZ⟩:=nmd wd.heap.size;rw[HKZ.out]at VZ0 HZL⊢;generalize(wd.alloc (.cells #[Value.int .i64 0,Value.slice none 0 0] 43))=wz at*;obtain⟨z0,z1⟩:=za2 VZ0.out;have zf:=fun i=>frozen_of_row _ _ i _ _ VZ0.out;refine wpAnyH_ready (rs:=[8]) (by kernel_rfl) (by simp) ?_;refine AllReadyH.cons rfl (fun K hK=> ?_) AllReadyH.nil;go_simp;refine(CI.out wz BZ.out).mono ?_;rintro e w1 ⟨hb,ad,cg,rfl,ho⟩;have B1:Hid (Below w6.heap.size w6 w1):=BZ.out.trans (hb.mono BZ.out.size);rw[HVV.out,HXL.out];have O1:Hid (w1.ownsRow (w.heap.size+4) 2 1 (.slice ad xl cg) xl (xs.map (Value.int .i64))):=by
            rw[HXL.out]at ho;exact zb7 ho (by have:=HW6.out;have:=BZ.out.size;omega)
           clear ho;have VZ1:Hid (w1.heap[kr]? =some (.cells #[Value.int .i64 0,Value.slice none 0 0] 43 (0,0))):=za1 hb (za3 VZ0.out) VZ0.out;obtain⟨z0,z1⟩:=za2 VZ1.out;have zf:=fun i=>frozen_of_row _ _ i _ _ VZ1.out;clear hb
           (try go_wp2_with fail)
           refine hK.out _ _ ?_ (fun hHeld=> ?_)
           ·exact HC13.out _ B1.out
           clear hK K
           (try simp only[Act.put,List.setIfInBounds_toArray,List.set_cons_zero,List.set_cons_succ])
           refine tkH 9 hHeld ?_;refine tkH 10 hHeld ?_;refine tkH 11 hHeld ?_;refine tkH 12 hHeld ?_;refine wpAnyH_ready (rs:=[14]) (by kernel_rfl) (by simp) ?_;refine AllReadyH.cons rfl (fun K hK=> ?_) AllReadyH.nil;have B5:Hid (Below w6.heap.size w6 ((w1.setCell ⟨kr,0,none⟩ (.int .i64 vv)).setCell ⟨kr,1,none⟩ (.slice ad xl cg))):=(B1.out.setCell HZL.out _).setCell HZL.out _;have s1:=heap_setCell_same w1 kr 0 _ _ (Value.int .i64 vv) VZ1.out;have V5:Hid (((w1.setCell ⟨kr,0,none⟩ (.int .i64 vv)).setCell ⟨kr,1,none⟩ (.slice ad xl cg)).heap[kr]? =some (.cells #[.int .i64 vv,.slice ad xl cg] 43 (0,0))):=by
            have s2:=heap_setCell_same _ kr 1 _ _ (Value.slice ad xl cg) s1;simp at s2;exact s2
           have O5:Hid (World.ownsRow ((w1.setCell ⟨kr,0,none⟩ (.int .i64 vv)).setCell ⟨kr,1,none⟩ (.slice ad xl cg)) (w.heap.size+4) 2 1 (.slice ad xl cg) xl (xs.map (Value.int .i64))):=zd4 (zd4 O1.out VZ1.out) (heap_setCell_same _ kr 0 _ _ _ VZ1.out);have HZ5:Hid (w6.heap.size<=kr):=HZL.out;clear s1;go_simp;refine hK.out _ _ ?_ (fun hHeld=> ?_)
           ·exact HC13.out _ B5.out
           clear hK K;generalize((w1.setCell ⟨kr,0,none⟩ (.int .i64 vv)).setCell ⟨kr,1,none⟩ (.slice ad xl cg))=w5 at*;refine tkH 15 hHeld ?_;refine tkH 16 hHeld ?_;refine wpAnyH_done (by kernel_rfl) ?_ _;clear hHeld
           (try go_wp2_with fail)
           go_meet;exact⟨kr,ad,cg,rfl,rfl,rfl,B5.out,V5.out,O5.out⟩
          case rest=>
           obtain⟨kr,ad,cg,rfl,rfl,rfl,hB5,hV5,hO5⟩:=hcut;obtain⟨w5,hw5⟩:∃v,v=wc:=⟨_,rfl⟩;subst hw5;have B5:Hid (Below w6.heap.size w6 w5):=hB5;have V5:Hid (w5.heap[kr]? =some (.cells #[.int .i64 vv,.slice ad xl cg] 43 (0,0))):=hV5;have O5:Hid (w5.ownsRow (w.heap.size+4) 2 1 (.slice ad xl cg) xl (xs.map (Value.int .i64))):=hO5;clear hB5 hV5 hO5;clear CI HC13 HVV;have Q7:Hid (OQ w w5 #[.int .i64 n,.slice a zl cap,.slice ao ko co,.slice (some ⟨bv,ov,none⟩) kv cv,.int .i64 fine] #[.slice ra nr rc,.slice (some ⟨bl,ol,none⟩) ln lc] o0 o1):=Q6.out.below B5.out;have HW7:Hid (w.heap.size+4<=w5.heap.size):=Q7.out.size;obtain⟨gx,e⟩:∃gx,ad=some ⟨gx,0,none⟩:=by
            rcases own_kinds O5.out with⟨_,h0⟩|⟨g,c,e,_,_⟩
            ·exact absurd (List.length_eq_zero_iff.1 (HXL.out.trans h0)) HXN.out.1
            ·simp only[Value.slice.injEq]at e
             exact⟨g,e.1⟩
           subst e;have LS:=z74 ra bl ol rc lc gx 0 cg R L vv xs w5 (HR.out.below Q7.out.b) (HL.out.below Q7.out.b) (zi0 O5.out) (by rw[HN.out];omega) (fun r hr=>⟨(HI.out r hr).1,by have:=(HI.out r hr).2.1;omega⟩) (by rw[HM.out];omega) ⟨HXN.out.1,by have:=HXN.out.2;omega⟩;rw[HN.out,HM.out,HXL.out]at LS;obtain⟨p0,p1⟩:=za2 Q7.out.p;obtain⟨v0,v1⟩:=za2 V5.out
           go_wp2_with fail
           refine LS.mono ?_;rintro e w8 ⟨ra8,rc8,gl8,lc8,S8,rfl,hb8,hk8,ho8⟩;obtain⟨n8,HN8⟩:=nmd S8.length;rw[HN8.out,HM.out];rw[HN8.out,HM.out]at ho8;have Q8:Hid (OQ w w8 #[.int .i64 n,.slice a zl cap,.slice ao ko co,.slice (some ⟨bv,ov,none⟩) kv cv,.int .i64 fine] #[.slice ra nr rc,.slice (some ⟨bl,ol,none⟩) ln lc] o0 o1):=Q7.out.below hb8;have P8:Hid (PO w8 w5.heap.size (.slice ra8 n8 rc8) S8 (.slice (some ⟨gl8,0,none⟩) ln lc8) L):=ho8;have HK8:Hid (S8.map RT.key=(setL R (oneT R (id,veh,bi))).map RT.key):=by
            show _=_;rw[hk8];refine zQ4 HS.out HXN.out.1 ?_;show(vv,xs)=(veh,insL (zd9 R veh).ids bi id);rw[HVE9.out,HRTO.out,HXS.out]
           clear hb8 ho8 hk8 LS p0 p1 v0 v1 V5 O5 B5 Q7;obtain⟨q0,q1⟩:=za2 Q8.out.o;have qf:=fun i=>frozen_of_row _ _ i _ _ Q8.out.o;have s1:=heap_setCell_same w8 (w.heap.size+3) 0 _ _ (Value.slice ra8 n8 rc8) Q8.out.o;have s2:=heap_setCell_same _ (w.heap.size+3) 1 _ _ (Value.slice (some ⟨gl8,0,none⟩) ln lc8) s1;simp at s2;have Q9:Hid (OQ w ((w8.setCell ⟨w.heap.size+3,0,none⟩ (.slice ra8 n8 rc8)).setCell ⟨w.heap.size+3,1,none⟩ (.slice (some ⟨gl8,0,none⟩) ln lc8)) #[.int .i64 n,.slice a zl cap,.slice ao ko co,.slice (some ⟨bv,ov,none⟩) kv cv,.int .i64 fine] #[.slice ra nr rc,.slice (some ⟨bl,ol,none⟩) ln lc] (.slice ra8 n8 rc8) (.slice (some ⟨gl8,0,none⟩) ln lc8)):=⟨(Q8.out.b.setCell (by simp) _).setCell (by simp) _,za7 (za7 Q8.out.c (by omega)) (by omega),za7 (za7 Q8.out.p (by omega)) (by omega),za7 (za7 Q8.out.a (by omega)) (by omega),s2⟩;have P9:Hid (PO ((w8.setCell ⟨w.heap.size+3,0,none⟩ (.slice ra8 n8 rc8)).setCell ⟨w.heap.size+3,1,none⟩ (.slice (some ⟨gl8,0,none⟩) ln lc8)) (w.heap.size+4) (.slice ra8 n8 rc8) S8 (.slice (some ⟨gl8,0,none⟩) ln lc8) L):=((P8.out.box Q8.out.o).box s1).base HW7.out;clear s1 s2
           go_wp2_with fail
           clear q0 q1 qf Q8 P8;generalize((w8.setCell ⟨w.heap.size+3,0,none⟩ (.slice ra8 n8 rc8)).setCell ⟨w.heap.size+3,1,none⟩ (.slice (some ⟨gl8,0,none⟩) ln lc8))=w9 at*;have CU0:=fun(W:World) (hW:Below w9.heap.size w9 W)=>z43 (some ⟨bl,ol,none⟩) lc ln L id W (HL.out.below (Q9.out.below hW).b) HM.out (by omega)
           obtain⟨m10,HM10⟩:=nmd ((zh7 L id).length);rw[HM10.out]at CU0;have CU:Hid _:=CU0;have HC15:Hid (∀W,Below w9.heap.size w9 W->(fun W=>W.cell? ⟨w.heap.size+1,1,none⟩=some (.slice (some ⟨bl,ol,none⟩) ln lc)/\W.cell? ⟨bl,ol+i,none⟩=some (.int .i64 id)) W):=fun W hW=>by
            have q:=Q9.out.below hW;exact⟨(za2 q.p).2,HIE.out W q.b⟩
           clear CU0;have kS:=HC15.out _ (Below.refl _ _).drew
           go_region_held3 (fun W=>W.cell? ⟨w.heap.size+1,1,none⟩=some (.slice (some ⟨bl,ol,none⟩) ln lc)/\W.cell? ⟨bl,ol+i,none⟩=some (.int .i64 id)) (first|with_reducible exact kS|with_reducible exact kS5|go_keep) ((first
            |(go_at_call 70
              with_reducible refine(CU.out w9.drew (Below.refl _ _).drew).mono ?_
              rintro e w10 ⟨g10,c10,rfl,hb,ho⟩;have B10:Hid (Below w9.heap.size w9 w10):=(Below.refl _ _).drew.trans hb;have Q10:Hid (OQ w w10 #[.int .i64 n,.slice a zl cap,.slice ao ko co,.slice (some ⟨bv,ov,none⟩) kv cv,.int .i64 fine] #[.slice ra nr rc,.slice (some ⟨bl,ol,none⟩) ln lc] (.slice ra8 n8 rc8) (.slice (some ⟨gl8,0,none⟩) ln lc8)):=Q9.out.below B10.out;have L10:Hid (w10.ownsRow (w.heap.size+4) 2 1 (.slice (some ⟨g10,0,none⟩) m10 c10) m10 ((zh7 L id).map (Value.int .i64))):=zb7 ho Q9.out.size;have kS:=HC15.out _ B10.out;have kS5:(fun W=>W.cell? ⟨w.heap.size+1,1,none⟩=some (.slice (some ⟨bl,ol,none⟩) ln lc)/\W.cell? ⟨bl,ol+i,none⟩=some (.int .i64 id)) (w10.setCell ⟨w.heap.size+3,1,none⟩ (.slice (some ⟨g10,0,none⟩) m10 c10)):=⟨za4 kS.1 (by show w.heap.size+1≠w.heap.size+3;omega),HIE.out _ (Q10.out.b.setCell (by simp) _)⟩;obtain⟨q0,q1⟩:=za2 Q10.out.o;have qf:=fun i=>frozen_of_row _ _ i _ _ Q10.out.o;clear hb ho)))
           clear kS kS5 CU HC15;have s1:=heap_setCell_same w10 (w.heap.size+3) 1 _ _ (Value.slice (some ⟨g10,0,none⟩) m10 c10) Q10.out.o;simp at s1;have Q11:Hid (OQ w (w10.setCell ⟨w.heap.size+3,1,none⟩ (.slice (some ⟨g10,0,none⟩) m10 c10)) #[.int .i64 n,.slice a zl cap,.slice ao ko co,.slice (some ⟨bv,ov,none⟩) kv cv,.int .i64 fine] #[.slice ra nr rc,.slice (some ⟨bl,ol,none⟩) ln lc] (.slice ra8 n8 rc8) (.slice (some ⟨g10,0,none⟩) m10 c10)):=⟨Q10.out.b.setCell (by simp) _,za7 Q10.out.c (by omega),za7 Q10.out.p (by omega),za7 Q10.out.a (by omega),s1⟩;have U11:Hid (OU w (w10.setCell ⟨w.heap.size+3,1,none⟩ (.slice (some ⟨g10,0,none⟩) m10 c10)) #[.slice ra nr rc,.slice (some ⟨bl,ol,none⟩) ln lc] R L ⟨true,(id,veh,bi),bvv⟩ (.slice ra8 n8 rc8) (.slice (some ⟨g10,0,none⟩) m10 c10)):=.inr ⟨rfl,S8,⟨((P9.out.below B10.out).box Q10.out.o).r,((P9.out.below B10.out).box Q10.out.o).s,by show World.ownsRow _ _ _ _ _ (zh7 L id).length _;rw[HM10.out];exact ze4 L10.out Q10.out.o (by decide)⟩,HK8.out,g10,c10,by show _=Value.slice _ (zh7 L id).length _;rw[HM10.out]⟩;clear s1 L10 q0 q1 qf Q10 P9 B10 Q9;go_wp2;go_roundw
           case rel=>exact⟨k+1,_,_,by omega,by first|rfl|go_num,by rw[HNS.out],by rw[HNS.out],Q11.out,by rw[HNS.out];exact U11.out⟩
           case measure=>simp[intOf];omega
         ·subst h9
          obtain⟨d0,d1,d2,d3,d4⟩:=za8 Q6.out.c;go_upto_region 13 with fail;clear d0 d1 d2 d3 d4;go_cut [15,16,17]from 69 to 81 (fun s15 s16 s17 wx=>∃(kr:Nat) (ad:Option Addr) (cg:Nat),s15=.pointer (some ⟨kr,0,none⟩)/\s16=.int .i64 bvv/\s17=.bool true/\Below w6.heap.size w6 wx/\wx.heap[kr]? =some (.cells #[.int .i64 vv,.slice ad xl cg] 43 (0,0))/\wx.ownsRow (w.heap.size+4) 2 1 (.slice ad xl cg) xl (xs.map (Value.int .i64)))
          case first=>
           go_wp2_with fail
           refine wp_region_held_drew (S:=(fun W=>W.cell? ⟨w.heap.size,0,none⟩=some (.int .i64 n)/\W.cell? ⟨w.heap.size,1,none⟩=some (.slice a zl cap)/\W.cell? ⟨w.heap.size,2,none⟩=some (.slice ao ko co)/\W.cell? ⟨w.heap.size,3,none⟩=some (.slice (some ⟨bv,ov,none⟩) kv cv)/\W.cell? ⟨w.heap.size,4,none⟩=some (.int .i64 fine)/\W.cell? ⟨rb,0,none⟩=some (.int .i64 veh)/\W.cell? ⟨rb,1,none⟩=some (.slice ra9 rl rc9)/\W.cell? ⟨w.heap.size+1,1,none⟩=some (.slice (some ⟨bl,ol,none⟩) ln lc)/\W.cell? ⟨bl,ol+i,none⟩=some (.int .i64 id))) (by kernel_rfl) ?_ (fun hHeld=> ?_)
           ·exact HC13.out _ (Below.refl _ _).drew
           have BD:Hid (Below w6.heap.size w6 w6.drew):=(Below.refl _ _).drew;generalize w6.drew=wd at*;refine tkH 0 hHeld ?_;refine tkH 1 hHeld ?_;refine tkH 2 hHeld ?_;refine tkH 3 hHeld ?_;refine tkH 4 hHeld ?_;refine tkH 5 hHeld ?_;refine tkH 6 hHeld ?_;refine tkH 7 hHeld ?_;refine wpAnyH_ready (rs:=[8,13]) (by kernel_rfl) (by simp) ?_;refine AllReadyH.cons rfl (fun K hK=> ?_) ?_
           ·skip
            go_simp;refine(CI.out wd BD.out).mono ?_;rintro e w1 ⟨hb,ad,cg,rfl,ho⟩;have B1:Hid (Below w6.heap.size w6 w1):=BD.out.trans (hb.mono BD.out.size);rw[HVV.out,HXL.out];have O1:Hid (w1.ownsRow (w.heap.size+4) 2 1 (.slice ad xl cg) xl (xs.map (Value.int .i64))):=by
             rw[HXL.out]at ho;exact zb7 ho (by have:=HW6.out;have:=BD.out.size;omega)
            clear ho;clear hb
            (try go_wp2_with fail)
            refine hK.out _ _ ?_ (fun hHeld=> ?_)
            ·exact HC13.out _ B1.out
            clear hK K
            (try simp only[Act.put,List.setIfInBounds_toArray,List.set_cons_zero,List.set_cons_succ])
            refine tkH 9 hHeld ?_;refine tkH 10 hHeld ?_;refine tkH 11 hHeld ?_;refine tkH 12 hHeld ?_;refine wpAnyH_ready (rs:=[13]) (by kernel_rfl) (by simp) ?_;refine AllReadyH.cons rfl (fun K hK=> ?_) AllReadyH.nil;have BZ:Hid (Below w6.heap.size w6 (w1.alloc (.cells #[Value.int .i64 0,Value.slice none 0 0] 43))):=B1.out.alloc B1.out.size _;have VZ0:Hid ((w1.alloc (.cells #[Value.int .i64 0,Value.slice none 0 0] 43)).heap[w1.heap.size]? =some (.cells #[Value.int .i64 0,Value.slice none 0 0] 43 (0,0))):=heap_alloc_new _ _;have HZL:Hid (w6.heap.size<=w1.heap.size):=B1.out.size;have OZ:Hid (World.ownsRow (w1.alloc (.cells #[Value.int .i64 0,Value.slice none 0 0] 43)) (w.heap.size+4) 2 1 (.slice ad xl cg) xl (xs.map (Value.int .i64))):=O1.out.alloc _;go_simp;refine hK.out _ _ ?_ (fun hHeld=> ?_)
            ·exact HC13.out _ BZ.out
            clear hK K
            (try simp only[Act.put,List.setIfInBounds_toArray,List.set_cons_zero,List.set_cons_succ])
            obtain⟨kr,HKZ⟩:=nmd w1.heap.size;rw[HKZ.out]at VZ0 HZL⊢;generalize(w1.alloc (.cells #[Value.int .i64 0,Value.slice none 0 0] 43))=wz at*;obtain⟨z0,z1⟩:=za2 VZ0.out;have zf:=fun i=>frozen_of_row _ _ i _ _ VZ0.out;refine wpAnyH_ready (rs:=[14]) (by kernel_rfl) (by simp) ?_;refine AllReadyH.cons rfl (fun K hK=> ?_) AllReadyH.nil;have B5:Hid (Below w6.heap.size w6 ((wz.setCell ⟨kr,0,none⟩ (.int .i64 vv)).setCell ⟨kr,1,none⟩ (.slice ad xl cg))):=(BZ.out.setCell HZL.out _).setCell HZL.out _;have s1:=heap_setCell_same wz kr 0 _ _ (Value.int .i64 vv) VZ0.out;have V5:Hid (((wz.setCell ⟨kr,0,none⟩ (.int .i64 vv)).setCell ⟨kr,1,none⟩ (.slice ad xl cg)).heap[kr]? =some (.cells #[.int .i64 vv,.slice ad xl cg] 43 (0,0))):=by
             have s2:=heap_setCell_same _ kr 1 _ _ (Value.slice ad xl cg) s1;simp at s2;exact s2
            have O5:Hid (World.ownsRow ((wz.setCell ⟨kr,0,none⟩ (.int .i64 vv)).setCell ⟨kr,1,none⟩ (.slice ad xl cg)) (w.heap.size+4) 2 1 (.slice ad xl cg) xl (xs.map (Value.int .i64))):=zd4 (zd4 OZ.out VZ0.out) (heap_setCell_same _ kr 0 _ _ _ VZ0.out);have HZ5:Hid (w6.heap.size<=kr):=HZL.out;clear s1;go_simp;refine hK.out _ _ ?_ (fun hHeld=> ?_)
            ·exact HC13.out _ B5.out
            clear hK K;generalize((wz.setCell ⟨kr,0,none⟩ (.int .i64 vv)).setCell ⟨kr,1,none⟩ (.slice ad xl cg))=w5 at*;refine tkH 15 hHeld ?_;refine tkH 16 hHeld ?_;refine wpAnyH_done (by kernel_rfl) ?_ _;clear hHeld
            (try go_wp2_with fail)
            go_meet;exact⟨kr,ad,cg,rfl,rfl,rfl,B5.out,V5.out,O5.out⟩
           refine AllReadyH.cons rfl (fun K hK=> ?_) AllReadyH.nil;have BZ:Hid (Below w6.heap.size w6 (wd.alloc (.cells #[Value.int .i64 0,Value.slice none 0 0] 43))):=BD.out.alloc BD.out.size _;have VZ0:Hid ((wd.alloc (.cells #[Value.int .i64 0,Value.slice none 0 0] 43)).heap[wd.heap.size]? =some (.cells #[Value.int .i64 0,Value.slice none 0 0] 43 (0,0))):=heap_alloc_new _ _;have HZL:Hid (w6.heap.size<=wd.heap.size):=BD.out.size;go_simp;refine hK.out _ _ ?_ (fun hHeld=> ?_)
           ·exact HC13.out _ BZ.out
           clear hK K
           (try simp only[Act.put,List.setIfInBounds_toArray,List.set_cons_zero,List.set_cons_succ])
           obtain⟨kr,HKZ⟩:=nmd wd.heap.size;rw[HKZ.out]at VZ0 HZL⊢;generalize(wd.alloc (.cells #[Value.int .i64 0,Value.slice none 0 0] 43))=wz at*;obtain⟨z0,z1⟩:=za2 VZ0.out;have zf:=fun i=>frozen_of_row _ _ i _ _ VZ0.out;refine wpAnyH_ready (rs:=[8]) (by kernel_rfl) (by simp) ?_;refine AllReadyH.cons rfl (fun K hK=> ?_) AllReadyH.nil;go_simp;refine(CI.out wz BZ.out).mono ?_;rintro e w1 ⟨hb,ad,cg,rfl,ho⟩;have B1:Hid (Below w6.heap.size w6 w1):=BZ.out.trans (hb.mono BZ.out.size);rw[HVV.out,HXL.out];have O1:Hid (w1.ownsRow (w.heap.size+4) 2 1 (.slice ad xl cg) xl (xs.map (Value.int .i64))):=by
            rw[HXL.out]at ho;exact zb7 ho (by have:=HW6.out;have:=BZ.out.size;omega)
           clear ho;have VZ1:Hid (w1.heap[kr]? =some (.cells #[Value.int .i64 0,Value.slice none 0 0] 43 (0,0))):=za1 hb (za3 VZ0.out) VZ0.out;obtain⟨z0,z1⟩:=za2 VZ1.out;have zf:=fun i=>frozen_of_row _ _ i _ _ VZ1.out;clear hb
           (try go_wp2_with fail)
           refine hK.out _ _ ?_ (fun hHeld=> ?_)
           ·exact HC13.out _ B1.out
           clear hK K
           (try simp only[Act.put,List.setIfInBounds_toArray,List.set_cons_zero,List.set_cons_succ])
           refine tkH 9 hHeld ?_;refine tkH 10 hHeld ?_;refine tkH 11 hHeld ?_;refine tkH 12 hHeld ?_;refine wpAnyH_ready (rs:=[14]) (by kernel_rfl) (by simp) ?_;refine AllReadyH.cons rfl (fun K hK=> ?_) AllReadyH.nil;have B5:Hid (Below w6.heap.size w6 ((w1.setCell ⟨kr,0,none⟩ (.int .i64 vv)).setCell ⟨kr,1,none⟩ (.slice ad xl cg))):=(B1.out.setCell HZL.out _).setCell HZL.out _;have s1:=heap_setCell_same w1 kr 0 _ _ (Value.int .i64 vv) VZ1.out;have V5:Hid (((w1.setCell ⟨kr,0,none⟩ (.int .i64 vv)).setCell ⟨kr,1,none⟩ (.slice ad xl cg)).heap[kr]? =some (.cells #[.int .i64 vv,.slice ad xl cg] 43 (0,0))):=by
            have s2:=heap_setCell_same _ kr 1 _ _ (Value.slice ad xl cg) s1;simp at s2;exact s2
           have O5:Hid (World.ownsRow ((w1.setCell ⟨kr,0,none⟩ (.int .i64 vv)).setCell ⟨kr,1,none⟩ (.slice ad xl cg)) (w.heap.size+4) 2 1 (.slice ad xl cg) xl (xs.map (Value.int .i64))):=zd4 (zd4 O1.out VZ1.out) (heap_setCell_same _ kr 0 _ _ _ VZ1.out);have HZ5:Hid (w6.heap.size<=kr):=HZL.out;clear s1;go_simp;refine hK.out _ _ ?_ (fun hHeld=> ?_)
           ·exact HC13.out _ B5.out
           clear hK K;generalize((w1.setCell ⟨kr,0,none⟩ (.int .i64 vv)).setCell ⟨kr,1,none⟩ (.slice ad xl cg))=w5 at*;refine tkH 15 hHeld ?_;refine tkH 16 hHeld ?_;refine wpAnyH_done (by kernel_rfl) ?_ _;clear hHeld
           (try go_wp2_with fail)
           go_meet;exact⟨kr,ad,cg,rfl,rfl,rfl,B5.out,V5.out,O5.out⟩
          case rest=>
           obtain⟨kr,ad,cg,rfl,rfl,rfl,hB5,hV5,hO5⟩:=hcut;obtain⟨w5,hw5⟩:∃v,v=wc:=⟨_,rfl⟩;subst hw5;have B5:Hid (Below w6.heap.size w6 w5):=hB5;have V5:Hid (w5.heap[kr]? =some (.cells #[.int .i64 vv,.slice ad xl cg] 43 (0,0))):=hV5;have O5:Hid (w5.ownsRow (w.heap.size+4) 2 1 (.slice ad xl cg) xl (xs.map (Value.int .i64))):=hO5;clear hB5 hV5 hO5;clear CI HC13 HVV;have Q7:Hid (OQ w w5 #[.int .i64 n,.slice a zl cap,.slice ao ko co,.slice (some ⟨bv,ov,none⟩) kv cv,.int .i64 fine] #[.slice ra nr rc,.slice (some ⟨bl,ol,none⟩) ln lc] o0 o1):=Q6.out.below B5.out;have HW7:Hid (w.heap.size+4<=w5.heap.size):=Q7.out.size;obtain⟨gx,e⟩:∃gx,ad=some ⟨gx,0,none⟩:=by
            rcases own_kinds O5.out with⟨_,h0⟩|⟨g,c,e,_,_⟩
            ·exact absurd (List.length_eq_zero_iff.1 (HXL.out.trans h0)) HXN.out.1
            ·simp only[Value.slice.injEq]at e
             exact⟨g,e.1⟩
           subst e;have LS:=z74 ra bl ol rc lc gx 0 cg R L vv xs w5 (HR.out.below Q7.out.b) (HL.out.below Q7.out.b) (zi0 O5.out) (by rw[HN.out];omega) (fun r hr=>⟨(HI.out r hr).1,by have:=(HI.out r hr).2.1;omega⟩) (by rw[HM.out];omega) ⟨HXN.out.1,by have:=HXN.out.2;omega⟩;rw[HN.out,HM.out,HXL.out]at LS;obtain⟨p0,p1⟩:=za2 Q7.out.p;obtain⟨v0,v1⟩:=za2 V5.out
           go_wp2_with fail
           refine LS.mono ?_;rintro e w8 ⟨ra8,rc8,gl8,lc8,S8,rfl,hb8,hk8,ho8⟩;obtain⟨n8,HN8⟩:=nmd S8.length;rw[HN8.out,HM.out];rw[HN8.out,HM.out]at ho8;have Q8:Hid (OQ w w8 #[.int .i64 n,.slice a zl cap,.slice ao ko co,.slice (some ⟨bv,ov,none⟩) kv cv,.int .i64 fine] #[.slice ra nr rc,.slice (some ⟨bl,ol,none⟩) ln lc] o0 o1):=Q7.out.below hb8;have P8:Hid (PO w8 w5.heap.size (.slice ra8 n8 rc8) S8 (.slice (some ⟨gl8,0,none⟩) ln lc8) L):=ho8;have HK8:Hid (S8.map RT.key=(setL R (oneT R (id,veh,bi))).map RT.key):=by
            show _=_;rw[hk8];refine zQ4 HS.out HXN.out.1 ?_;show(vv,xs)=(veh,insL (zd9 R veh).ids bi id);rw[HVE9.out,HRTO.out,HXS.out]
           clear hb8 ho8 hk8 LS p0 p1 v0 v1 V5 O5 B5 Q7;obtain⟨q0,q1⟩:=za2 Q8.out.o;have qf:=fun i=>frozen_of_row _ _ i _ _ Q8.out.o;have s1:=heap_setCell_same w8 (w.heap.size+3) 0 _ _ (Value.slice ra8 n8 rc8) Q8.out.o;have s2:=heap_setCell_same _ (w.heap.size+3) 1 _ _ (Value.slice (some ⟨gl8,0,none⟩) ln lc8) s1;simp at s2;have Q9:Hid (OQ w ((w8.setCell ⟨w.heap.size+3,0,none⟩ (.slice ra8 n8 rc8)).setCell ⟨w.heap.size+3,1,none⟩ (.slice (some ⟨gl8,0,none⟩) ln lc8)) #[.int .i64 n,.slice a zl cap,.slice ao ko co,.slice (some ⟨bv,ov,none⟩) kv cv,.int .i64 fine] #[.slice ra nr rc,.slice (some ⟨bl,ol,none⟩) ln lc] (.slice ra8 n8 rc8) (.slice (some ⟨gl8,0,none⟩) ln lc8)):=⟨(Q8.out.b.setCell (by simp) _).setCell (by simp) _,za7 (za7 Q8.out.c (by omega)) (by omega),za7 (za7 Q8.out.p (by omega)) (by omega),za7 (za7 Q8.out.a (by omega)) (by omega),s2⟩;have P9:Hid (PO ((w8.setCell ⟨w.heap.size+3,0,none⟩ (.slice ra8 n8 rc8)).setCell ⟨w.heap.size+3,1,none⟩ (.slice (some ⟨gl8,0,none⟩) ln lc8)) (w.heap.size+4) (.slice ra8 n8 rc8) S8 (.slice (some ⟨gl8,0,none⟩) ln lc8) L):=((P8.out.box Q8.out.o).box s1).base HW7.out;clear s1 s2
           go_wp2_with fail
           clear q0 q1 qf Q8 P8;generalize((w8.setCell ⟨w.heap.size+3,0,none⟩ (.slice ra8 n8 rc8)).setCell ⟨w.heap.size+3,1,none⟩ (.slice (some ⟨gl8,0,none⟩) ln lc8))=w9 at*;have CU0:=fun(W:World) (hW:Below w9.heap.size w9 W)=>z43 (some ⟨bl,ol,none⟩) lc ln L id W (HL.out.below (Q9.out.below hW).b) HM.out (by omega)
           obtain⟨m10,HM10⟩:=nmd ((zh7 L id).length);rw[HM10.out]at CU0;have CU:Hid _:=CU0;have HC15:Hid (∀W,Below w9.heap.size w9 W->(fun W=>W.cell? ⟨w.heap.size+1,1,none⟩=some (.slice (some ⟨bl,ol,none⟩) ln lc)/\W.cell? ⟨bl,ol+i,none⟩=some (.int .i64 id)) W):=fun W hW=>by
            have q:=Q9.out.below hW;exact⟨(za2 q.p).2,HIE.out W q.b⟩
           clear CU0;have kS:=HC15.out _ (Below.refl _ _).drew
           go_region_held3 (fun W=>W.cell? ⟨w.heap.size+1,1,none⟩=some (.slice (some ⟨bl,ol,none⟩) ln lc)/\W.cell? ⟨bl,ol+i,none⟩=some (.int .i64 id)) (first|with_reducible exact kS|with_reducible exact kS5|go_keep) ((first
            |(go_at_call 70
              with_reducible refine(CU.out w9.drew (Below.refl _ _).drew).mono ?_
              rintro e w10 ⟨g10,c10,rfl,hb,ho⟩;have B10:Hid (Below w9.heap.size w9 w10):=(Below.refl _ _).drew.trans hb;have Q10:Hid (OQ w w10 #[.int .i64 n,.slice a zl cap,.slice ao ko co,.slice (some ⟨bv,ov,none⟩) kv cv,.int .i64 fine] #[.slice ra nr rc,.slice (some ⟨bl,ol,none⟩) ln lc] (.slice ra8 n8 rc8) (.slice (some ⟨gl8,0,none⟩) ln lc8)):=Q9.out.below B10.out;have L10:Hid (w10.ownsRow (w.heap.size+4) 2 1 (.slice (some ⟨g10,0,none⟩) m10 c10) m10 ((zh7 L id).map (Value.int .i64))):=zb7 ho Q9.out.size;have kS:=HC15.out _ B10.out;have kS5:(fun W=>W.cell? ⟨w.heap.size+1,1,none⟩=some (.slice (some ⟨bl,ol,none⟩) ln lc)/\W.cell? ⟨bl,ol+i,none⟩=some (.int .i64 id)) (w10.setCell ⟨w.heap.size+3,1,none⟩ (.slice (some ⟨g10,0,none⟩) m10 c10)):=⟨za4 kS.1 (by show w.heap.size+1≠w.heap.size+3;omega),HIE.out _ (Q10.out.b.setCell (by simp) _)⟩;obtain⟨q0,q1⟩:=za2 Q10.out.o;have qf:=fun i=>frozen_of_row _ _ i _ _ Q10.out.o;clear hb ho)))
           clear kS kS5 CU HC15;have s1:=heap_setCell_same w10 (w.heap.size+3) 1 _ _ (Value.slice (some ⟨g10,0,none⟩) m10 c10) Q10.out.o;simp at s1;have Q11:Hid (OQ w (w10.setCell ⟨w.heap.size+3,1,none⟩ (.slice (some ⟨g10,0,none⟩) m10 c10)) #[.int .i64 n,.slice a zl cap,.slice ao ko co,.slice (some ⟨bv,ov,none⟩) kv cv,.int .i64 fine] #[.slice ra nr rc,.slice (some ⟨bl,ol,none⟩) ln lc] (.slice ra8 n8 rc8) (.slice (some ⟨g10,0,none⟩) m10 c10)):=⟨Q10.out.b.setCell (by simp) _,za7 Q10.out.c (by omega),za7 Q10.out.p (by omega),za7 Q10.out.a (by omega),s1⟩;have U11:Hid (OU w (w10.setCell ⟨w.heap.size+3,1,none⟩ (.slice (some ⟨g10,0,none⟩) m10 c10)) #[.slice ra nr rc,.slice (some ⟨bl,ol,none⟩) ln lc] R L ⟨true,(id,veh,bi),bvv⟩ (.slice ra8 n8 rc8) (.slice (some ⟨g10,0,none⟩) m10 c10)):=.inr ⟨rfl,S8,⟨((P9.out.below B10.out).box Q10.out.o).r,((P9.out.below B10.out).box Q10.out.o).s,by show World.ownsRow _ _ _ _ _ (zh7 L id).length _;rw[HM10.out];exact ze4 L10.out Q10.out.o (by decide)⟩,HK8.out,g10,c10,by show _=Value.slice _ (zh7 L id).length _;rw[HM10.out]⟩;clear s1 L10 q0 q1 qf Q10 P9 B10 Q9;go_wp2;go_roundw
           case rel=>exact⟨k+1,_,_,by omega,by first|rfl|go_num,by rw[HNS.out],by rw[HNS.out],Q11.out,by rw[HNS.out];exact U11.out⟩
           case measure=>simp[intOf];omega
        ·have HNS:Hid (fn (l1++sp2 R vs id (k+1))=⟨sf,ss,sv⟩):=by show _=_;rw[HN2.out];exact if_neg (fun h=>htk h.2.2)
         clear HN2 HC13;have hsf:sf=true:=by cases sf;exact absurd (.inl rfl) htk;rfl
         subst hsf;have hge:sv<=bvv:=by rcases Int.lt_or_le bvv sv with h|h;exact absurd (.inr h) htk;exact h
         obtain⟨d0,d1,d2,d3,d4⟩:=za8 Q6.out.c;go_wp2;go_roundw
         case rel=>exact⟨k+1,o0,o1,by omega,by first|rfl|go_num,by rw[HNS.out],by rw[HNS.out],Q6.out,by rw[HNS.out];exact U6.out⟩
         case measure=>simp[intOf];omega
       ·have HNS:Hid (fn (l1++sp2 R vs id (k+1))=⟨sf,ss,sv⟩):=by show _=_;rw[HN2.out];exact if_neg (fun h=>hfi h.2.1)
        clear HN2 HC13;have hgt:fine<bvv:=by omega
        obtain⟨d0,d1,d2,d3,d4⟩:=za8 Q6.out.c;go_wp2;go_roundw
        case rel=>exact⟨k+1,o0,o1,by omega,by first|rfl|go_num,by rw[HNS.out],by rw[HNS.out],Q6.out,by rw[HNS.out];exact U6.out⟩
        case measure=>simp[intOf];omega
    ·have hkI:¬((k:Int)<(kv:Int)):=by omega
     have hke:k=kv:=by omega
     go_wp2;go_roundw
     case rel=>exact⟨i+1,o0,o1,by omega,by first|rfl|go_num,by rw[HNX.out,hke],by rw[HNX.out,hke],Q3.out,by have U9:=U3'.out;rw[hke,<-HNX.out]at U9;exact U9⟩
     case measure=>simp[intOf];omega
  ·have hiI:¬((i:Int)<(ln:Int)):=by omega
   have hie:i=ln:=by omega
   have HQ9:Hid (fn (sp3 R vs kv L i)=s9):=by show _=_;rw[hie];exact HONE.out.symm
   rw[HQ9.out]at U1⊢;rcases U1.out with⟨hsf,hps⟩|⟨hsf,S,hPO,hky,g,c,e⟩
   ·simp only[Array.mk.injEq,List.cons.injEq,and_true]at hps
    obtain⟨rfl,rfl⟩:=hps;have hRX:RX=R:=by rw[HRR.out,hsf];rfl
    have hLX:LX=L:=by rw[HLL.out,hsf];rfl
    have CC:=zo5 ra bl ol rc lc R L wr (HR.out.below Q1.out.b) (HL.out.below Q1.out.b) (by rw[HN.out];omega) (fun r hr=>⟨(HI.out r hr).1,by have:=(HI.out r hr).2.1;omega⟩) (by rw[HM.out];omega);rw[HN.out,HM.out]at CC;have HRXE:Hid (RX=R):=hRX;have HLXE:Hid (LX=L):=hLX;clear hRX hLX;obtain⟨q0,q1⟩:=za2 Q1.out.o
    go_wp2_with fail
    refine CC.mono ?_;rintro e w2 ⟨ra2,rc2,gl2,lc2,S2,rfl,hb,hk,ho⟩;rw[HN.out,HM.out]at ho;rw[HN.out,HM.out];have Q2:Hid (OQ w w2 #[.int .i64 n,.slice a zl cap,.slice ao ko co,.slice (some ⟨bv,ov,none⟩) kv cv,.int .i64 fine] #[.slice ra nr rc,.slice (some ⟨bl,ol,none⟩) ln lc] (.slice ra nr rc) (.slice (some ⟨bl,ol,none⟩) ln lc)):=Q1.out.below hb;have P2:Hid (PO w2 (w.heap.size+4) (.slice ra2 nr rc2) S2 (.slice (some ⟨gl2,0,none⟩) ln lc2) L):=ho.base (by have:=Q1.out.size;omega);have HK2:Hid (S2.map RT.key=RX.map RT.key):=by show _=_;rw[HRXE.out];exact hk
    clear hb ho hk CC q0 q1;obtain⟨a0,a1⟩:=za2 Q2.out.a;have af:=fun i=>frozen_of_row _ _ i _ _ Q2.out.a;have s1:=heap_setCell_same w2 (w.heap.size+2) 0 _ _ (Value.slice ra2 nr rc2) Q2.out.a;have P3:Hid (PO ((w2.setCell ⟨w.heap.size+2,0,none⟩ (.slice ra2 nr rc2)).setCell ⟨w.heap.size+2,1,none⟩ (.slice (some ⟨gl2,0,none⟩) ln lc2)) (w.heap.size+4) (.slice ra2 nr rc2) S2 (.slice (some ⟨gl2,0,none⟩) ln lc2) L):=(P2.out.box Q2.out.a).box s1;have B3:Hid (Below w.heap.size w ((w2.setCell ⟨w.heap.size+2,0,none⟩ (.slice ra2 nr rc2)).setCell ⟨w.heap.size+2,1,none⟩ (.slice (some ⟨gl2,0,none⟩) ln lc2))):=(Q2.out.b.setCell (by simp) _).setCell (by simp) _;clear s1;go_wp2;refine bodyPost_ret (v:=.tuple #[.agg #[.slice ra2 nr rc2,.slice (some ⟨gl2,0,none⟩) ln lc2],.bool s9.f]) (by simp[results,Tryz.results26,go_sem,a0,a1,hsf]) rfl ?_;show yq0 _ _ _ _ _ _;exact⟨ra2,_,rc2,gl2,_,lc2,S2,by rw[hsf],B3.out,by have:=congrArg List.length HK2.out;simp only[List.length_map]at this;rw[this];rw[HRXE.out];exact HN.out,by rw[HLXE.out];exact HM.out,HK2.out,by rw[HLXE.out];exact P3.out.base (by omega)⟩
   ·have hRX:RX=wrL R (oneT R s9.s):=by rw[HRR.out,hsf];rfl
    have hLX:LX=zh7 L s9.s.1:=by rw[HLL.out,hsf];rfl
    obtain⟨sa,sc,e0⟩:=zn4 hPO.r;subst e e0;have hTN:(oneT R s9.s).ids≠[]/\(oneT R s9.s).ids.length<=13:=by
     have h2:=z31 (fun r hr=>(HI.out r hr).2.1) s9.s.2.1;refine⟨by unfold oneT insL;simp,?_⟩;unfold oneT insL;simp only[List.length_append,List.length_cons,List.length_take,List.length_drop];omega
    have HKX:Hid (RX.map RT.key=S.map RT.key):=by show _=_;rw[hRX,hky,zD9 HS.out hTN.1]
    have hlc:=z00 L s9.s.1;rw[HM.out]at hlc;obtain⟨LC,HLC⟩:=nmd (zh7 L s9.s.1);rw[HLC.out]at hPO hlc hLX Q1;have HLXE:Hid (LX=LC):=hLX;have hSl:S.length<=400:=by
     have h1:=congrArg List.length hky;simp only[List.length_map]at h1;have h2:=(zs6 R (oneT R s9.s)).2;rw[HN.out]at h2;omega
    have CC:=zo5 sa g 0 sc c S LC wr hPO.at (zi0 hPO.l) (by omega) (zV9 HI.out hTN hky) (by omega);obtain⟨nS,HNS⟩:=nmd S.length;obtain⟨nC,HNC⟩:=nmd LC.length;rw[HNS.out,HNC.out]at CC Q1;clear hRX hLX hPO hky hlc hSl hTN;obtain⟨q0,q1⟩:=za2 Q1.out.o
    go_wp2_with fail
    refine CC.mono ?_;rintro e w2 ⟨ra2,rc2,gl2,lc2,S2,rfl,hb,hk,ho⟩;rw[HNS.out,HNC.out]at ho;rw[HNS.out,HNC.out];have Q2:Hid (OQ w w2 #[.int .i64 n,.slice a zl cap,.slice ao ko co,.slice (some ⟨bv,ov,none⟩) kv cv,.int .i64 fine] #[.slice ra nr rc,.slice (some ⟨bl,ol,none⟩) ln lc] (.slice sa nS sc) (.slice (some ⟨g,0,none⟩) nC c)):=Q1.out.below hb;have P2:Hid (PO w2 (w.heap.size+4) (.slice ra2 nS rc2) S2 (.slice (some ⟨gl2,0,none⟩) nC lc2) LC):=ho.base (by have:=Q1.out.size;omega);have HK2:Hid (S2.map RT.key=RX.map RT.key):=by show _=_;rw[HKX.out];exact hk
    clear hb ho hk CC q0 q1;obtain⟨a0,a1⟩:=za2 Q2.out.a;have af:=fun i=>frozen_of_row _ _ i _ _ Q2.out.a;have s1:=heap_setCell_same w2 (w.heap.size+2) 0 _ _ (Value.slice ra2 nS rc2) Q2.out.a;have P3:Hid (PO ((w2.setCell ⟨w.heap.size+2,0,none⟩ (.slice ra2 nS rc2)).setCell ⟨w.heap.size+2,1,none⟩ (.slice (some ⟨gl2,0,none⟩) nC lc2)) (w.heap.size+4) (.slice ra2 nS rc2) S2 (.slice (some ⟨gl2,0,none⟩) nC lc2) LC):=(P2.out.box Q2.out.a).box s1;have B3:Hid (Below w.heap.size w ((w2.setCell ⟨w.heap.size+2,0,none⟩ (.slice ra2 nS rc2)).setCell ⟨w.heap.size+2,1,none⟩ (.slice (some ⟨gl2,0,none⟩) nC lc2))):=(Q2.out.b.setCell (by simp) _).setCell (by simp) _;clear s1;go_wp2;refine bodyPost_ret (v:=.tuple #[.agg #[.slice ra2 nS rc2,.slice (some ⟨gl2,0,none⟩) nC lc2],.bool s9.f]) (by simp[results,Tryz.results26,go_sem,a0,a1,hsf]) rfl ?_;show yq0 _ _ _ _ _ _;exact⟨ra2,_,rc2,gl2,_,lc2,S2,by rw[hsf],B3.out,by have:=congrArg List.length HK2.out;simp only[List.length_map]at this;rw[this];have h2:=congrArg List.length HKX.out;simp only[List.length_map]at h2;rw[h2];exact HNS.out,by rw[HLXE.out];exact HNC.out,HK2.out,by rw[HLXE.out];exact P3.out.base (by omega)⟩
end Go.Proofs.YtjobhigmdaiinaaGreat
