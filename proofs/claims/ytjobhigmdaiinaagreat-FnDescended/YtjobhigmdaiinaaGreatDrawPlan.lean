import Derived.Test.YtjobhigmdaiinaaGreatPack2
import Derived.Test.YtjobhigmdaiinaaGreatPack14
import Derived.Deep.RegionHeld3
import Derived.Deep.CutRange
namespace Go.Proofs.YtjobhigmdaiinaaGreat
open Go.RowKit
set_option maxRecDepth 10000 in
set_option maxHeartbeats 8000000 in
theorem ys0(P:Int->Prop)(q p c:Nat)(n fi:Int)(g zl cg go ko co gv kv cv:Nat)(zs O V:List Int)(a:Option Addr)(bs:List Int)(w:World)(h:RD w q a bs c p)(hZ:za0 w (some ⟨g,0,none⟩) zs)(hO:za0 w (some ⟨go,0,none⟩) O)(hV:za0 w (some ⟨gv,0,none⟩) V)(hgz:g≠q)(hgo:go≠q)(hgv:gv≠q)(hlz:zs.length=zl)(hlo:O.length=ko*6)(hlv:V.length=kv*5)(hk1:1<=ko)(hk2:ko<=12)(hv1:1<=kv)(hv2:kv<=5)(hwf:zc9 n zs O V ko kv fi=true->∀x∈yj8 O ko,-9223372036854775808<=x/\x<9223372036854775808)(hPO:∀y,y<ko->P (O.getD (y*6) 0))(hPN:∀x:Int,-9223372036854775808<=x->x<9223372036854775808->P x):
 Calls Tryz.prog 40 #[.pointer (some ⟨q,0,none⟩),.agg #[.int .i64 n,.slice (some ⟨g,0,none⟩) zl cg,.slice (some ⟨go,0,none⟩) ko co,.slice (some ⟨gv,0,none⟩) kv cv,.int .i64 fi]] w (zX6 P (zc9 n zs O V ko kv fi) w q a bs c):=by
 have HPO:Hid (∀y,y<ko->P (O.getD (y*6) 0)):=hPO;have HPN:Hid (∀x:Int,-9223372036854775808<=x->x<9223372036854775808->P x):=hPN;clear hPO hPN;have H:Hid (RD w q a bs c p):=h;have HZ:Hid (za0 w (some ⟨g,0,none⟩) zs/\g≠q):=⟨hZ,hgz⟩;have HO:Hid (za0 w (some ⟨go,0,none⟩) O/\go≠q):=⟨hO,hgo⟩;have HV:Hid (za0 w (some ⟨gv,0,none⟩) V/\gv≠q):=⟨hV,hgv⟩;have HLZ:Hid (zs.length=zl):=hlz;have HLO:Hid (O.length=ko*6):=hlo;have HLV:Hid (V.length=kv*5):=hlv;obtain⟨cb,HCB⟩:=nmd (zc9 n zs O V ko kv fi);rw[HCB.out];obtain⟨K,HK⟩:=nmd (if cb=true then ko else 0);obtain⟨X,HX⟩:=nmd (if cb=true then yj8 O ko else []);have HXK:Hid (X.length=K/\K<=12/\∀x∈X,-9223372036854775808<=x/\x<9223372036854775808):=by
  rw[<-HX.out,<-HK.out];cases hb:cb
  ·exact⟨rfl,by simp,fun x hx=>by simp at hx⟩
  ·simp only[if_true]
   exact⟨by simp[yj8],hk2,hwf (HCB.out.trans hb)⟩
 have hkX:=HXK.out.2.1;clear h hZ hO hV hgz hgo hgv hlz hlo hlv hwf;obtain⟨fv,HFV⟩:∃f:Nat->Int,Hid (∀y,V.getD (y*5) 0=f y):=⟨fun y=>V.getD (y*5) 0,fun _=>rfl⟩;have B0:Hid (Below w.heap.size w ((w.alloc (.cells #[.int .i64 n,.slice (some ⟨g,0,none⟩) zl cg,.slice (some ⟨go,0,none⟩) ko co,.slice (some ⟨gv,0,none⟩) kv cv,.int .i64 fi] 30)).alloc (.cells #[.slice none 0 0,.slice none 0 0] 33))):=((Below.refl _ _).alloc (Nat.le_refl _) _).alloc (by simp) _;have C0:Hid (((w.alloc (.cells #[.int .i64 n,.slice (some ⟨g,0,none⟩) zl cg,.slice (some ⟨go,0,none⟩) ko co,.slice (some ⟨gv,0,none⟩) kv cv,.int .i64 fi] 30)).alloc (.cells #[.slice none 0 0,.slice none 0 0] 33)).heap[w.heap.size]? =some (.cells #[.int .i64 n,.slice (some ⟨g,0,none⟩) zl cg,.slice (some ⟨go,0,none⟩) ko co,.slice (some ⟨gv,0,none⟩) kv cv,.int .i64 fi] 30 (0,0))):=heap_alloc2_old _ _ _;have A0:Hid (((w.alloc (.cells #[.int .i64 n,.slice (some ⟨g,0,none⟩) zl cg,.slice (some ⟨go,0,none⟩) ko co,.slice (some ⟨gv,0,none⟩) kv cv,.int .i64 fi] 30)).alloc (.cells #[.slice none 0 0,.slice none 0 0] 33)).heap[w.heap.size+1]? =some (.cells #[.slice none 0 0,.slice none 0 0] 33 (0,0))):=heap_alloc2_new _ _ _;go_enter Tryz.func40,Tryz.ntmps40;obtain⟨c0,c1,c2,c3,c4⟩:=zb8 C0.out;have C1:=zH1 n fi (some ⟨g,0,none⟩) (some ⟨go,0,none⟩) (some ⟨gv,0,none⟩) cg ko co kv cv zs O V ((w.alloc (.cells #[.int .i64 n,.slice (some ⟨g,0,none⟩) zl cg,.slice (some ⟨go,0,none⟩) ko co,.slice (some ⟨gv,0,none⟩) kv cv,.int .i64 fi] 30)).alloc (.cells #[.slice none 0 0,.slice none 0 0] 33)) (HZ.out.1.below B0.out) (HO.out.1.below B0.out) (HV.out.1.below B0.out) HLO.out HLV.out (by omega) (by omega) cb K X HCB.out HK.out HX.out;rw[HLZ.out]at C1
 go_wp2_with(first
  |(go_at_call 84
    go_must(refine C1.mono ?_)
    rintro e w1 ⟨sl,rfl,hb1,ho1⟩;obtain⟨la,lc0,e⟩:=zm3 ho1;subst e;have HLN:Hid (LN cb (.slice la K lc0)):=fun h=>by
     have hk:=HK.out;rw[if_pos h]at hk;rcases own_kinds ho1 with⟨_,e0⟩|⟨g9,c9,e9,-,-⟩
     ·omega
     ·exact⟨_,_,_,e9⟩
    have P1:Hid (PD w (w1.alloc (.cells #[.slice none 0 0,(.slice la K lc0)] 33)) q a bs c #[.int .i64 n,.slice (some ⟨g,0,none⟩) zl cg,.slice (some ⟨go,0,none⟩) ko co,.slice (some ⟨gv,0,none⟩) kv cv,.int .i64 fi] w1.heap.size (.slice none 0 0) (.slice la K lc0) [] X):=by
     have hb2:Below w.heap.size w w1:=B0.out.trans (hb1.mono B0.out.size);have ha:Below w1.heap.size w1 (w1.alloc (.cells #[.slice none 0 0,(.slice la K lc0)] 33)):=(Below.refl _ _).alloc (Nat.le_refl _) _;have hb3:=hb2.trans (ha.mono hb2.size);have hc:=za1 hb1 (za3 C0.out) C0.out;have hr:=za1 hb1 (za3 A0.out) A0.out;refine⟨zn5 (zq3 _ _) hb3,⟨p,H.out⟩,⟨p,H.out.below hb3⟩,za1 ha (za3 hc) hc,za1 ha (za3 hr) hr,heap_alloc_new _ _,za3 hr,⟨World.ownsRow_nil _ _ _ _,(fun s hs=>by cases hs),?_⟩⟩;rw[HXK.out.1];exact zc5 (ho1.alloc _) (by simp)
    obtain⟨pp,hpp⟩:=P1.out.r;clear hb1 ho1)
  |(go_at_call 43
    go_must(refine(zb0 q pp c 10 a bs (w1.alloc (.cells #[.slice none 0 0,(.slice la K lc0)] 33)) hpp (by omega)).mono ?_)
    rintro e w2 ⟨i0,p2,rfl,hy0,hy1,hr,hg⟩;have P2:Hid (PD w w2 q a bs c #[.int .i64 n,.slice (some ⟨g,0,none⟩) zl cg,.slice (some ⟨go,0,none⟩) ko co,.slice (some ⟨gv,0,none⟩) kv cv,.int .i64 fi] w1.heap.size (.slice none 0 0) (.slice la K lc0) [] X):=P1.out.read hr hg;obtain⟨i0,rfl⟩:=Int.eq_ofNat_of_zero_le hy0;have hi0:i0<=9:=by omega
    clear hr hg hy0 hy1 hpp))
 obtain⟨kp,HKP⟩:=nmd w1.heap.size;rw[HKP.out]at P2⊢;clear P1 C1 c0 c1 c2 c3 c4 B0 C0 A0;go_loopw[7] (fun t wr=>∃(j:Nat) (rs ls:Value) (R:List RT) (L:List Int),R.length+j<=9/\(∀r∈R,r.ids≠[]/\r.ids.length+j<=9)/\L.length<=12/\(∀x∈L,-9223372036854775808<=x/\x<9223372036854775808)/\t=.int .i64 j/\DJ R ls/\LN cb ls/\(∀r∈R,∀z∈r.ids,P z)/\PD w wr q a bs c #[.int .i64 n,.slice (some ⟨g,0,none⟩) zl cg,.slice (some ⟨go,0,none⟩) ko co,.slice (some ⟨gv,0,none⟩) kv cv,.int .i64 fi] kp rs ls R L) (fun t _=>(intOf t).toNat)
 case atStart=>exact⟨i0,_,_,[],X,by simpa using hi0,(fun r hr=>by cases hr),by rw[HXK.out.1];exact hkX,HXK.out.2.2,rfl,(fun s hs=>by cases hs),HLN.out,(fun s hs=>by cases hs),P2.out⟩
 case round=>
  clear P2;obtain⟨j,rs,ls,R,L,hRj,hri,hL12,hLw,rfl,hdj,hln,hrp,hd⟩:=hrel;have HLN2:Hid _:=hln;have HRP:Hid (∀r∈R,∀z∈r.ids,P z):=hrp;have HRI:Hid (∀r∈R,r.ids≠[]/\r.ids.length+j<=9):=hri;have HLW:Hid (∀x∈L,-9223372036854775808<=x/\x<9223372036854775808):=hLw;obtain⟨ra,rc,e⟩:=zm3 hd.po.r;subst e;obtain⟨la2,cl,e⟩:=zm3 hd.po.l;subst e;have D4:Hid (PD w wr q a bs c #[.int .i64 n,.slice (some ⟨g,0,none⟩) zl cg,.slice (some ⟨go,0,none⟩) ko co,.slice (some ⟨gv,0,none⟩) kv cv,.int .i64 fi] kp (.slice ra R.length rc) (.slice la2 L.length cl) R L):=hd;have HDJ:Hid (DJ R (.slice la2 L.length cl)):=hdj;clear hd hri hLw hdj hrp hln;obtain⟨nr,HNR⟩:=nmd R.length;obtain⟨m,HM⟩:=nmd L.length;rw[HNR.out]at hRj D4;rw[HM.out]at hL12 D4 HDJ;obtain⟨p0,p1⟩:=za2 D4.out.bp;obtain⟨c0,c1,c2,c3,c4⟩:=zb8 D4.out.bc;have hvI:(0:Int)<(kv:Int):=by omega
  by_cases hcond:0<j/\cb=true/\0<m
  ·obtain⟨hj,hcb,hm⟩:=hcond
   subst hcb;have hjI:(0:Int)<(j:Int):=by omega
   have hmI:(0:Int)<(m:Int):=by omega
   obtain⟨gl,e⟩:∃gl,la2=some ⟨gl,0,none⟩:=by
    rcases own_kinds D4.out.po.l with⟨_,e0⟩|⟨gl,c',e,_,_⟩
    ·rw[HM.out]at e0;omega
    ·simp only[Value.slice.injEq]at e;exact⟨gl,e.1⟩
   subst e;obtain⟨fl,HFL⟩:∃f:Nat->Int,Hid (∀y,L.getD y 0=f y):=⟨fun y=>L.getD y 0,fun _=>rfl⟩;obtain⟨p4,hr4⟩:=D4.out.r;have R4:Hid (RD wr q a bs c p4):=hr4;clear hr4;have kS:=(D4.out.below (Below.refl _ _).drew).keepL HM.out HFL.out
   go_wp2_with fail
   go_region_held3 (fun W=>W.cell? ⟨kp,1,none⟩=some (.slice (some ⟨gl,0,none⟩) m cl)/\∀y:Nat,y<m->W.cell? ⟨gl,y,none⟩=some (.int .i64 (fl y))) (first|with_reducible exact kS|go_keep) ((first
    |(go_at_call 43
      with_reducible refine(zb0 q p4 c m a bs wr.drew (R4.out.below (Below.refl _ _).drew) (by omega)).mono ?_
      rintro e w5 ⟨y,p5,rfl,hy0,hy1,hr,hg⟩;obtain⟨y,rfl⟩:=Int.eq_ofNat_of_zero_le hy0;have hyv:y<m:=by omega
      have hyI:(y:Int)<(m:Int):=by omega
      have D5:Hid (PD w w5 q a bs c #[.int .i64 n,.slice (some ⟨g,0,none⟩) zl cg,.slice (some ⟨go,0,none⟩) ko co,.slice (some ⟨gv,0,none⟩) kv cv,.int .i64 fi] kp (.slice ra nr rc) (.slice (some ⟨gl,0,none⟩) m cl) R L):=(D4.out.below (Below.refl _ _).drew).read hr hg;have kS:=D5.out.keepL HM.out HFL.out;clear hr hg hy0 hy1)))
   obtain⟨id,HID⟩:=nmd (fl y);rw[HID.out];have HPI:Hid (P id):=by
    show P id;have hmem:id∈L:=by
     rw[<-HID.out,<-HFL.out y,List.getD_eq_getElem?_getD,List.getElem?_eq_getElem (by rw[HM.out];exact hyv)];simp
    exact HPN.out id (HLW.out id hmem).1 (HLW.out id hmem).2
   clear D4 R4 kS hyv hyI p0 p1 c0 c1 c2 c3 c4;go_upto_region 6 with fail;go_cut [9]from 20 to 82 (fun s9 wx=>∃(kx:Nat) (v6:Int) (x6:RT),s9=.pointer (some ⟨kx,0,none⟩)/\zc8 R v6=x6/\w.heap.size+1<kx/\PD w wx q a bs c #[.int .i64 n,.slice (some ⟨g,0,none⟩) zl cg,.slice (some ⟨go,0,none⟩) ko co,.slice (some ⟨gv,0,none⟩) kv cv,.int .i64 fi] kp (.slice ra nr rc) (.slice (some ⟨gl,0,none⟩) m cl) R L/\wx.heap[kx]? =some (.cells #[.int .i64 v6,.slice x6.a x6.ids.length x6.c] 43 (0,0)))
   case first=>
    have kS:=(D5.out.below (Below.refl _ _).drew).keepV HV.out HLV.out HFV.out;refine wp_region_held_drew (S:=(fun W=>W.cell? ⟨kp,0,none⟩=some (.slice ra nr rc)/\W.cell? ⟨kp,1,none⟩=some (.slice (some ⟨gl,0,none⟩) m cl)/\W.cell? ⟨w.heap.size,3,none⟩=some (.slice (some ⟨gv,0,none⟩) kv cv)/\∀y:Nat,y<kv->W.cell? ⟨gv,y*5,none⟩=some (.int .i64 (fv y)))) (by kernel_rfl) ?_ (fun hHeld=> ?_)
    ·exact kS
    have D1:Hid (PD w w5.drew q a bs c #[.int .i64 n,.slice (some ⟨g,0,none⟩) zl cg,.slice (some ⟨go,0,none⟩) ko co,.slice (some ⟨gv,0,none⟩) kv cv,.int .i64 fi] kp (.slice ra nr rc) (.slice (some ⟨gl,0,none⟩) m cl) R L):=D5.out.below (Below.refl _ _).drew;clear D5;generalize w5.drew=W1 at*;refine tkH 0 hHeld ?_;refine tkH 1 hHeld ?_;refine tkH 2 hHeld ?_;refine tkH 3 hHeld ?_;refine tkH 4 hHeld ?_;refine tkH 5 hHeld ?_;refine tkH 6 hHeld ?_;refine wpAnyH_ready (rs:=[7,12]) (by kernel_rfl) (by simp) ?_;refine AllReadyH.cons rfl (fun K hK=> ?_) ?_
    ·skip
     obtain⟨pb,hrb⟩:=D1.out.r;go_simp;refine(zb0 q pb c kv a bs _ hrb (by omega)).mono ?_;rintro e wb ⟨y6,p6,rfl,hy0,hy1,hr,hg⟩;obtain⟨y6,rfl⟩:=Int.eq_ofNat_of_zero_le hy0;have hyv:y6<kv:=by omega
     have hyI:(y6:Int)<(kv:Int):=by omega
     have Db:Hid (PD w wb q a bs c #[.int .i64 n,.slice (some ⟨g,0,none⟩) zl cg,.slice (some ⟨go,0,none⟩) ko co,.slice (some ⟨gv,0,none⟩) kv cv,.int .i64 fi] kp (.slice ra nr rc) (.slice (some ⟨gl,0,none⟩) m cl) R L):=D1.out.read hr hg;clear hr hg hy0 hy1 hrb
     (try go_wp2_with fail)
     refine hK.out _ _ ?_ (fun hHeld=> ?_)
     ·exact Db.out.keepV HV.out HLV.out HFV.out
     clear hK K
     (try simp only[Act.put,List.setIfInBounds_toArray,List.set_cons_zero,List.set_cons_succ])
     refine tkH 8 hHeld ?_;refine tkH 9 hHeld ?_;refine tkH 10 hHeld ?_;refine wpAnyH_ready (rs:=[11,12]) (by kernel_rfl) (by simp) ?_;refine AllReadyH.cons rfl (fun K hK=> ?_) ?_
     ·skip
      obtain⟨x6,HX6⟩:=nmd (zc8 R (fv y6));have hR6:za6 wb ra R:=by
       have hpo:=Db.out.po;rw[<-HNR.out]at hpo;exact hpo.at
      go_simp;refine(z17 ra (some ⟨gl,0,none⟩) rc m cl nr R (fv y6) x6 _ hR6 (by rw[HNR.out];omega) HNR.out HX6.out).mono ?_;rintro e wl ⟨rfl,hb⟩;have Dl:Hid (PD w wl q a bs c #[.int .i64 n,.slice (some ⟨g,0,none⟩) zl cg,.slice (some ⟨go,0,none⟩) ko co,.slice (some ⟨gv,0,none⟩) kv cv,.int .i64 fi] kp (.slice ra nr rc) (.slice (some ⟨gl,0,none⟩) m cl) R L):=Db.out.below hb;clear hb hR6
      (try go_wp2_with fail)
      refine hK.out _ _ ?_ (fun hHeld=> ?_)
      ·exact Dl.out.keepV HV.out HLV.out HFV.out
      clear hK K
      (try simp only[Act.put,List.setIfInBounds_toArray,List.set_cons_zero,List.set_cons_succ])
      refine wpAnyH_ready (rs:=[12]) (by kernel_rfl) (by simp) ?_;refine AllReadyH.cons rfl (fun K hK=> ?_) AllReadyH.nil;have Da:Hid (PD w (wl.alloc (.cells #[.int .i64 0,.slice none 0 0] 43)) q a bs c #[.int .i64 n,.slice (some ⟨g,0,none⟩) zl cg,.slice (some ⟨go,0,none⟩) ko co,.slice (some ⟨gv,0,none⟩) kv cv,.int .i64 fi] kp (.slice ra nr rc) (.slice (some ⟨gl,0,none⟩) m cl) R L):=Dl.out.below ((Below.refl _ _).alloc (Nat.le_refl _) _);have BX:Hid ((wl.alloc (.cells #[.int .i64 0,.slice none 0 0] 43)).heap[wl.heap.size]? =some (.cells #[.int .i64 0,.slice none 0 0] 43 (0,0))):=heap_alloc_new _ _;have HNX:Hid (((.slice ra nr rc):Value).ownBlock≠some wl.heap.size):=fun e=>Nat.lt_irrefl _ (Dl.out.po.r.lt _ e).2;have hkx:w.heap.size+1<wl.heap.size:=by have:=Dl.out.size;omega
      go_simp;refine hK.out _ _ ?_ (fun hHeld=> ?_)
      ·exact Da.out.keepV HV.out HLV.out HFV.out
      clear hK K;obtain⟨kx,HKX⟩:=nmd wl.heap.size;rw[HKX.out]at BX HNX hkx⊢;generalize wl.alloc (.cells #[.int .i64 0,.slice none 0 0] 43)=Wa at*;refine wpAnyH_ready (rs:=[13]) (by kernel_rfl) (by simp) ?_;refine AllReadyH.cons rfl (fun K hK=> ?_) AllReadyH.nil;obtain⟨z0,z1⟩:=za2 BX.out;have zf:=fun i=>frozen_of_row _ _ i _ _ BX.out;have Ds:Hid (PD w ((Wa.setCell ⟨kx,0,none⟩ (.int .i64 (fv y6))).setCell ⟨kx,1,none⟩ (.slice x6.a x6.ids.length x6.c)) q a bs c #[.int .i64 n,.slice (some ⟨g,0,none⟩) zl cg,.slice (some ⟨go,0,none⟩) ko co,.slice (some ⟨gv,0,none⟩) kv cv,.int .i64 fi] kp (.slice ra nr rc) (.slice (some ⟨gl,0,none⟩) m cl) R L):=Da.out.setX BX.out hkx HNX.out;have BS:Hid (((Wa.setCell ⟨kx,0,none⟩ (.int .i64 (fv y6))).setCell ⟨kx,1,none⟩ (.slice x6.a x6.ids.length x6.c)).heap[kx]? =some (.cells #[.int .i64 (fv y6),.slice x6.a x6.ids.length x6.c] 43 (0,0))):=z15 (xs:=(_,_)) BX.out;go_simp;refine hK.out _ _ ?_ (fun hHeld=> ?_)
      ·exact Ds.out.keepV HV.out HLV.out HFV.out
      clear hK K;refine wpAnyH_done (by kernel_rfl) ?_ _
      (try go_wp2_with fail)
      go_meet;exact⟨kx,fv y6,x6,rfl,HX6.out,hkx,Ds.out,BS.out⟩
     refine AllReadyH.cons rfl (fun K hK=> ?_) AllReadyH.nil;have Da:Hid (PD w (wb.alloc (.cells #[.int .i64 0,.slice none 0 0] 43)) q a bs c #[.int .i64 n,.slice (some ⟨g,0,none⟩) zl cg,.slice (some ⟨go,0,none⟩) ko co,.slice (some ⟨gv,0,none⟩) kv cv,.int .i64 fi] kp (.slice ra nr rc) (.slice (some ⟨gl,0,none⟩) m cl) R L):=Db.out.below ((Below.refl _ _).alloc (Nat.le_refl _) _);have BX:Hid ((wb.alloc (.cells #[.int .i64 0,.slice none 0 0] 43)).heap[wb.heap.size]? =some (.cells #[.int .i64 0,.slice none 0 0] 43 (0,0))):=heap_alloc_new _ _;have HNX:Hid (((.slice ra nr rc):Value).ownBlock≠some wb.heap.size):=fun e=>Nat.lt_irrefl _ (Db.out.po.r.lt _ e).2;have hkx:w.heap.size+1<wb.heap.size:=by have:=Db.out.size;omega
     go_simp;refine hK.out _ _ ?_ (fun hHeld=> ?_)
     ·exact Da.out.keepV HV.out HLV.out HFV.out
     clear hK K;obtain⟨kx,HKX⟩:=nmd wb.heap.size;rw[HKX.out]at BX HNX hkx⊢;generalize wb.alloc (.cells #[.int .i64 0,.slice none 0 0] 43)=Wa at*;refine wpAnyH_ready (rs:=[11]) (by kernel_rfl) (by simp) ?_;refine AllReadyH.cons rfl (fun K hK=> ?_) AllReadyH.nil;obtain⟨x6,HX6⟩:=nmd (zc8 R (fv y6));have hR6:za6 Wa ra R:=by
      have hpo:=Da.out.po;rw[<-HNR.out]at hpo;exact hpo.at
     go_simp;refine(z17 ra (some ⟨gl,0,none⟩) rc m cl nr R (fv y6) x6 _ hR6 (by rw[HNR.out];omega) HNR.out HX6.out).mono ?_;rintro e wl ⟨rfl,hb⟩;have Dl:Hid (PD w wl q a bs c #[.int .i64 n,.slice (some ⟨g,0,none⟩) zl cg,.slice (some ⟨go,0,none⟩) ko co,.slice (some ⟨gv,0,none⟩) kv cv,.int .i64 fi] kp (.slice ra nr rc) (.slice (some ⟨gl,0,none⟩) m cl) R L):=Da.out.below hb;have BX:Hid (wl.heap[kx]? =some (.cells #[.int .i64 0,.slice none 0 0] 43 (0,0))):=za1 hb (za3 BX.out) BX.out;clear hb hR6
     (try go_wp2_with fail)
     refine hK.out _ _ ?_ (fun hHeld=> ?_)
     ·exact Dl.out.keepV HV.out HLV.out HFV.out
     clear hK K
     (try simp only[Act.put,List.setIfInBounds_toArray,List.set_cons_zero,List.set_cons_succ])
     refine wpAnyH_ready (rs:=[13]) (by kernel_rfl) (by simp) ?_;refine AllReadyH.cons rfl (fun K hK=> ?_) AllReadyH.nil;obtain⟨z0,z1⟩:=za2 BX.out;have zf:=fun i=>frozen_of_row _ _ i _ _ BX.out;have Ds:Hid (PD w ((wl.setCell ⟨kx,0,none⟩ (.int .i64 (fv y6))).setCell ⟨kx,1,none⟩ (.slice x6.a x6.ids.length x6.c)) q a bs c #[.int .i64 n,.slice (some ⟨g,0,none⟩) zl cg,.slice (some ⟨go,0,none⟩) ko co,.slice (some ⟨gv,0,none⟩) kv cv,.int .i64 fi] kp (.slice ra nr rc) (.slice (some ⟨gl,0,none⟩) m cl) R L):=Dl.out.setX BX.out hkx HNX.out;have BS:Hid (((wl.setCell ⟨kx,0,none⟩ (.int .i64 (fv y6))).setCell ⟨kx,1,none⟩ (.slice x6.a x6.ids.length x6.c)).heap[kx]? =some (.cells #[.int .i64 (fv y6),.slice x6.a x6.ids.length x6.c] 43 (0,0))):=z15 (xs:=(_,_)) BX.out;go_simp;refine hK.out _ _ ?_ (fun hHeld=> ?_)
     ·exact Ds.out.keepV HV.out HLV.out HFV.out
     clear hK K;refine wpAnyH_done (by kernel_rfl) ?_ _
     (try go_wp2_with fail)
     go_meet;exact⟨kx,fv y6,x6,rfl,HX6.out,hkx,Ds.out,BS.out⟩
    refine AllReadyH.cons rfl (fun K hK=> ?_) AllReadyH.nil;have Da:Hid (PD w (W1.alloc (.cells #[.int .i64 0,.slice none 0 0] 43)) q a bs c #[.int .i64 n,.slice (some ⟨g,0,none⟩) zl cg,.slice (some ⟨go,0,none⟩) ko co,.slice (some ⟨gv,0,none⟩) kv cv,.int .i64 fi] kp (.slice ra nr rc) (.slice (some ⟨gl,0,none⟩) m cl) R L):=D1.out.below ((Below.refl _ _).alloc (Nat.le_refl _) _);have BX:Hid ((W1.alloc (.cells #[.int .i64 0,.slice none 0 0] 43)).heap[W1.heap.size]? =some (.cells #[.int .i64 0,.slice none 0 0] 43 (0,0))):=heap_alloc_new _ _;have HNX:Hid (((.slice ra nr rc):Value).ownBlock≠some W1.heap.size):=fun e=>Nat.lt_irrefl _ (D1.out.po.r.lt _ e).2;have hkx:w.heap.size+1<W1.heap.size:=by have:=D1.out.size;omega
    go_simp;refine hK.out _ _ ?_ (fun hHeld=> ?_)
    ·exact Da.out.keepV HV.out HLV.out HFV.out
    clear hK K;obtain⟨kx,HKX⟩:=nmd W1.heap.size;rw[HKX.out]at BX HNX hkx⊢;generalize W1.alloc (.cells #[.int .i64 0,.slice none 0 0] 43)=Wa at*;refine wpAnyH_ready (rs:=[7]) (by kernel_rfl) (by simp) ?_;refine AllReadyH.cons rfl (fun K hK=> ?_) AllReadyH.nil;obtain⟨pb,hrb⟩:=Da.out.r;go_simp;refine(zb0 q pb c kv a bs _ hrb (by omega)).mono ?_;rintro e wb ⟨y6,p6,rfl,hy0,hy1,hr,hg⟩;obtain⟨y6,rfl⟩:=Int.eq_ofNat_of_zero_le hy0;have hyv:y6<kv:=by omega
    have hyI:(y6:Int)<(kv:Int):=by omega
    have Db:Hid (PD w wb q a bs c #[.int .i64 n,.slice (some ⟨g,0,none⟩) zl cg,.slice (some ⟨go,0,none⟩) ko co,.slice (some ⟨gv,0,none⟩) kv cv,.int .i64 fi] kp (.slice ra nr rc) (.slice (some ⟨gl,0,none⟩) m cl) R L):=Da.out.read hr hg;have BX:Hid (wb.heap[kx]? =some (.cells #[.int .i64 0,.slice none 0 0] 43 (0,0))):=za5 hg BX.out (fun e=>by injection e with e;have:=Db.out.lt;omega);clear hr hg hy0 hy1 hrb
    (try go_wp2_with fail)
    refine hK.out _ _ ?_ (fun hHeld=> ?_)
    ·exact Db.out.keepV HV.out HLV.out HFV.out
    clear hK K
    (try simp only[Act.put,List.setIfInBounds_toArray,List.set_cons_zero,List.set_cons_succ])
    refine tkH 8 hHeld ?_;refine tkH 9 hHeld ?_;refine tkH 10 hHeld ?_;refine wpAnyH_ready (rs:=[11]) (by kernel_rfl) (by simp) ?_;refine AllReadyH.cons rfl (fun K hK=> ?_) AllReadyH.nil;obtain⟨x6,HX6⟩:=nmd (zc8 R (fv y6));have hR6:za6 wb ra R:=by
     have hpo:=Db.out.po;rw[<-HNR.out]at hpo;exact hpo.at
    go_simp;refine(z17 ra (some ⟨gl,0,none⟩) rc m cl nr R (fv y6) x6 _ hR6 (by rw[HNR.out];omega) HNR.out HX6.out).mono ?_;rintro e wl ⟨rfl,hb⟩;have Dl:Hid (PD w wl q a bs c #[.int .i64 n,.slice (some ⟨g,0,none⟩) zl cg,.slice (some ⟨go,0,none⟩) ko co,.slice (some ⟨gv,0,none⟩) kv cv,.int .i64 fi] kp (.slice ra nr rc) (.slice (some ⟨gl,0,none⟩) m cl) R L):=Db.out.below hb;have BX:Hid (wl.heap[kx]? =some (.cells #[.int .i64 0,.slice none 0 0] 43 (0,0))):=za1 hb (za3 BX.out) BX.out;clear hb hR6
    (try go_wp2_with fail)
    refine hK.out _ _ ?_ (fun hHeld=> ?_)
    ·exact Dl.out.keepV HV.out HLV.out HFV.out
    clear hK K
    (try simp only[Act.put,List.setIfInBounds_toArray,List.set_cons_zero,List.set_cons_succ])
    refine wpAnyH_ready (rs:=[13]) (by kernel_rfl) (by simp) ?_;refine AllReadyH.cons rfl (fun K hK=> ?_) AllReadyH.nil;obtain⟨z0,z1⟩:=za2 BX.out;have zf:=fun i=>frozen_of_row _ _ i _ _ BX.out;have Ds:Hid (PD w ((wl.setCell ⟨kx,0,none⟩ (.int .i64 (fv y6))).setCell ⟨kx,1,none⟩ (.slice x6.a x6.ids.length x6.c)) q a bs c #[.int .i64 n,.slice (some ⟨g,0,none⟩) zl cg,.slice (some ⟨go,0,none⟩) ko co,.slice (some ⟨gv,0,none⟩) kv cv,.int .i64 fi] kp (.slice ra nr rc) (.slice (some ⟨gl,0,none⟩) m cl) R L):=Dl.out.setX BX.out hkx HNX.out;have BS:Hid (((wl.setCell ⟨kx,0,none⟩ (.int .i64 (fv y6))).setCell ⟨kx,1,none⟩ (.slice x6.a x6.ids.length x6.c)).heap[kx]? =some (.cells #[.int .i64 (fv y6),.slice x6.a x6.ids.length x6.c] 43 (0,0))):=z15 (xs:=(_,_)) BX.out;go_simp;refine hK.out _ _ ?_ (fun hHeld=> ?_)
    ·exact Ds.out.keepV HV.out HLV.out HFV.out
    clear hK K;refine wpAnyH_done (by kernel_rfl) ?_ _
    (try go_wp2_with fail)
    go_meet;exact⟨kx,fv y6,x6,rfl,HX6.out,hkx,Ds.out,BS.out⟩
   case rest=>
    clear D5;obtain⟨kx,v6,x6,rfl,hx6,hkx,hd,hbx⟩:=hcut;have D6:Hid (PD w wc q a bs c #[.int .i64 n,.slice (some ⟨g,0,none⟩) zl cg,.slice (some ⟨go,0,none⟩) ko co,.slice (some ⟨gv,0,none⟩) kv cv,.int .i64 fi] kp (.slice ra nr rc) (.slice (some ⟨gl,0,none⟩) m cl) R L):=hd;have HXX:Hid ((x6.a=none/\x6.ids=[]/\x6.c=0)∨((∃gx,x6.a=some ⟨gx,0,none⟩)/\x6∈R)):=by
     rcases zu3 R v6 with hm6|hm6
     ·rw[hx6]at hm6
      refine .inr ⟨?_,hm6⟩;rcases own_kinds (D6.out.po.s x6 hm6)with⟨_,e0⟩|⟨gx,c',e,_,_⟩
      ·exact absurd (List.length_eq_zero_iff.1 e0) (HRI.out x6 hm6).1
      ·simp only[Value.slice.injEq]at e;exact⟨gx,e.1⟩
     ·rw[hx6]at hm6
      rw[hm6];exact .inl ⟨rfl,rfl,rfl⟩
    have hx9:x6.ids.length+j<=9:=by
     rcases HXX.out with⟨_,e,_⟩|⟨_,hm6⟩
     ·rw[e];simp;omega
     ·exact(HRI.out x6 hm6).2
    have HAT:Hid (∀W,PD w W q a bs c #[.int .i64 n,.slice (some ⟨g,0,none⟩) zl cg,.slice (some ⟨go,0,none⟩) ko co,.slice (some ⟨gv,0,none⟩) kv cv,.int .i64 fi] kp (.slice ra nr rc) (.slice (some ⟨gl,0,none⟩) m cl) R L->((x6.a=none/\x6.ids=[]/\x6.c=0)∨((∃gx,x6.a=some ⟨gx,0,none⟩)/\za0 W x6.a x6.ids/\x6.ids.length<=x6.c))):=fun W hW=>HXX.out.imp (fun h=>h) (fun h=>⟨h.1,hW.po.ints x6 h.2⟩);have HXP:Hid (∀z∈x6.ids,P z):=by
     rcases HXX.out with⟨_,e,_⟩|⟨_,hm6⟩
     ·intro z hz6;rw[e]at hz6;cases hz6
     ·exact HRP.out x6 hm6
    obtain⟨xl,HXL⟩:=nmd x6.ids.length;rw[HXL.out]at hbx hx9;have BX6:Hid (wc.heap[kx]? =some (.cells #[.int .i64 v6,.slice x6.a xl x6.c] 43 (0,0))):=hbx;clear hd hbx HXX hx6;have hwr:IntKind.i64.wrap ((xl:Int)+1)=(xl:Int)+1:=by rw[IntKind.wrap_i64];omega
    go_upto_region 7 with fail;go_cut [10,11,12]from 20 to 82 (fun s10 s11 s12 wx=>∃(kn:Nat) (vn Dv:Int) (ch:Bool) (ad:Option Addr) (ca:Nat) (xs:List Int),s10=.pointer (some ⟨kn,0,none⟩)/\s11=.int .i64 Dv/\s12=.bool ch/\(ch=true->xs.length=xl+1/\∀z∈xs,z∈x6.ids∨z=id)/\PD w wx q a bs c #[.int .i64 n,.slice (some ⟨g,0,none⟩) zl cg,.slice (some ⟨go,0,none⟩) ko co,.slice (some ⟨gv,0,none⟩) kv cv,.int .i64 fi] kp (.slice ra nr rc) (.slice (some ⟨gl,0,none⟩) m cl) R L/\wx.heap[kn]? =some (.cells #[.int .i64 vn,.slice ad xs.length ca] 43 (0,0))/\wx.ownsRow (w.heap.size+2) 2 1 (.slice ad xs.length ca) xs.length (xs.map (Value.int .i64)))
    case first=>
     have kS:=(D6.out.below (Below.refl _ _).drew).keep7 (za1 (Below.refl _ _).drew (za3 BX6.out) BX6.out);refine wp_region_held_drew (S:=(fun W=>W.cell? ⟨w.heap.size,0,none⟩=some (.int .i64 n)/\W.cell? ⟨w.heap.size,1,none⟩=some (.slice (some ⟨g,0,none⟩) zl cg)/\W.cell? ⟨w.heap.size,2,none⟩=some (.slice (some ⟨go,0,none⟩) ko co)/\W.cell? ⟨w.heap.size,3,none⟩=some (.slice (some ⟨gv,0,none⟩) kv cv)/\W.cell? ⟨w.heap.size,4,none⟩=some (.int .i64 fi)/\W.cell? ⟨kx,0,none⟩=some (.int .i64 v6)/\W.cell? ⟨kx,1,none⟩=some (.slice x6.a xl x6.c))) (by kernel_rfl) ?_ (fun hHeld=> ?_)
     ·exact kS
     have D1:Hid (PD w wc.drew q a bs c #[.int .i64 n,.slice (some ⟨g,0,none⟩) zl cg,.slice (some ⟨go,0,none⟩) ko co,.slice (some ⟨gv,0,none⟩) kv cv,.int .i64 fi] kp (.slice ra nr rc) (.slice (some ⟨gl,0,none⟩) m cl) R L):=D6.out.below (Below.refl _ _).drew;have X1:Hid (wc.drew.heap[kx]? =some (.cells #[.int .i64 v6,.slice x6.a xl x6.c] 43 (0,0))):=za1 (Below.refl _ _).drew (za3 BX6.out) BX6.out;clear D6 BX6;generalize wc.drew=W1 at*;refine tkH 0 hHeld ?_;refine tkH 1 hHeld ?_;refine tkH 2 hHeld ?_;refine tkH 3 hHeld ?_;refine tkH 4 hHeld ?_;refine tkH 5 hHeld ?_;refine tkH 6 hHeld ?_;refine tkH 7 hHeld ?_;refine wpAnyH_ready (rs:=[8,14]) (by kernel_rfl) (by simp) ?_;refine AllReadyH.cons rfl (fun K hK=> ?_) ?_
     ·skip
      obtain⟨pb,hrb⟩:=D1.out.r;go_simp;refine(zb0 q pb c ((xl:Int)+1) a bs _ hrb (by omega)).mono ?_;rintro e wb ⟨y7,p7,rfl,hy0,hy1,hr,hg⟩;have HY7:Hid (0<=y7/\y7<=(xl:Int)):=⟨hy0,by omega⟩;have Db:Hid (PD w wb q a bs c #[.int .i64 n,.slice (some ⟨g,0,none⟩) zl cg,.slice (some ⟨go,0,none⟩) ko co,.slice (some ⟨gv,0,none⟩) kv cv,.int .i64 fi] kp (.slice ra nr rc) (.slice (some ⟨gl,0,none⟩) m cl) R L):=D1.out.read hr hg;have XB:Hid (wb.heap[kx]? =some (.cells #[.int .i64 v6,.slice x6.a xl x6.c] 43 (0,0))):=za5 hg X1.out (fun e=>by injection e with e;have:=Db.out.lt;omega);clear hr hg hy0 hy1 hrb
      (try go_wp2_with fail)
      refine hK.out _ _ ?_ (fun hHeld=> ?_)
      ·exact Db.out.keep7 XB.out
      clear hK K
      (try simp only[Act.put,List.setIfInBounds_toArray,List.set_cons_zero,List.set_cons_succ])
      refine wpAnyH_ready (rs:=[9,14]) (by kernel_rfl) (by simp) ?_;refine AllReadyH.cons rfl (fun K hK=> ?_) ?_
      ·skip
       have C7:=zt4 n fi v6 g zl cg go ko co gv kv cv zs O V x6 wb (Db.out.ints HZ.out.1 HZ.out.2) (Db.out.ints HO.out.1 HO.out.2) (Db.out.ints HV.out.1 HV.out.2) HLZ.out HLO.out HLV.out hk2 hv2 (HAT.out _ Db.out) (by rw[HXL.out];omega) id y7 (by rw[HXL.out];exact HY7.out);rw[HXL.out]at C7;go_simp;refine C7.mono ?_;rintro e wi ⟨ch,Dv,xs,⟨hb,ad,ca,rfl,ho⟩,hlen⟩;have HLN:Hid (ch=true->xs.length=xl+1/\∀z∈xs,z∈x6.ids∨z=id):=hlen;have Di:Hid (PD w wi q a bs c #[.int .i64 n,.slice (some ⟨g,0,none⟩) zl cg,.slice (some ⟨go,0,none⟩) ko co,.slice (some ⟨gv,0,none⟩) kv cv,.int .i64 fi] kp (.slice ra nr rc) (.slice (some ⟨gl,0,none⟩) m cl) R L):=Db.out.below hb;have XI:Hid (wi.heap[kx]? =some (.cells #[.int .i64 v6,.slice x6.a xl x6.c] 43 (0,0))):=za1 hb (za3 XB.out) XB.out;have OI:Hid (World.ownsRow wi (w.heap.size+2) 2 1 (.slice ad xs.length ca) xs.length (xs.map (Value.int .i64))):=zc5 ho (by have:=Db.out.size;omega);clear hb ho hlen C7
       (try go_wp2_with fail)
       refine hK.out _ _ ?_ (fun hHeld=> ?_)
       ·exact Di.out.keep7 XI.out
       clear hK K
       (try simp only[Act.put,List.setIfInBounds_toArray,List.set_cons_zero,List.set_cons_succ])
       refine tkH 10 hHeld ?_;refine tkH 11 hHeld ?_;refine tkH 12 hHeld ?_;refine tkH 13 hHeld ?_;refine wpAnyH_ready (rs:=[14]) (by kernel_rfl) (by simp) ?_;refine AllReadyH.cons rfl (fun K hK=> ?_) AllReadyH.nil;have Da:Hid (PD w (wi.alloc (.cells #[.int .i64 0,.slice none 0 0] 43)) q a bs c #[.int .i64 n,.slice (some ⟨g,0,none⟩) zl cg,.slice (some ⟨go,0,none⟩) ko co,.slice (some ⟨gv,0,none⟩) kv cv,.int .i64 fi] kp (.slice ra nr rc) (.slice (some ⟨gl,0,none⟩) m cl) R L):=Di.out.below ((Below.refl _ _).alloc (Nat.le_refl _) _);have XA:Hid ((wi.alloc (.cells #[.int .i64 0,.slice none 0 0] 43)).heap[kx]? =some (.cells #[.int .i64 v6,.slice x6.a xl x6.c] 43 (0,0))):=za1 ((Below.refl _ _).alloc (Nat.le_refl _) _) (za3 XI.out) XI.out;have BN:Hid ((wi.alloc (.cells #[.int .i64 0,.slice none 0 0] 43)).heap[wi.heap.size]? =some (.cells #[.int .i64 0,.slice none 0 0] 43 (0,0))):=heap_alloc_new _ _;have HNN:Hid (((.slice ra nr rc):Value).ownBlock≠some wi.heap.size):=fun e=>Nat.lt_irrefl _ (Di.out.po.r.lt _ e).2;have HXN:Hid (kx<wi.heap.size):=za3 XI.out;have hkn:w.heap.size+1<wi.heap.size:=by have:=Di.out.size;omega
       have OI:Hid (World.ownsRow (wi.alloc (.cells #[.int .i64 0,.slice none 0 0] 43)) (w.heap.size+2) 2 1 (.slice ad xs.length ca) xs.length (xs.map (Value.int .i64))):=OI.out.alloc _;go_simp;refine hK.out _ _ ?_ (fun hHeld=> ?_)
       ·exact Da.out.keep7 XA.out
       clear hK K;obtain⟨kn,HKN⟩:=nmd wi.heap.size;rw[HKN.out]at BN HNN HXN hkn⊢;generalize wi.alloc (.cells #[.int .i64 0,.slice none 0 0] 43)=Wa at*;refine wpAnyH_ready (rs:=[15]) (by kernel_rfl) (by simp) ?_;refine AllReadyH.cons rfl (fun K hK=> ?_) AllReadyH.nil;obtain⟨z0,z1⟩:=za2 BN.out;have zf:=fun i=>frozen_of_row _ _ i _ _ BN.out;have Ds:Hid (PD w ((Wa.setCell ⟨kn,0,none⟩ (.int .i64 (chI ch v6))).setCell ⟨kn,1,none⟩ (.slice ad xs.length ca)) q a bs c #[.int .i64 n,.slice (some ⟨g,0,none⟩) zl cg,.slice (some ⟨go,0,none⟩) ko co,.slice (some ⟨gv,0,none⟩) kv cv,.int .i64 fi] kp (.slice ra nr rc) (.slice (some ⟨gl,0,none⟩) m cl) R L):=Da.out.setX BN.out hkn HNN.out;have BS:Hid (((Wa.setCell ⟨kn,0,none⟩ (.int .i64 (chI ch v6))).setCell ⟨kn,1,none⟩ (.slice ad xs.length ca)).heap[kn]? =some (.cells #[.int .i64 (chI ch v6),.slice ad xs.length ca] 43 (0,0))):=z15 (xs:=(_,_)) BN.out;have hs7:Wa.grownBy ((Wa.setCell ⟨kn,0,none⟩ (.int .i64 (chI ch v6))).setCell ⟨kn,1,none⟩ (.slice ad xs.length ca)) (some kn):=zb4 (zb3 _ _ _ _) (zb3 _ _ _ _);have XS:Hid (((Wa.setCell ⟨kn,0,none⟩ (.int .i64 (chI ch v6))).setCell ⟨kn,1,none⟩ (.slice ad xs.length ca)).heap[kx]? =some (.cells #[.int .i64 v6,.slice x6.a xl x6.c] 43 (0,0))):=za5 hs7 XA.out (fun e=>by injection e with e;have:=HXN.out;omega);have OS:Hid (World.ownsRow ((Wa.setCell ⟨kn,0,none⟩ (.int .i64 (chI ch v6))).setCell ⟨kn,1,none⟩ (.slice ad xs.length ca)) (w.heap.size+2) 2 1 (.slice ad xs.length ca) xs.length (xs.map (Value.int .i64))):=zj1 OI.out hs7 (zf0 OI.out BN.out (by decide));clear hs7;go_simp;refine hK.out _ _ ?_ (fun hHeld=> ?_)
       ·exact Ds.out.keep7 XS.out
       clear hK K;generalize((Wa.setCell ⟨kn,0,none⟩ (.int .i64 (chI ch v6))).setCell ⟨kn,1,none⟩ (.slice ad xs.length ca))=Ws at*;refine wpAnyH_ready (rs:=[16]) (by kernel_rfl) (by simp) ?_;refine AllReadyH.cons rfl (fun K hK=> ?_) AllReadyH.nil;go_simp;refine hK.out _ _ ?_ (fun hHeld=> ?_)
       ·exact Ds.out.keep7 XS.out
       clear hK K;refine wpAnyH_ready (rs:=[17]) (by kernel_rfl) (by simp) ?_;refine AllReadyH.cons rfl (fun K hK=> ?_) AllReadyH.nil;go_simp;refine hK.out _ _ ?_ (fun hHeld=> ?_)
       ·exact Ds.out.keep7 XS.out
       clear hK K;refine wpAnyH_done (by kernel_rfl) ?_ _
       (try go_wp2_with fail)
       go_meet;exact⟨kn,_,Dv,ch,ad,ca,xs,rfl,rfl,rfl,HLN.out,Ds.out,BS.out,OS.out⟩
      refine AllReadyH.cons rfl (fun K hK=> ?_) AllReadyH.nil;have Da:Hid (PD w (wb.alloc (.cells #[.int .i64 0,.slice none 0 0] 43)) q a bs c #[.int .i64 n,.slice (some ⟨g,0,none⟩) zl cg,.slice (some ⟨go,0,none⟩) ko co,.slice (some ⟨gv,0,none⟩) kv cv,.int .i64 fi] kp (.slice ra nr rc) (.slice (some ⟨gl,0,none⟩) m cl) R L):=Db.out.below ((Below.refl _ _).alloc (Nat.le_refl _) _);have XA:Hid ((wb.alloc (.cells #[.int .i64 0,.slice none 0 0] 43)).heap[kx]? =some (.cells #[.int .i64 v6,.slice x6.a xl x6.c] 43 (0,0))):=za1 ((Below.refl _ _).alloc (Nat.le_refl _) _) (za3 XB.out) XB.out;have BN:Hid ((wb.alloc (.cells #[.int .i64 0,.slice none 0 0] 43)).heap[wb.heap.size]? =some (.cells #[.int .i64 0,.slice none 0 0] 43 (0,0))):=heap_alloc_new _ _;have HNN:Hid (((.slice ra nr rc):Value).ownBlock≠some wb.heap.size):=fun e=>Nat.lt_irrefl _ (Db.out.po.r.lt _ e).2;have HXN:Hid (kx<wb.heap.size):=za3 XB.out;have hkn:w.heap.size+1<wb.heap.size:=by have:=Db.out.size;omega
      go_simp;refine hK.out _ _ ?_ (fun hHeld=> ?_)
      ·exact Da.out.keep7 XA.out
      clear hK K;obtain⟨kn,HKN⟩:=nmd wb.heap.size;rw[HKN.out]at BN HNN HXN hkn⊢;generalize wb.alloc (.cells #[.int .i64 0,.slice none 0 0] 43)=Wa at*;refine wpAnyH_ready (rs:=[9]) (by kernel_rfl) (by simp) ?_;refine AllReadyH.cons rfl (fun K hK=> ?_) AllReadyH.nil;have C7:=zt4 n fi v6 g zl cg go ko co gv kv cv zs O V x6 Wa (Da.out.ints HZ.out.1 HZ.out.2) (Da.out.ints HO.out.1 HO.out.2) (Da.out.ints HV.out.1 HV.out.2) HLZ.out HLO.out HLV.out hk2 hv2 (HAT.out _ Da.out) (by rw[HXL.out];omega) id y7 (by rw[HXL.out];exact HY7.out);rw[HXL.out]at C7;go_simp;refine C7.mono ?_;rintro e wi ⟨ch,Dv,xs,⟨hb,ad,ca,rfl,ho⟩,hlen⟩;have HLN:Hid (ch=true->xs.length=xl+1/\∀z∈xs,z∈x6.ids∨z=id):=hlen;have Di:Hid (PD w wi q a bs c #[.int .i64 n,.slice (some ⟨g,0,none⟩) zl cg,.slice (some ⟨go,0,none⟩) ko co,.slice (some ⟨gv,0,none⟩) kv cv,.int .i64 fi] kp (.slice ra nr rc) (.slice (some ⟨gl,0,none⟩) m cl) R L):=Da.out.below hb;have XI:Hid (wi.heap[kx]? =some (.cells #[.int .i64 v6,.slice x6.a xl x6.c] 43 (0,0))):=za1 hb (za3 XA.out) XA.out;have BN:Hid (wi.heap[kn]? =some (.cells #[.int .i64 0,.slice none 0 0] 43 (0,0))):=za1 hb (za3 BN.out) BN.out;have OI:Hid (World.ownsRow wi (w.heap.size+2) 2 1 (.slice ad xs.length ca) xs.length (xs.map (Value.int .i64))):=zc5 ho (by have:=Da.out.size;omega);clear hb ho hlen C7
      (try go_wp2_with fail)
      refine hK.out _ _ ?_ (fun hHeld=> ?_)
      ·exact Di.out.keep7 XI.out
      clear hK K
      (try simp only[Act.put,List.setIfInBounds_toArray,List.set_cons_zero,List.set_cons_succ])
      refine tkH 10 hHeld ?_;refine tkH 11 hHeld ?_;refine tkH 12 hHeld ?_;refine tkH 13 hHeld ?_;refine wpAnyH_ready (rs:=[15]) (by kernel_rfl) (by simp) ?_;refine AllReadyH.cons rfl (fun K hK=> ?_) AllReadyH.nil;obtain⟨z0,z1⟩:=za2 BN.out;have zf:=fun i=>frozen_of_row _ _ i _ _ BN.out;have Ds:Hid (PD w ((wi.setCell ⟨kn,0,none⟩ (.int .i64 (chI ch v6))).setCell ⟨kn,1,none⟩ (.slice ad xs.length ca)) q a bs c #[.int .i64 n,.slice (some ⟨g,0,none⟩) zl cg,.slice (some ⟨go,0,none⟩) ko co,.slice (some ⟨gv,0,none⟩) kv cv,.int .i64 fi] kp (.slice ra nr rc) (.slice (some ⟨gl,0,none⟩) m cl) R L):=Di.out.setX BN.out hkn HNN.out;have BS:Hid (((wi.setCell ⟨kn,0,none⟩ (.int .i64 (chI ch v6))).setCell ⟨kn,1,none⟩ (.slice ad xs.length ca)).heap[kn]? =some (.cells #[.int .i64 (chI ch v6),.slice ad xs.length ca] 43 (0,0))):=z15 (xs:=(_,_)) BN.out;have hs7:wi.grownBy ((wi.setCell ⟨kn,0,none⟩ (.int .i64 (chI ch v6))).setCell ⟨kn,1,none⟩ (.slice ad xs.length ca)) (some kn):=zb4 (zb3 _ _ _ _) (zb3 _ _ _ _);have XS:Hid (((wi.setCell ⟨kn,0,none⟩ (.int .i64 (chI ch v6))).setCell ⟨kn,1,none⟩ (.slice ad xs.length ca)).heap[kx]? =some (.cells #[.int .i64 v6,.slice x6.a xl x6.c] 43 (0,0))):=za5 hs7 XI.out (fun e=>by injection e with e;have:=HXN.out;omega);have OS:Hid (World.ownsRow ((wi.setCell ⟨kn,0,none⟩ (.int .i64 (chI ch v6))).setCell ⟨kn,1,none⟩ (.slice ad xs.length ca)) (w.heap.size+2) 2 1 (.slice ad xs.length ca) xs.length (xs.map (Value.int .i64))):=zj1 OI.out hs7 (zf0 OI.out BN.out (by decide));clear hs7;go_simp;refine hK.out _ _ ?_ (fun hHeld=> ?_)
      ·exact Ds.out.keep7 XS.out
      clear hK K;generalize((wi.setCell ⟨kn,0,none⟩ (.int .i64 (chI ch v6))).setCell ⟨kn,1,none⟩ (.slice ad xs.length ca))=Ws at*;refine wpAnyH_ready (rs:=[16]) (by kernel_rfl) (by simp) ?_;refine AllReadyH.cons rfl (fun K hK=> ?_) AllReadyH.nil;go_simp;refine hK.out _ _ ?_ (fun hHeld=> ?_)
      ·exact Ds.out.keep7 XS.out
      clear hK K;refine wpAnyH_ready (rs:=[17]) (by kernel_rfl) (by simp) ?_;refine AllReadyH.cons rfl (fun K hK=> ?_) AllReadyH.nil;go_simp;refine hK.out _ _ ?_ (fun hHeld=> ?_)
      ·exact Ds.out.keep7 XS.out
      clear hK K;refine wpAnyH_done (by kernel_rfl) ?_ _
      (try go_wp2_with fail)
      go_meet;exact⟨kn,_,Dv,ch,ad,ca,xs,rfl,rfl,rfl,HLN.out,Ds.out,BS.out,OS.out⟩
     refine AllReadyH.cons rfl (fun K hK=> ?_) AllReadyH.nil;have Da:Hid (PD w (W1.alloc (.cells #[.int .i64 0,.slice none 0 0] 43)) q a bs c #[.int .i64 n,.slice (some ⟨g,0,none⟩) zl cg,.slice (some ⟨go,0,none⟩) ko co,.slice (some ⟨gv,0,none⟩) kv cv,.int .i64 fi] kp (.slice ra nr rc) (.slice (some ⟨gl,0,none⟩) m cl) R L):=D1.out.below ((Below.refl _ _).alloc (Nat.le_refl _) _);have XA:Hid ((W1.alloc (.cells #[.int .i64 0,.slice none 0 0] 43)).heap[kx]? =some (.cells #[.int .i64 v6,.slice x6.a xl x6.c] 43 (0,0))):=za1 ((Below.refl _ _).alloc (Nat.le_refl _) _) (za3 X1.out) X1.out;have BN:Hid ((W1.alloc (.cells #[.int .i64 0,.slice none 0 0] 43)).heap[W1.heap.size]? =some (.cells #[.int .i64 0,.slice none 0 0] 43 (0,0))):=heap_alloc_new _ _;have HNN:Hid (((.slice ra nr rc):Value).ownBlock≠some W1.heap.size):=fun e=>Nat.lt_irrefl _ (D1.out.po.r.lt _ e).2;have HXN:Hid (kx<W1.heap.size):=za3 X1.out;have hkn:w.heap.size+1<W1.heap.size:=by have:=D1.out.size;omega
     go_simp;refine hK.out _ _ ?_ (fun hHeld=> ?_)
     ·exact Da.out.keep7 XA.out
     clear hK K;obtain⟨kn,HKN⟩:=nmd W1.heap.size;rw[HKN.out]at BN HNN HXN hkn⊢;generalize W1.alloc (.cells #[.int .i64 0,.slice none 0 0] 43)=Wa at*;refine wpAnyH_ready (rs:=[8]) (by kernel_rfl) (by simp) ?_;refine AllReadyH.cons rfl (fun K hK=> ?_) AllReadyH.nil;obtain⟨pb,hrb⟩:=Da.out.r;go_simp;refine(zb0 q pb c ((xl:Int)+1) a bs _ hrb (by omega)).mono ?_;rintro e wb ⟨y7,p7,rfl,hy0,hy1,hr,hg⟩;have HY7:Hid (0<=y7/\y7<=(xl:Int)):=⟨hy0,by omega⟩;have Db:Hid (PD w wb q a bs c #[.int .i64 n,.slice (some ⟨g,0,none⟩) zl cg,.slice (some ⟨go,0,none⟩) ko co,.slice (some ⟨gv,0,none⟩) kv cv,.int .i64 fi] kp (.slice ra nr rc) (.slice (some ⟨gl,0,none⟩) m cl) R L):=Da.out.read hr hg;have XB:Hid (wb.heap[kx]? =some (.cells #[.int .i64 v6,.slice x6.a xl x6.c] 43 (0,0))):=za5 hg XA.out (fun e=>by injection e with e;have:=Db.out.lt;omega);have BN:Hid (wb.heap[kn]? =some (.cells #[.int .i64 0,.slice none 0 0] 43 (0,0))):=za5 hg BN.out (fun e=>by injection e with e;have:=Db.out.lt;omega);clear hr hg hy0 hy1 hrb
     (try go_wp2_with fail)
     refine hK.out _ _ ?_ (fun hHeld=> ?_)
     ·exact Db.out.keep7 XB.out
     clear hK K
     (try simp only[Act.put,List.setIfInBounds_toArray,List.set_cons_zero,List.set_cons_succ])
     refine wpAnyH_ready (rs:=[9]) (by kernel_rfl) (by simp) ?_;refine AllReadyH.cons rfl (fun K hK=> ?_) AllReadyH.nil;have C7:=zt4 n fi v6 g zl cg go ko co gv kv cv zs O V x6 wb (Db.out.ints HZ.out.1 HZ.out.2) (Db.out.ints HO.out.1 HO.out.2) (Db.out.ints HV.out.1 HV.out.2) HLZ.out HLO.out HLV.out hk2 hv2 (HAT.out _ Db.out) (by rw[HXL.out];omega) id y7 (by rw[HXL.out];exact HY7.out);rw[HXL.out]at C7;go_simp;refine C7.mono ?_;rintro e wi ⟨ch,Dv,xs,⟨hb,ad,ca,rfl,ho⟩,hlen⟩;have HLN:Hid (ch=true->xs.length=xl+1/\∀z∈xs,z∈x6.ids∨z=id):=hlen;have Di:Hid (PD w wi q a bs c #[.int .i64 n,.slice (some ⟨g,0,none⟩) zl cg,.slice (some ⟨go,0,none⟩) ko co,.slice (some ⟨gv,0,none⟩) kv cv,.int .i64 fi] kp (.slice ra nr rc) (.slice (some ⟨gl,0,none⟩) m cl) R L):=Db.out.below hb;have XI:Hid (wi.heap[kx]? =some (.cells #[.int .i64 v6,.slice x6.a xl x6.c] 43 (0,0))):=za1 hb (za3 XB.out) XB.out;have BN:Hid (wi.heap[kn]? =some (.cells #[.int .i64 0,.slice none 0 0] 43 (0,0))):=za1 hb (za3 BN.out) BN.out;have OI:Hid (World.ownsRow wi (w.heap.size+2) 2 1 (.slice ad xs.length ca) xs.length (xs.map (Value.int .i64))):=zc5 ho (by have:=Db.out.size;omega);clear hb ho hlen C7
     (try go_wp2_with fail)
     refine hK.out _ _ ?_ (fun hHeld=> ?_)
     ·exact Di.out.keep7 XI.out
     clear hK K
     (try simp only[Act.put,List.setIfInBounds_toArray,List.set_cons_zero,List.set_cons_succ])
     refine tkH 10 hHeld ?_;refine tkH 11 hHeld ?_;refine tkH 12 hHeld ?_;refine tkH 13 hHeld ?_;refine wpAnyH_ready (rs:=[15]) (by kernel_rfl) (by simp) ?_;refine AllReadyH.cons rfl (fun K hK=> ?_) AllReadyH.nil;obtain⟨z0,z1⟩:=za2 BN.out;have zf:=fun i=>frozen_of_row _ _ i _ _ BN.out;have Ds:Hid (PD w ((wi.setCell ⟨kn,0,none⟩ (.int .i64 (chI ch v6))).setCell ⟨kn,1,none⟩ (.slice ad xs.length ca)) q a bs c #[.int .i64 n,.slice (some ⟨g,0,none⟩) zl cg,.slice (some ⟨go,0,none⟩) ko co,.slice (some ⟨gv,0,none⟩) kv cv,.int .i64 fi] kp (.slice ra nr rc) (.slice (some ⟨gl,0,none⟩) m cl) R L):=Di.out.setX BN.out hkn HNN.out;have BS:Hid (((wi.setCell ⟨kn,0,none⟩ (.int .i64 (chI ch v6))).setCell ⟨kn,1,none⟩ (.slice ad xs.length ca)).heap[kn]? =some (.cells #[.int .i64 (chI ch v6),.slice ad xs.length ca] 43 (0,0))):=z15 (xs:=(_,_)) BN.out;have hs7:wi.grownBy ((wi.setCell ⟨kn,0,none⟩ (.int .i64 (chI ch v6))).setCell ⟨kn,1,none⟩ (.slice ad xs.length ca)) (some kn):=zb4 (zb3 _ _ _ _) (zb3 _ _ _ _);have XS:Hid (((wi.setCell ⟨kn,0,none⟩ (.int .i64 (chI ch v6))).setCell ⟨kn,1,none⟩ (.slice ad xs.length ca)).heap[kx]? =some (.cells #[.int .i64 v6,.slice x6.a xl x6.c] 43 (0,0))):=za5 hs7 XI.out (fun e=>by injection e with e;have:=HXN.out;omega);have OS:Hid (World.ownsRow ((wi.setCell ⟨kn,0,none⟩ (.int .i64 (chI ch v6))).setCell ⟨kn,1,none⟩ (.slice ad xs.length ca)) (w.heap.size+2) 2 1 (.slice ad xs.length ca) xs.length (xs.map (Value.int .i64))):=zj1 OI.out hs7 (zf0 OI.out BN.out (by decide));clear hs7;go_simp;refine hK.out _ _ ?_ (fun hHeld=> ?_)
     ·exact Ds.out.keep7 XS.out
     clear hK K;generalize((wi.setCell ⟨kn,0,none⟩ (.int .i64 (chI ch v6))).setCell ⟨kn,1,none⟩ (.slice ad xs.length ca))=Ws at*;refine wpAnyH_ready (rs:=[16]) (by kernel_rfl) (by simp) ?_;refine AllReadyH.cons rfl (fun K hK=> ?_) AllReadyH.nil;go_simp;refine hK.out _ _ ?_ (fun hHeld=> ?_)
     ·exact Ds.out.keep7 XS.out
     clear hK K;refine wpAnyH_ready (rs:=[17]) (by kernel_rfl) (by simp) ?_;refine AllReadyH.cons rfl (fun K hK=> ?_) AllReadyH.nil;go_simp;refine hK.out _ _ ?_ (fun hHeld=> ?_)
     ·exact Ds.out.keep7 XS.out
     clear hK K;refine wpAnyH_done (by kernel_rfl) ?_ _
     (try go_wp2_with fail)
     go_meet;exact⟨kn,_,Dv,ch,ad,ca,xs,rfl,rfl,rfl,HLN.out,Ds.out,BS.out,OS.out⟩
    case rest=>
     clear D6 BX6;obtain⟨kn,vn,Dv,ch,ad,ca,xs,rfl,rfl,rfl,hlen,hd,hbn,hown⟩:=hcut;have D7:Hid (PD w wc q a bs c #[.int .i64 n,.slice (some ⟨g,0,none⟩) zl cg,.slice (some ⟨go,0,none⟩) ko co,.slice (some ⟨gv,0,none⟩) kv cv,.int .i64 fi] kp (.slice ra nr rc) (.slice (some ⟨gl,0,none⟩) m cl) R L):=hd;have B7:Hid (wc.heap[kn]? =some (.cells #[.int .i64 vn,.slice ad xs.length ca] 43 (0,0))):=hbn;have O7:Hid (wc.ownsRow (w.heap.size+2) 2 1 (.slice ad xs.length ca) xs.length (xs.map (Value.int .i64))):=hown;clear hd hbn hown;cases ch
     ·clear hlen
      go_wp2;go_roundw
      case rel=>exact⟨j - 1,_,_,R,L,by rw[HNR.out];omega,(fun r hr=>⟨(HRI.out r hr).1,by have:=(HRI.out r hr).2;omega⟩),by rw[HM.out];exact hL12,HLW.out,by first|rfl|go_num,HDJ.out,(fun _=>⟨_,_,_,rfl⟩),HRP.out,D7.out⟩
      case measure=>simp[intOf];omega
     ·have hxn:xs.length=xl+1:=(hlen rfl).1
      have HXZ:Hid (∀z∈xs,P z):=fun z hz6=>((hlen rfl).2 z hz6).elim (HXP.out z) (fun h=>by rw[h];exact HPI.out)
      clear hlen;obtain⟨gn,e⟩:∃gn,ad=some ⟨gn,0,none⟩:=by
       rcases own_kinds O7.out with⟨_,e0⟩|⟨gn,c',e,_,_⟩
       ·omega
       ·simp only[Value.slice.injEq]at e;exact⟨gn,e.1⟩
      subst e;have IX:Hid (za0 wc (some ⟨gn,0,none⟩) xs):=zd6 O7.out;obtain⟨xn,HXN⟩:=nmd xs.length;rw[HXN.out]at hxn B7;have HXE:Hid (xs≠[]/\xs.length=xn):=⟨fun e=>by have:=HXN.out;rw[e]at this;simp at this;omega,HXN.out⟩;have hR8:za6 wc ra R:=by
       have hpo:=D7.out.po;rw[<-HNR.out]at hpo;exact hpo.at
      have hL8:za0 wc (some ⟨gl,0,none⟩) L:=zd6 (by have:=D7.out.po.l;rw[HM.out]at this;exact this);have C8:=zA0 ra gl 0 rc cl gn 0 ca R L vn xs wc hR8 hL8 IX.out (by rw[HNR.out];omega) (fun r hr=>⟨(HRI.out r hr).1,by have:=(HRI.out r hr).2;omega⟩) (by rw[HM.out];omega) ⟨HXE.out.1,by rw[HXN.out];omega⟩;rw[HNR.out,HM.out,HXN.out]at C8;have HX1:Hid (xn=xl+1):=hxn;clear hR8 hL8 IX O7 hxn hwr;obtain⟨p0,p1⟩:=za2 D7.out.bp;obtain⟨n0,n1⟩:=za2 B7.out
      go_wp2_with(first
       |(go_at_call 69
         go_must(refine C8.mono ?_)
         go_must(rintro e w8 ⟨ra8,rc8,gl8,lc8,S8,rfl,hb8,hk8,ho8⟩)
         have HSB:Hid (S8.length<=R.length+1/\∀s∈S8,s.ids≠[]/\s.ids.length+(j - 1)<=9):=zZ7 hk8 HRI.out ⟨HXE.out.1,by have:=HXE.out.2;have:=HX1.out;simp only;omega⟩;have HSP:Hid (∀s∈S8,∀z∈s.ids,P z):=yx5 hk8 HRP.out HXZ.out;obtain⟨n8,HN8⟩:=nmd S8.length;have DB:=D7.out.below hb8;have D8:Hid (PD w ((w8.setCell ⟨kp,0,none⟩ (.slice ra8 n8 rc8)).setCell ⟨kp,1,none⟩ (.slice (some ⟨gl8,0,none⟩) m lc8)) q a bs c #[.int .i64 n,.slice (some ⟨g,0,none⟩) zl cg,.slice (some ⟨go,0,none⟩) ko co,.slice (some ⟨gv,0,none⟩) kv cv,.int .i64 fi] kp (.slice ra8 n8 rc8) (.slice (some ⟨gl8,0,none⟩) m lc8) S8 L):=DB.set2 (by
          have:=ho8.base (b0:=w.heap.size+2) (by have:=D7.out.size;omega);rw[HM.out,HN8.out]at this;exact this)
         rw[HN8.out,HM.out];obtain⟨e0,e1⟩:=za2 DB.bp;have ef:=fun i=>frozen_of_row _ _ i _ _ DB.bp;have I8:Hid (za0 ((w8.setCell ⟨kp,0,none⟩ (.slice ra8 n8 rc8)).setCell ⟨kp,1,none⟩ (.slice (some ⟨gl8,0,none⟩) m lc8)) (some ⟨gl8,0,none⟩) L):=zd6 (by have:=D8.out.po.l;rw[HM.out]at this;exact this);clear hb8 hk8 ho8 DB)
       |(go_at_call 70
         go_must(refine(yh5 (some ⟨gl8,0,none⟩) lc8 m L id _ I8.out HM.out (by omega)).mono ?_)
         go_must(rintro e w9 ⟨g9,c9,rfl,hb9,ho9⟩)
         have DC:=D8.out.below hb9;have D9:Hid (PD w (w9.setCell ⟨kp,1,none⟩ (.slice (some ⟨g9,0,none⟩) (zs6 L id).length c9)) q a bs c #[.int .i64 n,.slice (some ⟨g,0,none⟩) zl cg,.slice (some ⟨go,0,none⟩) ko co,.slice (some ⟨gv,0,none⟩) kv cv,.int .i64 fi] kp (.slice ra8 n8 rc8) (.slice (some ⟨g9,0,none⟩) (zs6 L id).length c9) S8 (zs6 L id)):=DC.setL (zc5 ho9 (by have:=D8.out.size;omega));have J9:Hid (DJ S8 (.slice (some ⟨g9,0,none⟩) (zs6 L id).length c9)):=DJ.new D8.out (fun k e=>(ho9.lt k e).1);obtain⟨f0,f1⟩:=za2 DC.bp;have ff:=fun i=>frozen_of_row _ _ i _ _ DC.bp;clear hb9 ho9 DC))
      go_roundw
      case rel=>exact⟨j - 1,_,_,S8,zs6 L id,by have:=HSB.out.1;rw[HNR.out]at this;omega,HSB.out.2,Nat.le_trans (yl3 _ _) (by rw[HM.out];exact hL12),(fun x hx=>HLW.out x (yo3 hx)),by first|rfl|go_num,J9.out,(fun _=>⟨_,_,_,rfl⟩),HSP.out,D9.out⟩
      case measure=>simp[intOf];omega
  ·obtain⟨p4,hr4⟩:=D4.out.r
   have R4:Hid (RD wr q a bs c p4):=hr4;clear hr4;go_upto_region 3 with fail;go_cut [36]from 20 to 35 (fun s36 wx=>s36=.bool false/\wr=wx)
   case first=>
    by_cases hj0:0<j
    ·have hjI:(0:Int)<(j:Int):=by omega
     cases cb
     ·clear hcond
      go_wp2_with fail
      go_meet;exact⟨rfl,rfl⟩
     ·have hm0:m=0:=by
       by_cases h0:0<m
       ·exact absurd ⟨hj0,rfl,h0⟩ hcond
       ·omega
      have hmz:¬((0:Int)<(m:Int)):=by omega
      clear hm0 hcond
      go_wp2_with fail
      go_meet;exact⟨rfl,rfl⟩
    ·have hj00:j=0:=by omega
     subst hj00;clear hcond hj0
     go_wp2_with fail
     go_meet;exact⟨rfl,rfl⟩
   case rest=>
    obtain⟨rfl,rfl⟩:=hcut;clear hcond
    go_wp2_with fail
    refine(zb0 q p4 c 30 a bs _ R4.out (by omega)).mono ?_;rintro e w6 ⟨y6,p6,rfl,hy0,hy1,hr,hg⟩;obtain⟨y6,rfl⟩:=Int.eq_ofNat_of_zero_le hy0;have D6:Hid (PD w w6 q a bs c #[.int .i64 n,.slice (some ⟨g,0,none⟩) zl cg,.slice (some ⟨go,0,none⟩) ko co,.slice (some ⟨gv,0,none⟩) kv cv,.int .i64 fi] kp (.slice ra nr rc) (.slice la2 m cl) R L):=D4.out.read hr hg;clear hr hg D4 R4 hy0 hy1 p0 p1 c0 c1 c2 c3 c4;by_cases h29:y6=29
    ·subst h29
     go_wp2_with fail
     refine wp_region_held_drew (S:=(fun _=>True)) (by kernel_rfl) ?_ (fun hHeld=> ?_)
     ·exact trivial
     have D1:Hid (PD w w6.drew q a bs c #[.int .i64 n,.slice (some ⟨g,0,none⟩) zl cg,.slice (some ⟨go,0,none⟩) ko co,.slice (some ⟨gv,0,none⟩) kv cv,.int .i64 fi] kp (.slice ra nr rc) (.slice la2 m cl) R L):=D6.out.below (Below.refl _ _).drew;clear D6;generalize w6.drew=W1 at*;refine tkH 0 hHeld ?_;refine tkH 2 hHeld ?_;refine wpAnyH_ready (rs:=[1,3]) (by kernel_rfl) (by simp) ?_;refine AllReadyH.cons rfl (fun K hK=> ?_) ?_
     ·skip
      obtain⟨t0,t1⟩:=za2 D1.out.bp;go_simp;refine hK.out _ _ ?_ (fun hHeld=> ?_)
      ·trivial
      clear hK K;refine wpAnyH_ready (rs:=[3]) (by kernel_rfl) (by simp) ?_;refine AllReadyH.cons rfl (fun K hK=> ?_) AllReadyH.nil;obtain⟨pb,hrb⟩:=D1.out.r;go_simp;refine(zm5 q pb c 1 6 a bs _ hrb (by omega) (by omega) (by omega) (by omega)).mono ?_;rintro e wo ⟨f7,p7,rfl,hf0,hf1,hr,hg⟩;have Do:Hid (PD w wo q a bs c #[.int .i64 n,.slice (some ⟨g,0,none⟩) zl cg,.slice (some ⟨go,0,none⟩) ko co,.slice (some ⟨gv,0,none⟩) kv cv,.int .i64 fi] kp (.slice ra nr rc) (.slice la2 m cl) R L):=D1.out.read hr hg;have HF7:Hid (-9223372036854775808<=f7/\f7<9223372036854775808):=⟨hf0,hf1⟩;clear hr hg hf0 hf1 hrb
      (try go_wp2_with fail)
      refine hK.out _ _ ?_ (fun hHeld=> ?_)
      ·trivial
      clear hK K
      (try simp only[Act.put,List.setIfInBounds_toArray,List.set_cons_zero,List.set_cons_succ])
      refine wpAnyH_ready (rs:=[4]) (by kernel_rfl) (by simp) ?_;refine AllReadyH.cons rfl (fun K hK=> ?_) AllReadyH.nil;have Da:Hid (PD w (wo.alloc (.cells #[.int .i64 f7] 2)) q a bs c #[.int .i64 n,.slice (some ⟨g,0,none⟩) zl cg,.slice (some ⟨go,0,none⟩) ko co,.slice (some ⟨gv,0,none⟩) kv cv,.int .i64 fi] kp (.slice ra nr rc) (.slice la2 m cl) R L):=Do.out.below ((Below.refl _ _).alloc (Nat.le_refl _) _);have I7:Hid (za0 (wo.alloc (.cells #[.int .i64 f7] 2)) (some ⟨wo.heap.size,0,none⟩) [f7]):=zj2 wo f7;go_simp;refine hK.out _ _ ?_ (fun hHeld=> ?_)
      ·trivial
      clear hK K;obtain⟨ka,HKA⟩:=nmd wo.heap.size;rw[HKA.out]at I7⊢;generalize wo.alloc (.cells #[.int .i64 f7] 2)=Wa at*;refine wpAnyH_ready (rs:=[5]) (by kernel_rfl) (by simp) ?_;refine AllReadyH.cons rfl (fun K hK=> ?_) AllReadyH.nil;refine zd7 rfl (.tmp 88) (.tmp 91) rfl (w.heap.size+2) (.slice la2 m cl) L m rfl (by have:=Da.out.po.l;rw[HM.out]at this;exact this) ka 0 1 1 [f7] rfl rfl I7.out (by omega) (by omega) (by have:=Da.out.size;omega) ?_;intro v' wp ho hg hn9;rcases own_kinds ho with⟨_,e0⟩|⟨g9,c9,e9,-,-⟩
      ·omega
      subst e9;have Dp:Hid (PD w (wp.setCell ⟨kp,1,none⟩ (.slice (some ⟨g9,0,none⟩) (m+1) c9)) q a bs c #[.int .i64 n,.slice (some ⟨g,0,none⟩) zl cg,.slice (some ⟨go,0,none⟩) ko co,.slice (some ⟨gv,0,none⟩) kv cv,.int .i64 fi] kp (.slice ra nr rc) (.slice (some ⟨g9,0,none⟩) (m+1) c9) R (L++[f7])):=Da.out.addL HDJ.out hg (by rw[List.length_append,HM.out];exact ho);have hbp:=za5 hg Da.out.bp (fun e=>(Da.out.rowL' _ e.symm).2 rfl);obtain⟨x4,y4⟩:=za2 hbp;have xf:=fun i=>frozen_of_row _ _ i _ _ hbp;clear ho hg hn9 hbp;refine hK.out _ _ ?_ (fun hHeld=> ?_)
      ·trivial
      clear hK K;change wpAnyH _ _ _ _ _ _ _ (Act.put _ (some 92) _) _;simp only[Act.put,List.setIfInBounds_toArray,List.set_cons_zero,List.set_cons_succ];refine tkH 6 hHeld ?_;refine wpAnyH_ready (rs:=[7]) (by kernel_rfl) (by simp) ?_;refine AllReadyH.cons rfl (fun K hK=> ?_) AllReadyH.nil;go_simp;refine hK.out _ _ ?_ (fun hHeld=> ?_)
      ·trivial
      clear hK K;clear x4 y4 xf;generalize wp.setCell ⟨kp,1,none⟩ (.slice (some ⟨g9,0,none⟩) (m+1) c9)=Wz at*;refine wpAnyH_done (by kernel_rfl) ?_ _;obtain⟨t0,t1⟩:=za2 Dp.out.bp;obtain⟨b0,b1⟩:=za2 Dp.out.b0;have bf:=fun i=>frozen_of_row _ _ i _ _ Dp.out.b0;go_wp2;exact Dp.out.done (by rw[HNR.out];omega) (fun r hr=>by have:=(HRI.out r hr).2;omega) (by rw[List.length_append,HM.out];simp;omega) (fun x hx=>(List.mem_append.1 hx).elim (HLW.out x) (fun h=>by rw[show x=f7 by simpa using h];exact HF7.out)) HRP.out (fun _=>⟨_,_,_,rfl⟩) _ (by rfl) (by rfl)
     refine AllReadyH.cons rfl (fun K hK=> ?_) AllReadyH.nil;obtain⟨pb,hrb⟩:=D1.out.r;go_simp;refine(zm5 q pb c 1 6 a bs _ hrb (by omega) (by omega) (by omega) (by omega)).mono ?_;rintro e wo ⟨f7,p7,rfl,hf0,hf1,hr,hg⟩;have Do:Hid (PD w wo q a bs c #[.int .i64 n,.slice (some ⟨g,0,none⟩) zl cg,.slice (some ⟨go,0,none⟩) ko co,.slice (some ⟨gv,0,none⟩) kv cv,.int .i64 fi] kp (.slice ra nr rc) (.slice la2 m cl) R L):=D1.out.read hr hg;have HF7:Hid (-9223372036854775808<=f7/\f7<9223372036854775808):=⟨hf0,hf1⟩;clear hr hg hf0 hf1 hrb
     (try go_wp2_with fail)
     refine hK.out _ _ ?_ (fun hHeld=> ?_)
     ·trivial
     clear hK K
     (try simp only[Act.put,List.setIfInBounds_toArray,List.set_cons_zero,List.set_cons_succ])
     refine wpAnyH_ready (rs:=[1,4]) (by kernel_rfl) (by simp) ?_;refine AllReadyH.cons rfl (fun K hK=> ?_) ?_
     ·skip
      obtain⟨t0,t1⟩:=za2 Do.out.bp;go_simp;refine hK.out _ _ ?_ (fun hHeld=> ?_)
      ·trivial
      clear hK K;refine wpAnyH_ready (rs:=[4]) (by kernel_rfl) (by simp) ?_;refine AllReadyH.cons rfl (fun K hK=> ?_) AllReadyH.nil;have Da:Hid (PD w (wo.alloc (.cells #[.int .i64 f7] 2)) q a bs c #[.int .i64 n,.slice (some ⟨g,0,none⟩) zl cg,.slice (some ⟨go,0,none⟩) ko co,.slice (some ⟨gv,0,none⟩) kv cv,.int .i64 fi] kp (.slice ra nr rc) (.slice la2 m cl) R L):=Do.out.below ((Below.refl _ _).alloc (Nat.le_refl _) _);have I7:Hid (za0 (wo.alloc (.cells #[.int .i64 f7] 2)) (some ⟨wo.heap.size,0,none⟩) [f7]):=zj2 wo f7;go_simp;refine hK.out _ _ ?_ (fun hHeld=> ?_)
      ·trivial
      clear hK K;obtain⟨ka,HKA⟩:=nmd wo.heap.size;rw[HKA.out]at I7⊢;generalize wo.alloc (.cells #[.int .i64 f7] 2)=Wa at*;refine wpAnyH_ready (rs:=[5]) (by kernel_rfl) (by simp) ?_;refine AllReadyH.cons rfl (fun K hK=> ?_) AllReadyH.nil;refine zd7 rfl (.tmp 88) (.tmp 91) rfl (w.heap.size+2) (.slice la2 m cl) L m rfl (by have:=Da.out.po.l;rw[HM.out]at this;exact this) ka 0 1 1 [f7] rfl rfl I7.out (by omega) (by omega) (by have:=Da.out.size;omega) ?_;intro v' wp ho hg hn9;rcases own_kinds ho with⟨_,e0⟩|⟨g9,c9,e9,-,-⟩
      ·omega
      subst e9;have Dp:Hid (PD w (wp.setCell ⟨kp,1,none⟩ (.slice (some ⟨g9,0,none⟩) (m+1) c9)) q a bs c #[.int .i64 n,.slice (some ⟨g,0,none⟩) zl cg,.slice (some ⟨go,0,none⟩) ko co,.slice (some ⟨gv,0,none⟩) kv cv,.int .i64 fi] kp (.slice ra nr rc) (.slice (some ⟨g9,0,none⟩) (m+1) c9) R (L++[f7])):=Da.out.addL HDJ.out hg (by rw[List.length_append,HM.out];exact ho);have hbp:=za5 hg Da.out.bp (fun e=>(Da.out.rowL' _ e.symm).2 rfl);obtain⟨x4,y4⟩:=za2 hbp;have xf:=fun i=>frozen_of_row _ _ i _ _ hbp;clear ho hg hn9 hbp;refine hK.out _ _ ?_ (fun hHeld=> ?_)
      ·trivial
      clear hK K;change wpAnyH _ _ _ _ _ _ _ (Act.put _ (some 92) _) _;simp only[Act.put,List.setIfInBounds_toArray,List.set_cons_zero,List.set_cons_succ];refine tkH 6 hHeld ?_;refine wpAnyH_ready (rs:=[7]) (by kernel_rfl) (by simp) ?_;refine AllReadyH.cons rfl (fun K hK=> ?_) AllReadyH.nil;go_simp;refine hK.out _ _ ?_ (fun hHeld=> ?_)
      ·trivial
      clear hK K;clear x4 y4 xf;generalize wp.setCell ⟨kp,1,none⟩ (.slice (some ⟨g9,0,none⟩) (m+1) c9)=Wz at*;refine wpAnyH_done (by kernel_rfl) ?_ _;obtain⟨t0,t1⟩:=za2 Dp.out.bp;obtain⟨b0,b1⟩:=za2 Dp.out.b0;have bf:=fun i=>frozen_of_row _ _ i _ _ Dp.out.b0;go_wp2;exact Dp.out.done (by rw[HNR.out];omega) (fun r hr=>by have:=(HRI.out r hr).2;omega) (by rw[List.length_append,HM.out];simp;omega) (fun x hx=>(List.mem_append.1 hx).elim (HLW.out x) (fun h=>by rw[show x=f7 by simpa using h];exact HF7.out)) HRP.out (fun _=>⟨_,_,_,rfl⟩) _ (by rfl) (by rfl)
     refine AllReadyH.cons rfl (fun K hK=> ?_) AllReadyH.nil;have Da:Hid (PD w (wo.alloc (.cells #[.int .i64 f7] 2)) q a bs c #[.int .i64 n,.slice (some ⟨g,0,none⟩) zl cg,.slice (some ⟨go,0,none⟩) ko co,.slice (some ⟨gv,0,none⟩) kv cv,.int .i64 fi] kp (.slice ra nr rc) (.slice la2 m cl) R L):=Do.out.below ((Below.refl _ _).alloc (Nat.le_refl _) _);have I7:Hid (za0 (wo.alloc (.cells #[.int .i64 f7] 2)) (some ⟨wo.heap.size,0,none⟩) [f7]):=zj2 wo f7;go_simp;refine hK.out _ _ ?_ (fun hHeld=> ?_)
     ·trivial
     clear hK K;obtain⟨ka,HKA⟩:=nmd wo.heap.size;rw[HKA.out]at I7⊢;generalize wo.alloc (.cells #[.int .i64 f7] 2)=Wa at*;refine wpAnyH_ready (rs:=[1]) (by kernel_rfl) (by simp) ?_;refine AllReadyH.cons rfl (fun K hK=> ?_) AllReadyH.nil;obtain⟨t0,t1⟩:=za2 Da.out.bp;go_simp;refine hK.out _ _ ?_ (fun hHeld=> ?_)
     ·trivial
     clear hK K;refine wpAnyH_ready (rs:=[5]) (by kernel_rfl) (by simp) ?_;refine AllReadyH.cons rfl (fun K hK=> ?_) AllReadyH.nil;refine zd7 rfl (.tmp 88) (.tmp 91) rfl (w.heap.size+2) (.slice la2 m cl) L m rfl (by have:=Da.out.po.l;rw[HM.out]at this;exact this) ka 0 1 1 [f7] rfl rfl I7.out (by omega) (by omega) (by have:=Da.out.size;omega) ?_;intro v' wp ho hg hn9;rcases own_kinds ho with⟨_,e0⟩|⟨g9,c9,e9,-,-⟩
     ·omega
     subst e9;have Dp:Hid (PD w (wp.setCell ⟨kp,1,none⟩ (.slice (some ⟨g9,0,none⟩) (m+1) c9)) q a bs c #[.int .i64 n,.slice (some ⟨g,0,none⟩) zl cg,.slice (some ⟨go,0,none⟩) ko co,.slice (some ⟨gv,0,none⟩) kv cv,.int .i64 fi] kp (.slice ra nr rc) (.slice (some ⟨g9,0,none⟩) (m+1) c9) R (L++[f7])):=Da.out.addL HDJ.out hg (by rw[List.length_append,HM.out];exact ho);have hbp:=za5 hg Da.out.bp (fun e=>(Da.out.rowL' _ e.symm).2 rfl);obtain⟨x4,y4⟩:=za2 hbp;have xf:=fun i=>frozen_of_row _ _ i _ _ hbp;clear ho hg hn9 hbp;refine hK.out _ _ ?_ (fun hHeld=> ?_)
     ·trivial
     clear hK K;change wpAnyH _ _ _ _ _ _ _ (Act.put _ (some 92) _) _;simp only[Act.put,List.setIfInBounds_toArray,List.set_cons_zero,List.set_cons_succ];refine tkH 6 hHeld ?_;refine wpAnyH_ready (rs:=[7]) (by kernel_rfl) (by simp) ?_;refine AllReadyH.cons rfl (fun K hK=> ?_) AllReadyH.nil;go_simp;refine hK.out _ _ ?_ (fun hHeld=> ?_)
     ·trivial
     clear hK K;clear x4 y4 xf;generalize wp.setCell ⟨kp,1,none⟩ (.slice (some ⟨g9,0,none⟩) (m+1) c9)=Wz at*;refine wpAnyH_done (by kernel_rfl) ?_ _;obtain⟨t0,t1⟩:=za2 Dp.out.bp;obtain⟨b0,b1⟩:=za2 Dp.out.b0;have bf:=fun i=>frozen_of_row _ _ i _ _ Dp.out.b0;go_wp2;exact Dp.out.done (by rw[HNR.out];omega) (fun r hr=>by have:=(HRI.out r hr).2;omega) (by rw[List.length_append,HM.out];simp;omega) (fun x hx=>(List.mem_append.1 hx).elim (HLW.out x) (fun h=>by rw[show x=f7 by simpa using h];exact HF7.out)) HRP.out (fun _=>⟨_,_,_,rfl⟩) _ (by rfl) (by rfl)
    ·by_cases h28:y6=28
     ·subst h28
      clear h29;have kS:=zb8 (D6.out.below (Below.refl _ _).drew).bc
      go_wp2_with fail
      refine wp_region_held_drew (S:=(fun W=>W.cell? ⟨w.heap.size,0,none⟩=some (.int .i64 n)/\W.cell? ⟨w.heap.size,1,none⟩=some (.slice (some ⟨g,0,none⟩) zl cg)/\W.cell? ⟨w.heap.size,2,none⟩=some (.slice (some ⟨go,0,none⟩) ko co)/\W.cell? ⟨w.heap.size,3,none⟩=some (.slice (some ⟨gv,0,none⟩) kv cv)/\W.cell? ⟨w.heap.size,4,none⟩=some (.int .i64 fi))) (by kernel_rfl) ?_ (fun hHeld=> ?_)
      ·exact kS
      have D1:Hid (PD w w6.drew q a bs c #[.int .i64 n,.slice (some ⟨g,0,none⟩) zl cg,.slice (some ⟨go,0,none⟩) ko co,.slice (some ⟨gv,0,none⟩) kv cv,.int .i64 fi] kp (.slice ra nr rc) (.slice la2 m cl) R L):=D6.out.below (Below.refl _ _).drew;clear D6;generalize w6.drew=W1 at*;refine tkH 0 hHeld ?_;refine tkH 2 hHeld ?_;refine tkH 3 hHeld ?_;refine wpAnyH_ready (rs:=[1,4]) (by kernel_rfl) (by simp) ?_;refine AllReadyH.cons rfl (fun K hK=> ?_) ?_
      ·skip
       obtain⟨t0,t1⟩:=za2 D1.out.bp;go_simp;refine hK.out _ _ ?_ (fun hHeld=> ?_)
       ·exact zb8 D1.out.bc
       clear hK K;refine wpAnyH_ready (rs:=[4]) (by kernel_rfl) (by simp) ?_;refine AllReadyH.cons rfl (fun K hK=> ?_) AllReadyH.nil;obtain⟨pb,hrb⟩:=D1.out.r;go_simp;refine(zD8 P q pb c n fi g zl cg go ko co gv kv cv O V a bs _ hrb (D1.out.ints HO.out.1 HO.out.2) (D1.out.ints HV.out.1 HV.out.2) HO.out.2 HV.out.2 HLO.out HLV.out hk1 hk2 hv1 hv2 HPO.out HPN.out).mono ?_;rintro e wo ⟨veh,sl,Lr,rfl,hl4,hg,⟨p7,hr⟩,ho,hpr⟩;have HPR:Hid (∀x∈Lr,P x):=hpr;clear hpr;obtain⟨ax,cx,e⟩:=zm3 ho;subst e;have Do:Hid (PD w wo q a bs c #[.int .i64 n,.slice (some ⟨g,0,none⟩) zl cg,.slice (some ⟨go,0,none⟩) ko co,.slice (some ⟨gv,0,none⟩) kv cv,.int .i64 fi] kp (.slice ra nr rc) (.slice la2 m cl) R L):=D1.out.read hr hg;have OX:Hid (wo.ownsRow (w.heap.size+2) 2 1 (.slice ax Lr.length cx) Lr.length (Lr.map (Value.int .i64))):=zc5 ho (by have:=D1.out.size;omega);obtain⟨lr,HLR⟩:=nmd Lr.length;rw[HLR.out]at hl4 OX⊢;clear hr hg ho hrb
       (try go_wp2_with fail)
       refine hK.out _ _ ?_ (fun hHeld=> ?_)
       ·exact zb8 Do.out.bc
       clear hK K
       (try simp only[Act.put,List.setIfInBounds_toArray,List.set_cons_zero,List.set_cons_succ])
       refine wpAnyH_ready (rs:=[5]) (by kernel_rfl) (by simp) ?_;refine AllReadyH.cons rfl (fun K hK=> ?_) AllReadyH.nil;have Da:Hid (PD w (wo.alloc (.cells #[.int .i64 veh,.slice ax lr cx] 43)) q a bs c #[.int .i64 n,.slice (some ⟨g,0,none⟩) zl cg,.slice (some ⟨go,0,none⟩) ko co,.slice (some ⟨gv,0,none⟩) kv cv,.int .i64 fi] kp (.slice ra nr rc) (.slice la2 m cl) R L):=Do.out.below ((Below.refl _ _).alloc (Nat.le_refl _) _);have OA:Hid (World.ownsRow (wo.alloc (.cells #[.int .i64 veh,.slice ax lr cx] 43)) (w.heap.size+2) 2 1 (.slice ax lr cx) lr (Lr.map (Value.int .i64))):=OX.out.alloc _;have I7:Hid (∀j u,[Value.int .i64 veh,.slice ax lr cx][j]? =some u->World.cell? (wo.alloc (.cells #[.int .i64 veh,.slice ax lr cx] 43)) ⟨wo.heap.size,0+j,none⟩=some u):=zd9 _ _ _ _ _ rfl;go_simp;refine hK.out _ _ ?_ (fun hHeld=> ?_)
       ·exact zb8 Da.out.bc
       clear hK K;obtain⟨ka,HKA⟩:=nmd wo.heap.size;rw[HKA.out]at I7⊢;generalize wo.alloc (.cells #[.int .i64 veh,.slice ax lr cx] 43)=Wa at*;refine wpAnyH_ready (rs:=[6]) (by kernel_rfl) (by simp) ?_;refine AllReadyH.cons rfl (fun K hK=> ?_) AllReadyH.nil;refine zd3 Tryz.underlying31 zk5 (by rfl) (by omega) rfl (.tmp 97) (.tmp 101) rfl (w.heap.size+2) (.slice ra nr rc) nr (zi6 R) rfl (by have:=Da.out.po.r;rw[HNR.out]at this;exact this) ka 0 1 1 [.int .i64 veh,.slice ax lr cx] rfl rfl I7.out (by simp[Value.oneCell']) (by omega) (by omega) (by have:=Da.out.size;omega) ?_;intro v' wp ho hg hbk hn9;rcases own_kinds ho with⟨_,e0⟩|⟨g9,c9,e9,-,-⟩
       ·omega
       subst e9;have Dp:Hid (PD w (wp.setCell ⟨kp,0,none⟩ (.slice (some ⟨g9,0,none⟩) (nr+1) c9)) q a bs c #[.int .i64 n,.slice (some ⟨g,0,none⟩) zl cg,.slice (some ⟨go,0,none⟩) ko co,.slice (some ⟨gv,0,none⟩) kv cv,.int .i64 fi] kp (.slice (some ⟨g9,0,none⟩) (nr+1) c9) (.slice la2 m cl) (R++[⟨veh,ax,Lr,cx⟩]) L):=Da.out.addR (r:=⟨veh,ax,Lr,cx⟩) (by have:=OA.out;rw[<-HLR.out]at this;exact this) hg (by rw[HNR.out];show World.ownsRow _ _ _ _ _ _ (_++[_,Value.slice _ Lr.length _]);rw[HLR.out];exact ho);have hbp:=za5 hg Da.out.bp (fun e=>(Da.out.rowR' _ e.symm).2 rfl);obtain⟨x4,y4⟩:=za2 hbp;have xf:=fun i=>frozen_of_row _ _ i _ _ hbp;have bc4:=za5 hg Da.out.bc (fun e=>by have:=(Da.out.rowR' _ e.symm).1;omega);clear ho hg hbk hn9 hbp;refine hK.out _ _ ?_ (fun hHeld=> ?_)
       ·exact zb8 bc4
       clear hK K;change wpAnyH _ _ _ _ _ _ _ (Act.put _ (some 102) _) _;simp only[Act.put,List.setIfInBounds_toArray,List.set_cons_zero,List.set_cons_succ];refine tkH 7 hHeld ?_;refine wpAnyH_ready (rs:=[8]) (by kernel_rfl) (by simp) ?_;refine AllReadyH.cons rfl (fun K hK=> ?_) AllReadyH.nil;go_simp;refine hK.out _ _ ?_ (fun hHeld=> ?_)
       ·exact zb8 Dp.out.bc
       clear hK K;clear x4 y4 xf;generalize wp.setCell ⟨kp,0,none⟩ (.slice (some ⟨g9,0,none⟩) (nr+1) c9)=Wz at*;refine wpAnyH_done (by kernel_rfl) ?_ _;obtain⟨t0,t1⟩:=za2 Dp.out.bp;obtain⟨b0,b1⟩:=za2 Dp.out.b0;have bf:=fun i=>frozen_of_row _ _ i _ _ Dp.out.b0;go_wp2;exact Dp.out.done (by rw[List.length_append,HNR.out];simp;omega) (fun r hr=>(List.mem_append.1 hr).elim (fun h=>by have:=(HRI.out r h).2;omega) (fun h=>by rw[show r=⟨veh,ax,Lr,cx⟩ by simpa using h];show Lr.length<=9;rw[HLR.out];omega)) (by rw[HM.out];omega) HLW.out (fun r hr=>(List.mem_append.1 hr).elim (HRP.out r) (fun h=>by rw[show r=⟨veh,ax,Lr,cx⟩ by simpa using h];exact HPR.out)) (by have:=HLN2.out;rw[HM.out]at this;exact this) _ (by rfl) (by rfl)
      refine AllReadyH.cons rfl (fun K hK=> ?_) AllReadyH.nil;obtain⟨pb,hrb⟩:=D1.out.r;go_simp;refine(zD8 P q pb c n fi g zl cg go ko co gv kv cv O V a bs _ hrb (D1.out.ints HO.out.1 HO.out.2) (D1.out.ints HV.out.1 HV.out.2) HO.out.2 HV.out.2 HLO.out HLV.out hk1 hk2 hv1 hv2 HPO.out HPN.out).mono ?_;rintro e wo ⟨veh,sl,Lr,rfl,hl4,hg,⟨p7,hr⟩,ho,hpr⟩;have HPR:Hid (∀x∈Lr,P x):=hpr;clear hpr;obtain⟨ax,cx,e⟩:=zm3 ho;subst e;have Do:Hid (PD w wo q a bs c #[.int .i64 n,.slice (some ⟨g,0,none⟩) zl cg,.slice (some ⟨go,0,none⟩) ko co,.slice (some ⟨gv,0,none⟩) kv cv,.int .i64 fi] kp (.slice ra nr rc) (.slice la2 m cl) R L):=D1.out.read hr hg;have OX:Hid (wo.ownsRow (w.heap.size+2) 2 1 (.slice ax Lr.length cx) Lr.length (Lr.map (Value.int .i64))):=zc5 ho (by have:=D1.out.size;omega);obtain⟨lr,HLR⟩:=nmd Lr.length;rw[HLR.out]at hl4 OX⊢;clear hr hg ho hrb
      (try go_wp2_with fail)
      refine hK.out _ _ ?_ (fun hHeld=> ?_)
      ·exact zb8 Do.out.bc
      clear hK K
      (try simp only[Act.put,List.setIfInBounds_toArray,List.set_cons_zero,List.set_cons_succ])
      refine wpAnyH_ready (rs:=[1,5]) (by kernel_rfl) (by simp) ?_;refine AllReadyH.cons rfl (fun K hK=> ?_) ?_
      ·skip
       obtain⟨t0,t1⟩:=za2 Do.out.bp;go_simp;refine hK.out _ _ ?_ (fun hHeld=> ?_)
       ·exact zb8 Do.out.bc
       clear hK K;refine wpAnyH_ready (rs:=[5]) (by kernel_rfl) (by simp) ?_;refine AllReadyH.cons rfl (fun K hK=> ?_) AllReadyH.nil;have Da:Hid (PD w (wo.alloc (.cells #[.int .i64 veh,.slice ax lr cx] 43)) q a bs c #[.int .i64 n,.slice (some ⟨g,0,none⟩) zl cg,.slice (some ⟨go,0,none⟩) ko co,.slice (some ⟨gv,0,none⟩) kv cv,.int .i64 fi] kp (.slice ra nr rc) (.slice la2 m cl) R L):=Do.out.below ((Below.refl _ _).alloc (Nat.le_refl _) _);have OA:Hid (World.ownsRow (wo.alloc (.cells #[.int .i64 veh,.slice ax lr cx] 43)) (w.heap.size+2) 2 1 (.slice ax lr cx) lr (Lr.map (Value.int .i64))):=OX.out.alloc _;have I7:Hid (∀j u,[Value.int .i64 veh,.slice ax lr cx][j]? =some u->World.cell? (wo.alloc (.cells #[.int .i64 veh,.slice ax lr cx] 43)) ⟨wo.heap.size,0+j,none⟩=some u):=zd9 _ _ _ _ _ rfl;go_simp;refine hK.out _ _ ?_ (fun hHeld=> ?_)
       ·exact zb8 Da.out.bc
       clear hK K;obtain⟨ka,HKA⟩:=nmd wo.heap.size;rw[HKA.out]at I7⊢;generalize wo.alloc (.cells #[.int .i64 veh,.slice ax lr cx] 43)=Wa at*;refine wpAnyH_ready (rs:=[6]) (by kernel_rfl) (by simp) ?_;refine AllReadyH.cons rfl (fun K hK=> ?_) AllReadyH.nil;refine zd3 Tryz.underlying31 zk5 (by rfl) (by omega) rfl (.tmp 97) (.tmp 101) rfl (w.heap.size+2) (.slice ra nr rc) nr (zi6 R) rfl (by have:=Da.out.po.r;rw[HNR.out]at this;exact this) ka 0 1 1 [.int .i64 veh,.slice ax lr cx] rfl rfl I7.out (by simp[Value.oneCell']) (by omega) (by omega) (by have:=Da.out.size;omega) ?_;intro v' wp ho hg hbk hn9;rcases own_kinds ho with⟨_,e0⟩|⟨g9,c9,e9,-,-⟩
       ·omega
       subst e9;have Dp:Hid (PD w (wp.setCell ⟨kp,0,none⟩ (.slice (some ⟨g9,0,none⟩) (nr+1) c9)) q a bs c #[.int .i64 n,.slice (some ⟨g,0,none⟩) zl cg,.slice (some ⟨go,0,none⟩) ko co,.slice (some ⟨gv,0,none⟩) kv cv,.int .i64 fi] kp (.slice (some ⟨g9,0,none⟩) (nr+1) c9) (.slice la2 m cl) (R++[⟨veh,ax,Lr,cx⟩]) L):=Da.out.addR (r:=⟨veh,ax,Lr,cx⟩) (by have:=OA.out;rw[<-HLR.out]at this;exact this) hg (by rw[HNR.out];show World.ownsRow _ _ _ _ _ _ (_++[_,Value.slice _ Lr.length _]);rw[HLR.out];exact ho);have hbp:=za5 hg Da.out.bp (fun e=>(Da.out.rowR' _ e.symm).2 rfl);obtain⟨x4,y4⟩:=za2 hbp;have xf:=fun i=>frozen_of_row _ _ i _ _ hbp;have bc4:=za5 hg Da.out.bc (fun e=>by have:=(Da.out.rowR' _ e.symm).1;omega);clear ho hg hbk hn9 hbp;refine hK.out _ _ ?_ (fun hHeld=> ?_)
       ·exact zb8 bc4
       clear hK K;change wpAnyH _ _ _ _ _ _ _ (Act.put _ (some 102) _) _;simp only[Act.put,List.setIfInBounds_toArray,List.set_cons_zero,List.set_cons_succ];refine tkH 7 hHeld ?_;refine wpAnyH_ready (rs:=[8]) (by kernel_rfl) (by simp) ?_;refine AllReadyH.cons rfl (fun K hK=> ?_) AllReadyH.nil;go_simp;refine hK.out _ _ ?_ (fun hHeld=> ?_)
       ·exact zb8 Dp.out.bc
       clear hK K;clear x4 y4 xf;generalize wp.setCell ⟨kp,0,none⟩ (.slice (some ⟨g9,0,none⟩) (nr+1) c9)=Wz at*;refine wpAnyH_done (by kernel_rfl) ?_ _;obtain⟨t0,t1⟩:=za2 Dp.out.bp;obtain⟨b0,b1⟩:=za2 Dp.out.b0;have bf:=fun i=>frozen_of_row _ _ i _ _ Dp.out.b0;go_wp2;exact Dp.out.done (by rw[List.length_append,HNR.out];simp;omega) (fun r hr=>(List.mem_append.1 hr).elim (fun h=>by have:=(HRI.out r h).2;omega) (fun h=>by rw[show r=⟨veh,ax,Lr,cx⟩ by simpa using h];show Lr.length<=9;rw[HLR.out];omega)) (by rw[HM.out];omega) HLW.out (fun r hr=>(List.mem_append.1 hr).elim (HRP.out r) (fun h=>by rw[show r=⟨veh,ax,Lr,cx⟩ by simpa using h];exact HPR.out)) (by have:=HLN2.out;rw[HM.out]at this;exact this) _ (by rfl) (by rfl)
      refine AllReadyH.cons rfl (fun K hK=> ?_) AllReadyH.nil;have Da:Hid (PD w (wo.alloc (.cells #[.int .i64 veh,.slice ax lr cx] 43)) q a bs c #[.int .i64 n,.slice (some ⟨g,0,none⟩) zl cg,.slice (some ⟨go,0,none⟩) ko co,.slice (some ⟨gv,0,none⟩) kv cv,.int .i64 fi] kp (.slice ra nr rc) (.slice la2 m cl) R L):=Do.out.below ((Below.refl _ _).alloc (Nat.le_refl _) _);have OA:Hid (World.ownsRow (wo.alloc (.cells #[.int .i64 veh,.slice ax lr cx] 43)) (w.heap.size+2) 2 1 (.slice ax lr cx) lr (Lr.map (Value.int .i64))):=OX.out.alloc _;have I7:Hid (∀j u,[Value.int .i64 veh,.slice ax lr cx][j]? =some u->World.cell? (wo.alloc (.cells #[.int .i64 veh,.slice ax lr cx] 43)) ⟨wo.heap.size,0+j,none⟩=some u):=zd9 _ _ _ _ _ rfl;go_simp;refine hK.out _ _ ?_ (fun hHeld=> ?_)
      ·exact zb8 Da.out.bc
      clear hK K;obtain⟨ka,HKA⟩:=nmd wo.heap.size;rw[HKA.out]at I7⊢;generalize wo.alloc (.cells #[.int .i64 veh,.slice ax lr cx] 43)=Wa at*;refine wpAnyH_ready (rs:=[1]) (by kernel_rfl) (by simp) ?_;refine AllReadyH.cons rfl (fun K hK=> ?_) AllReadyH.nil;obtain⟨t0,t1⟩:=za2 Da.out.bp;go_simp;refine hK.out _ _ ?_ (fun hHeld=> ?_)
      ·exact zb8 Da.out.bc
      clear hK K;refine wpAnyH_ready (rs:=[6]) (by kernel_rfl) (by simp) ?_;refine AllReadyH.cons rfl (fun K hK=> ?_) AllReadyH.nil;refine zd3 Tryz.underlying31 zk5 (by rfl) (by omega) rfl (.tmp 97) (.tmp 101) rfl (w.heap.size+2) (.slice ra nr rc) nr (zi6 R) rfl (by have:=Da.out.po.r;rw[HNR.out]at this;exact this) ka 0 1 1 [.int .i64 veh,.slice ax lr cx] rfl rfl I7.out (by simp[Value.oneCell']) (by omega) (by omega) (by have:=Da.out.size;omega) ?_;intro v' wp ho hg hbk hn9;rcases own_kinds ho with⟨_,e0⟩|⟨g9,c9,e9,-,-⟩
      ·omega
      subst e9;have Dp:Hid (PD w (wp.setCell ⟨kp,0,none⟩ (.slice (some ⟨g9,0,none⟩) (nr+1) c9)) q a bs c #[.int .i64 n,.slice (some ⟨g,0,none⟩) zl cg,.slice (some ⟨go,0,none⟩) ko co,.slice (some ⟨gv,0,none⟩) kv cv,.int .i64 fi] kp (.slice (some ⟨g9,0,none⟩) (nr+1) c9) (.slice la2 m cl) (R++[⟨veh,ax,Lr,cx⟩]) L):=Da.out.addR (r:=⟨veh,ax,Lr,cx⟩) (by have:=OA.out;rw[<-HLR.out]at this;exact this) hg (by rw[HNR.out];show World.ownsRow _ _ _ _ _ _ (_++[_,Value.slice _ Lr.length _]);rw[HLR.out];exact ho);have hbp:=za5 hg Da.out.bp (fun e=>(Da.out.rowR' _ e.symm).2 rfl);obtain⟨x4,y4⟩:=za2 hbp;have xf:=fun i=>frozen_of_row _ _ i _ _ hbp;have bc4:=za5 hg Da.out.bc (fun e=>by have:=(Da.out.rowR' _ e.symm).1;omega);clear ho hg hbk hn9 hbp;refine hK.out _ _ ?_ (fun hHeld=> ?_)
      ·exact zb8 bc4
      clear hK K;change wpAnyH _ _ _ _ _ _ _ (Act.put _ (some 102) _) _;simp only[Act.put,List.setIfInBounds_toArray,List.set_cons_zero,List.set_cons_succ];refine tkH 7 hHeld ?_;refine wpAnyH_ready (rs:=[8]) (by kernel_rfl) (by simp) ?_;refine AllReadyH.cons rfl (fun K hK=> ?_) AllReadyH.nil;go_simp;refine hK.out _ _ ?_ (fun hHeld=> ?_)
      ·exact zb8 Dp.out.bc
      clear hK K;clear x4 y4 xf;generalize wp.setCell ⟨kp,0,none⟩ (.slice (some ⟨g9,0,none⟩) (nr+1) c9)=Wz at*;refine wpAnyH_done (by kernel_rfl) ?_ _;obtain⟨t0,t1⟩:=za2 Dp.out.bp;obtain⟨b0,b1⟩:=za2 Dp.out.b0;have bf:=fun i=>frozen_of_row _ _ i _ _ Dp.out.b0;go_wp2;exact Dp.out.done (by rw[List.length_append,HNR.out];simp;omega) (fun r hr=>(List.mem_append.1 hr).elim (fun h=>by have:=(HRI.out r h).2;omega) (fun h=>by rw[show r=⟨veh,ax,Lr,cx⟩ by simpa using h];show Lr.length<=9;rw[HLR.out];omega)) (by rw[HM.out];omega) HLW.out (fun r hr=>(List.mem_append.1 hr).elim (HRP.out r) (fun h=>by rw[show r=⟨veh,ax,Lr,cx⟩ by simpa using h];exact HPR.out)) (by have:=HLN2.out;rw[HM.out]at this;exact this) _ (by rfl) (by rfl)
     ·have e29:((y6:Int)==29)=false:=by simp;omega
      have e28:((y6:Int)==28)=false:=by simp;omega
      clear h29 h28;obtain⟨t0,t1⟩:=za2 D6.out.bp;obtain⟨b0,b1⟩:=za2 D6.out.b0;have bf:=fun i=>frozen_of_row _ _ i _ _ D6.out.b0;go_wp2;exact D6.out.done (by rw[HNR.out];omega) (fun r hr=>by have:=(HRI.out r hr).2;omega) (by rw[HM.out];omega) HLW.out HRP.out (by have:=HLN2.out;rw[HM.out]at this;exact this) _ (by rfl) (by rfl)
end Go.Proofs.YtjobhigmdaiinaaGreat
