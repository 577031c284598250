import Derived.Test.YtjobhigmdaiinaaGreatPack2
import Derived.Test.YtjobhigmdaiinaaGreatPack30
import Derived.BigQuiet
import Derived.Deep.RegionHeld3
import Derived.Deep.CutRange
namespace Go.Proofs.YtjobhigmdaiinaaGreat
open Go.RowKit
set_option maxRecDepth 10000 in
set_option maxHeartbeats 4000000 in
theorem zL7(n fine:Int)(a ao av ra la:Option Addr)(zl cap ko co kv cv nr rc ln lc:Nat)(zs os vs:List Int)(R:List RT)(w:World)(hA:za0 w a zs)(hO:za0 w ao os)(hV:za0 w av vs)(hlz:zs.length=zl)(hlo:os.length=ko*6)(hlv:vs.length=kv*5)(hko:ko<=9223372036854775807)(hkv:kv<=9223372036854775807)(hcB:zb8 n zs os vs ko kv fine=true)(hR:za6 w ra R)(hnr:R.length=nr)(hn:nr<=100)(hS:ze1 R)(hi:zn1 R)(id veh:Int)(pl pc pp:Nat)(hpc:w.heap[pc]? =some (.cells #[.int .i64 n,.slice a zl cap,.slice ao ko co,.slice av kv cv,.int .i64 fine] 30 (0,0)))(hpp:w.heap[pp]? =some (.cells #[(.slice ra nr rc),(.slice la ln lc)] 33 (0,0))):
 Calls Tryz.prog 61 #[.agg #[.int .i64 id,.int .i64 veh,.int .i64 (pl:Int)],.pointer (some ⟨pc,0,none⟩),.pointer (some ⟨pp,0,none⟩)] w fun e w'=>e=.returned (.tuple #[.int .i64 (gD n zs os vs ko kv R (id,veh,pl)),.bool (gOk n fine zs os vs ko kv R (id,veh,pl))])/\Below w.heap.size w w':=by
 have B0:Hid (Below w.heap.size w (w.alloc (.cells #[.int .i64 id,.int .i64 veh,.int .i64 (pl:Int)] 86))):=(Below.refl _ _).alloc (Nat.le_refl _) _;obtain⟨ch,HCH⟩:=nmd (gB n zs os vs ko kv R (id,veh,pl));obtain⟨dd,HDD⟩:=nmd (gD n zs os vs ko kv R (id,veh,pl));obtain⟨xs,HXS⟩:=nmd (chL ch (insL (zd9 R veh).ids pl id));obtain⟨vv,HVV⟩:=nmd (chI ch veh);obtain⟨xl,HXL⟩:=nmd xs.length;have hok:(ch=true/\dd<=fine/\gOk n fine zs os vs ko kv R (id,veh,pl)=true)∨(ch=true/\¬dd<=fine/\gOk n fine zs os vs ko kv R (id,veh,pl)=false)∨(ch=false/\gOk n fine zs os vs ko kv R (id,veh,pl)=false):=by
  unfold gOk;rw[HCH.out,HDD.out];cases ch
  ·exact .inr (.inr ⟨rfl,rfl⟩)
  ·by_cases h:dd<=fine
   ·exact .inl ⟨rfl,h,by simp[h]⟩
   ·exact .inr (.inl ⟨rfl,h,by simp[h]⟩)
 have CH0:=zR1 n fine a ao av ra cap ko co kv cv zs os vs R (w.alloc (.cells #[.int .i64 id,.int .i64 veh,.int .i64 (pl:Int)] 86)) (hA.below B0.out) (hO.below B0.out) (hV.below B0.out) hlo hlv hko hkv hcB (hR.below B0.out) hi id veh pl ch HCH.out dd HDD.out xs HXS.out;have RO0:∀W,Below (w.alloc (.cells #[.int .i64 id,.int .i64 veh,.int .i64 (pl:Int)] 86)).heap.size (w.alloc (.cells #[.int .i64 id,.int .i64 veh,.int .i64 (pl:Int)] 86)) W->_:=fun W hW=>zv6 ra la rc ln lc R veh W ((hR.below B0.out).below hW) (by omega) hS
 rw[hnr]at RO0;rw[hlz]at CH0;rw[HDD.out];have G0:Hid (GB (w.alloc (.cells #[.int .i64 id,.int .i64 veh,.int .i64 (pl:Int)] 86)) (w.alloc (.cells #[.int .i64 id,.int .i64 veh,.int .i64 (pl:Int)] 86)) pc pp w.heap.size #[.int .i64 n,.slice a zl cap,.slice ao ko co,.slice av kv cv,.int .i64 fine] (.slice ra nr rc) (.slice la ln lc) id veh pl):=GB.new ((heap_alloc_old _ _ (za3 hpc)).trans hpc) ((heap_alloc_old _ _ (za3 hpp)).trans hpp) (heap_alloc_new _ _);obtain⟨rl,HRL⟩:=nmd ((zd9 R veh).ids.length);obtain⟨ra9,HRA⟩:=nmd ((zd9 R veh).a);obtain⟨rc9,HRC⟩:=nmd ((zd9 R veh).c);rw[HRL.out,HRA.out,HRC.out]at RO0 CH0;have RO:Hid _:=RO0;have CH:Hid _:=CH0;clear RO0 CH0 hA hO hV hlz hlo hlv hko hkv hcB hR hnr hn hS hi hpc hpp;go_enter Tryz.func61,Tryz.ntmps61;go_upto_region 1 with fail;obtain⟨ps,HPS⟩:=nmd w.heap.size;rw[HPS.out]at G0⊢;generalize w.alloc (.cells #[.int .i64 id,.int .i64 veh,.int .i64 (pl:Int)] 86)=W0 at*;go_cut [6,7,8]from 9 to 23 (fun s6 s7 s8 wx=>∃kz:Nat,s6=.pointer (some ⟨kz,0,none⟩)/\s7=.int .i64 dd/\s8=.bool ch/\GB W0 wx pc pp ps #[.int .i64 n,.slice a zl cap,.slice ao ko co,.slice av kv cv,.int .i64 fine] (.slice ra nr rc) (.slice la ln lc) id veh pl)
 case first=>
  go_wp2_with fail
  refine wp_region_held_drew (S:=(fun W=>W.cell? ⟨pc,0,none⟩=some (.int .i64 n)/\W.cell? ⟨pc,1,none⟩=some (.slice a zl cap)/\W.cell? ⟨pc,2,none⟩=some (.slice ao ko co)/\W.cell? ⟨pc,3,none⟩=some (.slice av kv cv)/\W.cell? ⟨pc,4,none⟩=some (.int .i64 fine)/\W.cell? ⟨pp,0,none⟩=some (.slice ra nr rc)/\W.cell? ⟨pp,1,none⟩=some (.slice la ln lc)/\W.cell? ⟨ps,0,none⟩=some (.int .i64 id)/\W.cell? ⟨ps,1,none⟩=some (.int .i64 veh)/\W.cell? ⟨ps,2,none⟩=some (.int .i64 (pl:Int)))) (by kernel_rfl) ?_ (fun hHeld=> ?_)
  ·exact(G0.out.below (Below.refl _ _).drew).cells
  have GD:Hid (GB W0 W0.drew pc pp ps #[.int .i64 n,.slice a zl cap,.slice ao ko co,.slice av kv cv,.int .i64 fine] (.slice ra nr rc) (.slice la ln lc) id veh pl):=G0.out.below (Below.refl _ _).drew;generalize W0.drew=wd at*;refine tkH 0 hHeld ?_;refine tkH 1 hHeld ?_;refine tkH 2 hHeld ?_;refine tkH 3 hHeld ?_;refine tkH 5 hHeld ?_;refine tkH 6 hHeld ?_;refine tkH 7 hHeld ?_;refine tkH 8 hHeld ?_;refine wpAnyH_ready (rs:=[4,15]) (by kernel_rfl) (by simp) ?_;refine AllReadyH.cons rfl (fun K hK=> ?_) ?_
  ·skip
   go_simp;refine(RO.out wd GD.out.b).mono ?_;rintro e w1 ⟨rfl,hb⟩;have G1:Hid (GB W0 w1 pc pp ps #[.int .i64 n,.slice a zl cap,.slice ao ko co,.slice av kv cv,.int .i64 fine] (.slice ra nr rc) (.slice la ln lc) id veh pl):=GD.out.below hb;clear hb
   (try go_wp2_with fail)
   refine hK.out _ _ ?_ (fun hHeld=> ?_)
   ·exact G1.out.cells
   clear hK K
   (try simp only[Act.put,List.setIfInBounds_toArray,List.set_cons_zero,List.set_cons_succ])
   refine wpAnyH_ready (rs:=[9,15]) (by kernel_rfl) (by simp) ?_;refine AllReadyH.cons rfl (fun K hK=> ?_) ?_
   ·skip
    go_simp;refine(ze6 id (pl:Int) w1).mono ?_;rintro e w2 ⟨p,q,rfl,hb,hcp,hcq⟩;have G2:Hid (GB W0 w2 pc pp ps #[.int .i64 n,.slice a zl cap,.slice ao ko co,.slice av kv cv,.int .i64 fine] (.slice ra nr rc) (.slice la ln lc) id veh pl):=G1.out.below hb;have HP2:Hid (w2.cell? ⟨p,0,none⟩=some (.int .i64 (pl:Int))/\w2.cell? ⟨q,0,none⟩=some (.int .i64 id)):=⟨hcp,hcq⟩;have PB:Hid (Below w2.heap.size w2 w2):=Below.refl _ _;clear hb hcp hcq
    (try go_wp2_with fail)
    refine hK.out _ _ ?_ (fun hHeld=> ?_)
    ·exact G2.out.cells
    clear hK K
    (try simp only[Act.put,List.setIfInBounds_toArray,List.set_cons_zero,List.set_cons_succ])
    refine wpAnyH_ready (rs:=[10,15]) (by kernel_rfl) (by simp) ?_;refine AllReadyH.cons rfl (fun K hK=> ?_) ?_
    ·skip
     go_simp;refine(CH.out w2 w2 p q G2.out.b HP2.out.1 HP2.out.2 PB.out).mono ?_;rintro e w3 ⟨hb,ad,cg,rfl,ho⟩;rw[HVV.out,HXL.out];have G3:Hid (GB W0 w3 pc pp ps #[.int .i64 n,.slice a zl cap,.slice ao ko co,.slice av kv cv,.int .i64 fine] (.slice ra nr rc) (.slice la ln lc) id veh pl):=G2.out.below hb;clear hb ho
     (try go_wp2_with fail)
     refine hK.out _ _ ?_ (fun hHeld=> ?_)
     ·exact G3.out.cells
     clear hK K
     (try simp only[Act.put,List.setIfInBounds_toArray,List.set_cons_zero,List.set_cons_succ])
     refine tkH 11 hHeld ?_;refine tkH 12 hHeld ?_;refine tkH 13 hHeld ?_;refine tkH 14 hHeld ?_;refine wpAnyH_ready (rs:=[15]) (by kernel_rfl) (by simp) ?_;refine AllReadyH.cons rfl (fun K hK=> ?_) AllReadyH.nil;have GZ:Hid (GB W0 (w3.alloc (.cells #[Value.int .i64 0,Value.slice none 0 0] 43)) pc pp ps #[.int .i64 n,.slice a zl cap,.slice ao ko co,.slice av kv cv,.int .i64 fine] (.slice ra nr rc) (.slice la ln lc) id veh pl):=G3.out.below ((Below.refl _ _).alloc (Nat.le_refl _) _);have VZ0:Hid ((w3.alloc (.cells #[Value.int .i64 0,Value.slice none 0 0] 43)).heap[w3.heap.size]? =some (.cells #[Value.int .i64 0,Value.slice none 0 0] 43 (0,0))):=heap_alloc_new _ _;have HZL:Hid (W0.heap.size<=w3.heap.size):=G3.out.b.size;go_simp;refine hK.out _ _ ?_ (fun hHeld=> ?_)
     ·exact GZ.out.cells
     clear hK K
     (try simp only[Act.put,List.setIfInBounds_toArray,List.set_cons_zero,List.set_cons_succ])
     obtain⟨kz,HKZ⟩:=nmd w3.heap.size;rw[HKZ.out]at VZ0 HZL⊢;generalize(w3.alloc (.cells #[Value.int .i64 0,Value.slice none 0 0] 43))=wz at*;obtain⟨z0,z1⟩:=za2 VZ0.out;have zf:=fun i=>frozen_of_row _ _ i _ _ VZ0.out;refine wpAnyH_ready (rs:=[16]) (by kernel_rfl) (by simp) ?_;refine AllReadyH.cons rfl (fun K hK=> ?_) AllReadyH.nil;have G5:Hid (GB W0 ((wz.setCell ⟨kz,0,none⟩ (.int .i64 vv)).setCell ⟨kz,1,none⟩ (.slice ad xl cg)) pc pp ps #[.int .i64 n,.slice a zl cap,.slice ao ko co,.slice av kv cv,.int .i64 fine] (.slice ra nr rc) (.slice la ln lc) id veh pl):=(GZ.out.set HZL.out).set HZL.out;have V5:Hid (((wz.setCell ⟨kz,0,none⟩ (.int .i64 vv)).setCell ⟨kz,1,none⟩ (.slice ad xl cg)).heap[kz]? =some (.cells #[.int .i64 vv,.slice ad xl cg] 43 (0,0))):=by
      have s1:=heap_setCell_same wz kz 0 _ _ (Value.int .i64 vv) VZ0.out;have s2:=heap_setCell_same _ kz 1 _ _ (Value.slice ad xl cg) s1;simp at s2;exact s2
     go_simp;refine hK.out _ _ ?_ (fun hHeld=> ?_)
     ·exact G5.out.cells
     clear hK K;generalize((wz.setCell ⟨kz,0,none⟩ (.int .i64 vv)).setCell ⟨kz,1,none⟩ (.slice ad xl cg))=w5 at*;refine tkH 17 hHeld ?_;refine tkH 18 hHeld ?_;refine wpAnyH_done (by kernel_rfl) ?_ _;clear hHeld
     (try go_wp2_with fail)
     go_meet;exact⟨kz,rfl,rfl,rfl,G5.out⟩
    refine AllReadyH.cons rfl (fun K hK=> ?_) AllReadyH.nil;have GZ:Hid (GB W0 (w2.alloc (.cells #[Value.int .i64 0,Value.slice none 0 0] 43)) pc pp ps #[.int .i64 n,.slice a zl cap,.slice ao ko co,.slice av kv cv,.int .i64 fine] (.slice ra nr rc) (.slice la ln lc) id veh pl):=G2.out.below ((Below.refl _ _).alloc (Nat.le_refl _) _);have VZ0:Hid ((w2.alloc (.cells #[Value.int .i64 0,Value.slice none 0 0] 43)).heap[w2.heap.size]? =some (.cells #[Value.int .i64 0,Value.slice none 0 0] 43 (0,0))):=heap_alloc_new _ _;have HZL:Hid (W0.heap.size<=w2.heap.size):=G2.out.b.size;have PBZ:Hid (Below w2.heap.size w2 (w2.alloc (.cells #[Value.int .i64 0,Value.slice none 0 0] 43))):=(Below.refl _ _).alloc (Nat.le_refl _) _;go_simp;refine hK.out _ _ ?_ (fun hHeld=> ?_)
    ·exact GZ.out.cells
    clear hK K
    (try simp only[Act.put,List.setIfInBounds_toArray,List.set_cons_zero,List.set_cons_succ])
    obtain⟨kz,HKZ⟩:=nmd w2.heap.size;rw[HKZ.out]at VZ0 HZL⊢;generalize(w2.alloc (.cells #[Value.int .i64 0,Value.slice none 0 0] 43))=wz at*;obtain⟨z0,z1⟩:=za2 VZ0.out;have zf:=fun i=>frozen_of_row _ _ i _ _ VZ0.out;refine wpAnyH_ready (rs:=[10]) (by kernel_rfl) (by simp) ?_;refine AllReadyH.cons rfl (fun K hK=> ?_) AllReadyH.nil;go_simp;refine(CH.out w2 wz p q G2.out.b HP2.out.1 HP2.out.2 PBZ.out).mono ?_;rintro e w3 ⟨hb,ad,cg,rfl,ho⟩;rw[HVV.out,HXL.out];have G3:Hid (GB W0 w3 pc pp ps #[.int .i64 n,.slice a zl cap,.slice ao ko co,.slice av kv cv,.int .i64 fine] (.slice ra nr rc) (.slice la ln lc) id veh pl):=GZ.out.below hb;have VZ3:Hid (w3.heap[kz]? =some (.cells #[Value.int .i64 0,Value.slice none 0 0] 43 (0,0))):=za1 hb (za3 VZ0.out) VZ0.out;obtain⟨z0,z1⟩:=za2 VZ3.out;have zf:=fun i=>frozen_of_row _ _ i _ _ VZ3.out;clear hb ho
    (try go_wp2_with fail)
    refine hK.out _ _ ?_ (fun hHeld=> ?_)
    ·exact G3.out.cells
    clear hK K
    (try simp only[Act.put,List.setIfInBounds_toArray,List.set_cons_zero,List.set_cons_succ])
    refine tkH 11 hHeld ?_;refine tkH 12 hHeld ?_;refine tkH 13 hHeld ?_;refine tkH 14 hHeld ?_;refine wpAnyH_ready (rs:=[16]) (by kernel_rfl) (by simp) ?_;refine AllReadyH.cons rfl (fun K hK=> ?_) AllReadyH.nil;have G5:Hid (GB W0 ((w3.setCell ⟨kz,0,none⟩ (.int .i64 vv)).setCell ⟨kz,1,none⟩ (.slice ad xl cg)) pc pp ps #[.int .i64 n,.slice a zl cap,.slice ao ko co,.slice av kv cv,.int .i64 fine] (.slice ra nr rc) (.slice la ln lc) id veh pl):=(G3.out.set HZL.out).set HZL.out;have V5:Hid (((w3.setCell ⟨kz,0,none⟩ (.int .i64 vv)).setCell ⟨kz,1,none⟩ (.slice ad xl cg)).heap[kz]? =some (.cells #[.int .i64 vv,.slice ad xl cg] 43 (0,0))):=by
     have s1:=heap_setCell_same w3 kz 0 _ _ (Value.int .i64 vv) VZ3.out;have s2:=heap_setCell_same _ kz 1 _ _ (Value.slice ad xl cg) s1;simp at s2;exact s2
    go_simp;refine hK.out _ _ ?_ (fun hHeld=> ?_)
    ·exact G5.out.cells
    clear hK K;generalize((w3.setCell ⟨kz,0,none⟩ (.int .i64 vv)).setCell ⟨kz,1,none⟩ (.slice ad xl cg))=w5 at*;refine tkH 17 hHeld ?_;refine tkH 18 hHeld ?_;refine wpAnyH_done (by kernel_rfl) ?_ _;clear hHeld
    (try go_wp2_with fail)
    go_meet;exact⟨kz,rfl,rfl,rfl,G5.out⟩
   refine AllReadyH.cons rfl (fun K hK=> ?_) AllReadyH.nil;have GZ:Hid (GB W0 (w1.alloc (.cells #[Value.int .i64 0,Value.slice none 0 0] 43)) pc pp ps #[.int .i64 n,.slice a zl cap,.slice ao ko co,.slice av kv cv,.int .i64 fine] (.slice ra nr rc) (.slice la ln lc) id veh pl):=G1.out.below ((Below.refl _ _).alloc (Nat.le_refl _) _);have VZ0:Hid ((w1.alloc (.cells #[Value.int .i64 0,Value.slice none 0 0] 43)).heap[w1.heap.size]? =some (.cells #[Value.int .i64 0,Value.slice none 0 0] 43 (0,0))):=heap_alloc_new _ _;have HZL:Hid (W0.heap.size<=w1.heap.size):=G1.out.b.size;go_simp;refine hK.out _ _ ?_ (fun hHeld=> ?_)
   ·exact GZ.out.cells
   clear hK K
   (try simp only[Act.put,List.setIfInBounds_toArray,List.set_cons_zero,List.set_cons_succ])
   obtain⟨kz,HKZ⟩:=nmd w1.heap.size;rw[HKZ.out]at VZ0 HZL⊢;generalize(w1.alloc (.cells #[Value.int .i64 0,Value.slice none 0 0] 43))=wz at*;obtain⟨z0,z1⟩:=za2 VZ0.out;have zf:=fun i=>frozen_of_row _ _ i _ _ VZ0.out;refine wpAnyH_ready (rs:=[9]) (by kernel_rfl) (by simp) ?_;refine AllReadyH.cons rfl (fun K hK=> ?_) AllReadyH.nil;go_simp;refine(ze6 id (pl:Int) wz).mono ?_;rintro e w2 ⟨p,q,rfl,hb,hcp,hcq⟩;have G2:Hid (GB W0 w2 pc pp ps #[.int .i64 n,.slice a zl cap,.slice ao ko co,.slice av kv cv,.int .i64 fine] (.slice ra nr rc) (.slice la ln lc) id veh pl):=GZ.out.below hb;have HP2:Hid (w2.cell? ⟨p,0,none⟩=some (.int .i64 (pl:Int))/\w2.cell? ⟨q,0,none⟩=some (.int .i64 id)):=⟨hcp,hcq⟩;have PB:Hid (Below w2.heap.size w2 w2):=Below.refl _ _;have VZ2:Hid (w2.heap[kz]? =some (.cells #[Value.int .i64 0,Value.slice none 0 0] 43 (0,0))):=za1 hb (za3 VZ0.out) VZ0.out;clear hb hcp hcq
   (try go_wp2_with fail)
   refine hK.out _ _ ?_ (fun hHeld=> ?_)
   ·exact G2.out.cells
   clear hK K
   (try simp only[Act.put,List.setIfInBounds_toArray,List.set_cons_zero,List.set_cons_succ])
   refine wpAnyH_ready (rs:=[10]) (by kernel_rfl) (by simp) ?_;refine AllReadyH.cons rfl (fun K hK=> ?_) AllReadyH.nil;go_simp;refine(CH.out w2 w2 p q G2.out.b HP2.out.1 HP2.out.2 PB.out).mono ?_;rintro e w3 ⟨hb,ad,cg,rfl,ho⟩;rw[HVV.out,HXL.out];have G3:Hid (GB W0 w3 pc pp ps #[.int .i64 n,.slice a zl cap,.slice ao ko co,.slice av kv cv,.int .i64 fine] (.slice ra nr rc) (.slice la ln lc) id veh pl):=G2.out.below hb;have VZ3:Hid (w3.heap[kz]? =some (.cells #[Value.int .i64 0,Value.slice none 0 0] 43 (0,0))):=za1 hb (za3 VZ2.out) VZ2.out;obtain⟨z0,z1⟩:=za2 VZ3.out;have zf:=fun i=>frozen_of_row _ _ i _ _ VZ3.out;clear hb ho
   (try go_wp2_with fail)
   refine hK.out _ _ ?_ (fun hHeld=> ?_)
   ·exact G3.out.cells
   clear hK K
   (try simp only[Act.put,List.setIfInBounds_toArray,List.set_cons_zero,List.set_cons_succ])
   refine tkH 11 hHeld ?_;refine tkH 12 hHeld ?_;refine tkH 13 hHeld ?_;refine tkH 14 hHeld ?_;refine wpAnyH_ready (rs:=[16]) (by kernel_rfl) (by simp) ?_;refine AllReadyH.cons rfl (fun K hK=> ?_) AllReadyH.nil;have G5:Hid (GB W0 ((w3.setCell ⟨kz,0,none⟩ (.int .i64 vv)).setCell ⟨kz,1,none⟩ (.slice ad xl cg)) pc pp ps #[.int .i64 n,.slice a zl cap,.slice ao ko co,.slice av kv cv,.int .i64 fine] (.slice ra nr rc) (.slice la ln lc) id veh pl):=(G3.out.set HZL.out).set HZL.out;have V5:Hid (((w3.setCell ⟨kz,0,none⟩ (.int .i64 vv)).setCell ⟨kz,1,none⟩ (.slice ad xl cg)).heap[kz]? =some (.cells #[.int .i64 vv,.slice ad xl cg] 43 (0,0))):=by
    have s1:=heap_setCell_same w3 kz 0 _ _ (Value.int .i64 vv) VZ3.out;have s2:=heap_setCell_same _ kz 1 _ _ (Value.slice ad xl cg) s1;simp at s2;exact s2
   go_simp;refine hK.out _ _ ?_ (fun hHeld=> ?_)
   ·exact G5.out.cells
   clear hK K;generalize((w3.setCell ⟨kz,0,none⟩ (.int .i64 vv)).setCell ⟨kz,1,none⟩ (.slice ad xl cg))=w5 at*;refine tkH 17 hHeld ?_;refine tkH 18 hHeld ?_;refine wpAnyH_done (by kernel_rfl) ?_ _;clear hHeld
   (try go_wp2_with fail)
   go_meet;exact⟨kz,rfl,rfl,rfl,G5.out⟩
  refine AllReadyH.cons rfl (fun K hK=> ?_) AllReadyH.nil;have GZ:Hid (GB W0 (wd.alloc (.cells #[Value.int .i64 0,Value.slice none 0 0] 43)) pc pp ps #[.int .i64 n,.slice a zl cap,.slice ao ko co,.slice av kv cv,.int .i64 fine] (.slice ra nr rc) (.slice la ln lc) id veh pl):=GD.out.below ((Below.refl _ _).alloc (Nat.le_refl _) _);have VZ0:Hid ((wd.alloc (.cells #[Value.int .i64 0,Value.slice none 0 0] 43)).heap[wd.heap.size]? =some (.cells #[Value.int .i64 0,Value.slice none 0 0] 43 (0,0))):=heap_alloc_new _ _;have HZL:Hid (W0.heap.size<=wd.heap.size):=GD.out.b.size;go_simp;refine hK.out _ _ ?_ (fun hHeld=> ?_)
  ·exact GZ.out.cells
  clear hK K
  (try simp only[Act.put,List.setIfInBounds_toArray,List.set_cons_zero,List.set_cons_succ])
  obtain⟨kz,HKZ⟩:=nmd wd.heap.size;rw[HKZ.out]at VZ0 HZL⊢;generalize(wd.alloc (.cells #[Value.int .i64 0,Value.slice none 0 0] 43))=wz at*;obtain⟨z0,z1⟩:=za2 VZ0.out;have zf:=fun i=>frozen_of_row _ _ i _ _ VZ0.out;refine wpAnyH_ready (rs:=[4]) (by kernel_rfl) (by simp) ?_;refine AllReadyH.cons rfl (fun K hK=> ?_) AllReadyH.nil;go_simp;refine(RO.out wz GZ.out.b).mono ?_;rintro e w1 ⟨rfl,hb⟩;have G1:Hid (GB W0 w1 pc pp ps #[.int .i64 n,.slice a zl cap,.slice ao ko co,.slice av kv cv,.int .i64 fine] (.slice ra nr rc) (.slice la ln lc) id veh pl):=GZ.out.below hb;have VZ1:Hid (w1.heap[kz]? =some (.cells #[Value.int .i64 0,Value.slice none 0 0] 43 (0,0))):=za1 hb (za3 VZ0.out) VZ0.out;clear hb
  (try go_wp2_with fail)
  refine hK.out _ _ ?_ (fun hHeld=> ?_)
  ·exact G1.out.cells
  clear hK K
  (try simp only[Act.put,List.setIfInBounds_toArray,List.set_cons_zero,List.set_cons_succ])
  refine wpAnyH_ready (rs:=[9]) (by kernel_rfl) (by simp) ?_;refine AllReadyH.cons rfl (fun K hK=> ?_) AllReadyH.nil;go_simp;refine(ze6 id (pl:Int) w1).mono ?_;rintro e w2 ⟨p,q,rfl,hb,hcp,hcq⟩;have G2:Hid (GB W0 w2 pc pp ps #[.int .i64 n,.slice a zl cap,.slice ao ko co,.slice av kv cv,.int .i64 fine] (.slice ra nr rc) (.slice la ln lc) id veh pl):=G1.out.below hb;have HP2:Hid (w2.cell? ⟨p,0,none⟩=some (.int .i64 (pl:Int))/\w2.cell? ⟨q,0,none⟩=some (.int .i64 id)):=⟨hcp,hcq⟩;have PB:Hid (Below w2.heap.size w2 w2):=Below.refl _ _;have VZ2:Hid (w2.heap[kz]? =some (.cells #[Value.int .i64 0,Value.slice none 0 0] 43 (0,0))):=za1 hb (za3 VZ1.out) VZ1.out;clear hb hcp hcq
  (try go_wp2_with fail)
  refine hK.out _ _ ?_ (fun hHeld=> ?_)
  ·exact G2.out.cells
  clear hK K
  (try simp only[Act.put,List.setIfInBounds_toArray,List.set_cons_zero,List.set_cons_succ])
  refine wpAnyH_ready (rs:=[10]) (by kernel_rfl) (by simp) ?_;refine AllReadyH.cons rfl (fun K hK=> ?_) AllReadyH.nil;go_simp;refine(CH.out w2 w2 p q G2.out.b HP2.out.1 HP2.out.2 PB.out).mono ?_;rintro e w3 ⟨hb,ad,cg,rfl,ho⟩;rw[HVV.out,HXL.out];have G3:Hid (GB W0 w3 pc pp ps #[.int .i64 n,.slice a zl cap,.slice ao ko co,.slice av kv cv,.int .i64 fine] (.slice ra nr rc) (.slice la ln lc) id veh pl):=G2.out.below hb;have VZ3:Hid (w3.heap[kz]? =some (.cells #[Value.int .i64 0,Value.slice none 0 0] 43 (0,0))):=za1 hb (za3 VZ2.out) VZ2.out;obtain⟨z0,z1⟩:=za2 VZ3.out;have zf:=fun i=>frozen_of_row _ _ i _ _ VZ3.out;clear hb ho
  (try go_wp2_with fail)
  refine hK.out _ _ ?_ (fun hHeld=> ?_)
  ·exact G3.out.cells
  clear hK K
  (try simp only[Act.put,List.setIfInBounds_toArray,List.set_cons_zero,List.set_cons_succ])
  refine tkH 11 hHeld ?_;refine tkH 12 hHeld ?_;refine tkH 13 hHeld ?_;refine tkH 14 hHeld ?_;refine wpAnyH_ready (rs:=[16]) (by kernel_rfl) (by simp) ?_;refine AllReadyH.cons rfl (fun K hK=> ?_) AllReadyH.nil;have G5:Hid (GB W0 ((w3.setCell ⟨kz,0,none⟩ (.int .i64 vv)).setCell ⟨kz,1,none⟩ (.slice ad xl cg)) pc pp ps #[.int .i64 n,.slice a zl cap,.slice ao ko co,.slice av kv cv,.int .i64 fine] (.slice ra nr rc) (.slice la ln lc) id veh pl):=(G3.out.set HZL.out).set HZL.out;have V5:Hid (((w3.setCell ⟨kz,0,none⟩ (.int .i64 vv)).setCell ⟨kz,1,none⟩ (.slice ad xl cg)).heap[kz]? =some (.cells #[.int .i64 vv,.slice ad xl cg] 43 (0,0))):=by
   have s1:=heap_setCell_same w3 kz 0 _ _ (Value.int .i64 vv) VZ3.out;have s2:=heap_setCell_same _ kz 1 _ _ (Value.slice ad xl cg) s1;simp at s2;exact s2
  go_simp;refine hK.out _ _ ?_ (fun hHeld=> ?_)
  ·exact G5.out.cells
  clear hK K;generalize((w3.setCell ⟨kz,0,none⟩ (.int .i64 vv)).setCell ⟨kz,1,none⟩ (.slice ad xl cg))=w5 at*;refine tkH 17 hHeld ?_;refine tkH 18 hHeld ?_;refine wpAnyH_done (by kernel_rfl) ?_ _;clear hHeld
  (try go_wp2_with fail)
  go_meet;exact⟨kz,rfl,rfl,rfl,G5.out⟩
 case rest=>
  obtain⟨kz,rfl,rfl,rfl,hG5⟩:=hcut;obtain⟨w5,hw5⟩:∃v,v=wc:=⟨_,rfl⟩;subst hw5;have G5:Hid (GB W0 w5 pc pp ps #[.int .i64 n,.slice a zl cap,.slice ao ko co,.slice av kv cv,.int .i64 fine] (.slice ra nr rc) (.slice la ln lc) id veh pl):=hG5;clear hG5 G0;clear RO CH HVV HXL;rcases hok with⟨h1,h2,h3⟩|⟨h1,h2,h3⟩|⟨h1,h3⟩
  ·subst h1
   have hg:decide (dd<=fine)=true:=decide_eq_true h2;obtain⟨g0,g1,g2,g3,g4,-⟩:=G5.out.cells
   go_wp2_with fail
   go_quiet (fail)
   go_wp2;go_ret2;refine⟨by rw[h3];rfl,?_⟩;exact B0.out.trans ((G5.out.b.trans (below_drewN (Below.refl _ _) _)).mono B0.out.size)
  ·subst h1
   have hg:decide (dd<=fine)=false:=decide_eq_false (by omega);obtain⟨g0,g1,g2,g3,g4,-⟩:=G5.out.cells
   go_wp2_with fail
   go_quiet (fail)
   go_wp2;go_ret2;refine⟨by rw[h3];rfl,?_⟩;exact B0.out.trans ((G5.out.b.trans (below_drewN (Below.refl _ _) _)).mono B0.out.size)
  ·subst h1
   obtain⟨g0,g1,g2,g3,g4,-⟩:=G5.out.cells
   go_wp2_with fail
   go_quiet (fail)
   go_wp2;go_ret2;refine⟨by rw[h3];rfl,?_⟩;exact B0.out.trans ((G5.out.b.trans (below_drewN (Below.refl _ _) _)).mono B0.out.size)
end Go.Proofs.YtjobhigmdaiinaaGreat
