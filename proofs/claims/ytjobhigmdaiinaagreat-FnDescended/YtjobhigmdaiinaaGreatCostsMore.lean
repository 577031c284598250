import Derived.Test.YtjobhigmdaiinaaGreatPack1
import Derived.Test.YtjobhigmdaiinaaGreatPack5
import Derived.Test.YtjobhigmdaiinaaGreatPack19
import Derived.Test.YtjobhigmdaiinaaGreatPack29
import Derived.Test.YtjobhigmdaiinaaGreatPack30
import Derived.Test.YtjobhigmdaiinaaGreatPack41
import Derived.Deep.RegionHeld3
namespace Go.Proofs.YtjobhigmdaiinaaGreat
open Go.RowKit
theorem yv5{n:Int}{zs os vs:List Int}{ko kv:Nat}{fine:Int}(hc:zc9 n zs os vs ko kv fine=true)(v:Int)(ids:List Int):0<=rcV n zs os vs ko kv v ids/\rcV n zs os vs ko kv v ids<=130000:=by
 unfold rcV;split
 ·rename_i h
  exact zv6 (zc4 hc).1 _ _ (zm0 h) _
 ·omega
def cmF(n:Int)(zs os vs:List Int)(ko kv:Nat)(R R2:List RT)(v:Int):Int:=rcV n zs os vs ko kv v (zc8 R2 v).ids - rcV n zs os vs ko kv v (zc8 R v).ids
def cmK(n:Int)(zs os vs:List Int)(ko kv:Nat)(R2:List RT)(v:Int):Bool:=decide (codeV true n zs os vs ko kv v (zc8 R2 v).ids=0)
structure CB3(w W:World)(cs ps qs:Array Value):Prop where
 b:Below w.heap.size w W
 c:W.heap[w.heap.size]? =some (.cells cs 30 (0,0))
 p:W.heap[w.heap.size+1]? =some (.cells ps 33 (0,0))
 q:W.heap[w.heap.size+2]? =some (.cells qs 33 (0,0))
theorem CB3.below{w W W':World}{cs ps qs:Array Value}(h:CB3 w W cs ps qs)(hb:Below W.heap.size W W'):CB3 w W' cs ps qs:=
 ⟨h.b.trans (hb.mono h.b.size),za1 hb (za3 h.c) h.c,za1 hb (za3 h.p) h.p,za1 hb (za3 h.q) h.q⟩
theorem CB3.new(w:World)(cs ps qs:Array Value):CB3 w (((w.alloc (.cells cs 30)).alloc (.cells ps 33)).alloc (.cells qs 33)) cs ps qs:=by
 refine⟨(((Below.refl _ _).alloc (Nat.le_refl _) _).alloc (by simp) _).alloc (by simp;omega) _,?_,?_,?_⟩
 ·exact(heap_alloc_old _ _ (by simp;omega)).trans (heap_alloc2_old _ _ _)
 ·exact(heap_alloc_old _ _ (by simp)).trans (heap_alloc2_new _ _ _)
 ·have:=heap_alloc_new ((w.alloc (.cells cs 30)).alloc (.cells ps 33)) (.cells qs 33)
  simpa using this
theorem y30{w W:World}{n fine:Int}{a ao av ra la rb lb:Option Addr}{zl cap ko co kv cv nr rc ln lc mr mc ml mlc:Nat}(h:CB3 w W #[.int .i64 n,.slice a zl cap,.slice ao ko co,.slice av kv cv,.int .i64 fine] #[.slice ra nr rc,.slice la ln lc] #[.slice rb mr mc,.slice lb ml mlc]):W.cell? ⟨w.heap.size,0,none⟩=some (.int .i64 n)/\W.cell? ⟨w.heap.size,1,none⟩=some (.slice a zl cap)/\W.cell? ⟨w.heap.size,2,none⟩=some (.slice ao ko co)/\W.cell? ⟨w.heap.size,3,none⟩=some (.slice av kv cv)/\W.cell? ⟨w.heap.size,4,none⟩=some (.int .i64 fine)/\W.cell? ⟨w.heap.size+1,0,none⟩=some (.slice ra nr rc)/\W.cell? ⟨w.heap.size+1,1,none⟩=some (.slice la ln lc):=by
 obtain⟨c0,c1,c2,c3,c4⟩:=za8 h.c;obtain⟨p0,p1⟩:=za2 h.p;exact⟨c0,c1,c2,c3,c4,p0,p1⟩
theorem y27{w W:World}{n fine:Int}{a ao av ra la rb lb:Option Addr}{zl cap ko co kv cv nr rc ln lc mr mc ml mlc:Nat}(h:CB3 w W #[.int .i64 n,.slice a zl cap,.slice ao ko co,.slice av kv cv,.int .i64 fine] #[.slice ra nr rc,.slice la ln lc] #[.slice rb mr mc,.slice lb ml mlc]):W.cell? ⟨w.heap.size,0,none⟩=some (.int .i64 n)/\W.cell? ⟨w.heap.size,1,none⟩=some (.slice a zl cap)/\W.cell? ⟨w.heap.size,2,none⟩=some (.slice ao ko co)/\W.cell? ⟨w.heap.size,3,none⟩=some (.slice av kv cv)/\W.cell? ⟨w.heap.size,4,none⟩=some (.int .i64 fine)/\W.cell? ⟨w.heap.size+2,0,none⟩=some (.slice rb mr mc)/\W.cell? ⟨w.heap.size+2,1,none⟩=some (.slice lb ml mlc):=by
 obtain⟨c0,c1,c2,c3,c4⟩:=za8 h.c;obtain⟨p0,p1⟩:=za2 h.q;exact⟨c0,c1,c2,c3,c4,p0,p1⟩
theorem yr0(f:Int->Int){V:List Int}{i:Nat}(hi:i<V.length):((V.take (i+1)).map f).sum=((V.take i).map f).sum+f (V.getD i 0):=by
 rw[List.take_succ_eq_append_getElem hi,List.map_append,List.sum_append];simp[List.getD,hi]
set_option maxRecDepth 10000 in
set_option maxHeartbeats 4000000 in
theorem zI4(n fine v1 v2:Int)(a ao av ra la rb lb:Option Addr)(zl cap ko co kv cv nr rc ln lc mr mc ml mlc:Nat)(zs os vs:List Int)(R R2:List RT)(w:World)(hA:za0 w a zs)(hO:za0 w ao os)(hV:za0 w av vs)(hlz:zs.length=zl)(hlo:os.length=ko*6)(hlv:vs.length=kv*5)(hko:ko<=9223372036854775807)(hkv:kv<=9223372036854775807)(hcB:zc9 n zs os vs ko kv fine=true)(hR:za6 w ra R)(hnr:R.length=nr)(hn:nr<=100)(hS:zi9 R)(hi:zR6 R)(hR2:za6 w rb R2)(hmr:R2.length=mr)(hm2:mr<=100)(hS2:zi9 R2)(hi2:zR6 R2)(B:Bool)(hB:(z06 v1 v2).all (cmK n zs os vs ko kv R2)=B)(Dd:Int)(hD:(if B=true then((z06 v1 v2).map (cmF n zs os vs ko kv R R2)).sum else 0)=Dd):
 Calls Tryz.prog 97 #[.agg #[.int .i64 n,.slice a zl cap,.slice ao ko co,.slice av kv cv,.int .i64 fine],.agg #[.slice ra nr rc,.slice la ln lc],.agg #[.slice rb mr mc,.slice lb ml mlc],.int .i64 v1,.int .i64 v2] w fun e w'=>e=.returned (.tuple #[.int .i64 Dd,.bool B])/\Below w.heap.size w w':=by
 obtain⟨V,HV0⟩:=nmd (z06 v1 v2);obtain⟨f,HF⟩:=nmd (cmF n zs os vs ko kv R R2);obtain⟨ok,HOK⟩:=nmd (cmK n zs os vs ko kv R2);rw[HV0.out,HOK.out]at hB;rw[HV0.out,HF.out]at hD;have HB:Hid (V.all ok=B):=hB;have HD:Hid _:=hD;have hV2:V.length<=2:=by rw[<-HV0.out];unfold z06;split<;>simp
 obtain⟨m,HM⟩:=nmd V.length;have RO1:Hid (∀v W,Below w.heap.size w W->Calls Tryz.prog 62 #[.agg #[.slice ra nr rc,.slice la ln lc],.int .i64 v] W fun e w'=>e=.returned (.agg #[.int .i64 v,.slice (zc8 R v).a (zc8 R v).ids.length (zc8 R v).c])/\Below W.heap.size W w'):=fun v W hW=>by
  have:=zq8 ra la rc ln lc R v W (hR.below hW) (by omega) hS;rw[hnr]at this;exact this
 have RO2:Hid (∀v W,Below w.heap.size w W->Calls Tryz.prog 62 #[.agg #[.slice rb mr mc,.slice lb ml mlc],.int .i64 v] W fun e w'=>e=.returned (.agg #[.int .i64 v,.slice (zc8 R2 v).a (zc8 R2 v).ids.length (zc8 R2 v).c])/\Below W.heap.size W w'):=fun v W hW=>by
  have:=zq8 rb lb mc ml mlc R2 v W (hR2.below hW) (by omega) hS2;rw[hmr]at this;exact this
 have RC1:Hid (∀v W,Below w.heap.size w W->Calls Tryz.prog 79 #[.agg #[.int .i64 n,.slice a zl cap,.slice ao ko co,.slice av kv cv,.int .i64 fine],.agg #[.int .i64 v,.slice (zc8 R v).a (zc8 R v).ids.length (zc8 R v).c]] W fun e w'=>∃b,e=.returned (.tuple #[.int .i64 (rcV n zs os vs ko kv v (zc8 R v).ids),.bool b])/\Below W.heap.size W w'):=fun v W hW=>by
  obtain⟨q1,q2,q3,_⟩:=zF8 (hR.below hW) hi v;have:=zy9 n fine v a ao av (zc8 R v).a cap ko co kv cv (zc8 R v).c zs os vs (zc8 R v).ids W (hA.below hW) (hO.below hW) (hV.below hW) q1 hlo hlv hko hkv (by omega) q3 hcB _ rfl _ rfl;rw[hlz]at this;exact this.mono (fun e w' h=>⟨_,h⟩)
 have RC2:Hid (∀v W,Below w.heap.size w W->Calls Tryz.prog 79 #[.agg #[.int .i64 n,.slice a zl cap,.slice ao ko co,.slice av kv cv,.int .i64 fine],.agg #[.int .i64 v,.slice (zc8 R2 v).a (zc8 R2 v).ids.length (zc8 R2 v).c]] W fun e w'=>e=.returned (.tuple #[.int .i64 (rcV n zs os vs ko kv v (zc8 R2 v).ids),.bool (ok v)])/\Below W.heap.size W w'):=fun v W hW=>by
  obtain⟨q1,q2,q3,_⟩:=zF8 (hR2.below hW) hi2 v;have:=zy9 n fine v a ao av (zc8 R2 v).a cap ko co kv cv (zc8 R2 v).c zs os vs (zc8 R2 v).ids W (hA.below hW) (hO.below hW) (hV.below hW) q1 hlo hlv hko hkv (by omega) q3 hcB (ok v) (by rw[<-HOK.out];rfl) _ rfl;rw[hlz]at this;exact this
 have HFB:Hid (∀v,f v=rcV n zs os vs ko kv v (zc8 R2 v).ids - rcV n zs os vs ko kv v (zc8 R v).ids/\0<=rcV n zs os vs ko kv v (zc8 R2 v).ids/\rcV n zs os vs ko kv v (zc8 R2 v).ids<=130000/\0<=rcV n zs os vs ko kv v (zc8 R v).ids/\rcV n zs os vs ko kv v (zc8 R v).ids<=130000):=fun v=>by
  have b1:=yv5 hcB v (zc8 R2 v).ids;have b2:=yv5 hcB v (zc8 R v).ids;exact⟨by rw[<-HF.out];rfl,b1.1,b1.2,b2.1,b2.2⟩
 clear hA hO hV hlz hlo hlv hko hkv hcB hR hnr hn hS hi hR2 hmr hm2 hS2 hi2 hB hD HF HOK;have Q0:Hid (CB3 w (((w.alloc (.cells #[.int .i64 n,.slice a zl cap,.slice ao ko co,.slice av kv cv,.int .i64 fine] 30)).alloc (.cells #[.slice ra nr rc,.slice la ln lc] 33)).alloc (.cells #[.slice rb mr mc,.slice lb ml mlc] 33)) #[.int .i64 n,.slice a zl cap,.slice ao ko co,.slice av kv cv,.int .i64 fine] #[.slice ra nr rc,.slice la ln lc] #[.slice rb mr mc,.slice lb ml mlc]):=CB3.new _ _ _ _;have B4:Hid (Below (((w.alloc (.cells #[.int .i64 n,.slice a zl cap,.slice ao ko co,.slice av kv cv,.int .i64 fine] 30)).alloc (.cells #[.slice ra nr rc,.slice la ln lc] 33)).alloc (.cells #[.slice rb mr mc,.slice lb ml mlc] 33)).heap.size (((w.alloc (.cells #[.int .i64 n,.slice a zl cap,.slice ao ko co,.slice av kv cv,.int .i64 fine] 30)).alloc (.cells #[.slice ra nr rc,.slice la ln lc] 33)).alloc (.cells #[.slice rb mr mc,.slice lb ml mlc] 33)) ((((w.alloc (.cells #[.int .i64 n,.slice a zl cap,.slice ao ko co,.slice av kv cv,.int .i64 fine] 30)).alloc (.cells #[.slice ra nr rc,.slice la ln lc] 33)).alloc (.cells #[.slice rb mr mc,.slice lb ml mlc] 33)).alloc (.cells #[.int .i64 v1,.int .i64 v2] 2))):=(Below.refl _ _).alloc (Nat.le_refl _) _;have O4:Hid (((((w.alloc (.cells #[.int .i64 n,.slice a zl cap,.slice ao ko co,.slice av kv cv,.int .i64 fine] 30)).alloc (.cells #[.slice ra nr rc,.slice la ln lc] 33)).alloc (.cells #[.slice rb mr mc,.slice lb ml mlc] 33)).alloc (.cells #[.int .i64 v1,.int .i64 v2] 2)).ownsRow (w.heap.size+3) 2 1 (.slice (some ⟨w.heap.size+3,0,none⟩) 2 2) 2 ([v1,v2].map (Value.int .i64))):=by
  have hr:=heap_alloc_new (((w.alloc (.cells #[.int .i64 n,.slice a zl cap,.slice ao ko co,.slice av kv cv,.int .i64 fine] 30)).alloc (.cells #[.slice ra nr rc,.slice la ln lc] 33)).alloc (.cells #[.slice rb mr mc,.slice lb ml mlc] 33)) (.cells #[.int .i64 v1,.int .i64 v2] 2);have hk:(((w.alloc (.cells #[.int .i64 n,.slice a zl cap,.slice ao ko co,.slice av kv cv,.int .i64 fine] 30)).alloc (.cells #[.slice ra nr rc,.slice la ln lc] 33)).alloc (.cells #[.slice rb mr mc,.slice lb ml mlc] 33)).heap.size=w.heap.size+3:=by simp
  rw[hk]at hr;exact⟨by simp,.inr ⟨w.heap.size+3,2,_,rfl,Nat.le_refl _,hr,Nat.le_refl _,by unfold maxLen;omega,by simp,by simp⟩⟩
 go_enter Tryz.func97,Tryz.ntmps97
 go_wp2_with fail
 have Q4:Hid _:=Q0.below B4.out;clear B4 Q0;generalize(((w.alloc (.cells #[.int .i64 n,.slice a zl cap,.slice ao ko co,.slice av kv cv,.int .i64 fine] 30)).alloc (.cells #[.slice ra nr rc,.slice la ln lc] 33)).alloc (.cells #[.slice rb mr mc,.slice lb ml mlc] 33)).alloc (.cells #[.int .i64 v1,.int .i64 v2] 2)=W4 at*;have CM:=zK5 v1 v2 (w.heap.size+3) 2 (w.heap.size+3) W4 O4.out;rw[HV0.out,HM.out]at CM;refine CM.mono ?_;rintro e w1 ⟨rfl,hb,ho⟩;have Q1:Hid (CB3 w w1 #[.int .i64 n,.slice a zl cap,.slice ao ko co,.slice av kv cv,.int .i64 fine] #[.slice ra nr rc,.slice la ln lc] #[.slice rb mr mc,.slice lb ml mlc]):=by
  have hc:=Q4.out;exact⟨hc.b.trans (hb.mono (by omega)),za1 hb (by omega) hc.c,za1 hb (by omega) hc.p,za1 hb (by omega) hc.q⟩
 have I1:Hid (za0 w1 (some ⟨w.heap.size+3,0,none⟩) V):=zq6 ho;clear hb ho CM Q4 O4 HV0;obtain⟨g,HG⟩:=nmd (w.heap.size+3);rw[HG.out]at I1
 try rw[HG.out]
 go_wp2_with fail
 go_loopw[12,24] (fun tt ti wr=>∃i:Nat,i<=m/\ti=.int .i64 i/\tt=.int .i64 ((V.take i).map f).sum/\(-130000*(i:Int)<=((V.take i).map f).sum/\((V.take i).map f).sum<=130000*(i:Int))/\(∀j,j<i->ok (V.getD j 0)=true)/\CB3 w wr #[.int .i64 n,.slice a zl cap,.slice ao ko co,.slice av kv cv,.int .i64 fine] #[.slice ra nr rc,.slice la ln lc] #[.slice rb mr mc,.slice lb ml mlc]/\za0 wr (some ⟨g,0,none⟩) V) (fun _ ti _=>m - (intOf ti).toNat)
 case atStart=>exact⟨0,Nat.zero_le _,rfl,rfl,by simp,fun j hj=>by omega,Q1.out,I1.out⟩
 case round=>
  clear Q1 I1;obtain⟨i,hi,rfl,rfl,⟨hs1,hs2⟩,hok,hQ,hI⟩:=hrel;have Q2:Hid _:=hQ;have I2:Hid (za0 wr (some ⟨g,0,none⟩) V):=hI;have HOJ:Hid _:=hok;clear hQ hI hok;have hm2:m<=2:=by rw[<-HM.out];exact hV2
  by_cases hlt:i<m
  ·have hltI:(i:Int)<(m:Int):=by omega
   obtain⟨b,off,e,hc⟩:=I2.out i (by rw[HM.out];exact hlt);simp only[Option.some.injEq,Addr.mk.injEq,and_true]at e;obtain⟨rfl,rfl⟩:=e;rw[Nat.zero_add]at hc;have HSM:=yr0 f (V:=V) (i:=i) (by rw[HM.out];exact hlt);obtain⟨hf,y0,y1,x0,x1⟩:=HFB.out (V.getD i 0);have HOI:Hid (∀b,ok (V.getD i 0)=b->(b=false->B=false)/\(b=true->∀j,j<i+1->ok (V.getD j 0)=true)):=fun b hb=>by
    refine⟨fun e9=> ?_,fun e9 j hj=> ?_⟩
    ·rw[<-HB.out,List.all_eq_false]
     refine⟨V.getD i 0,zz5 _ _ (by rw[HM.out];exact hlt),?_⟩;rw[hb,e9];simp
    ·by_cases e8:j=i
     ·rw[e8,hb,e9]
     ·exact HOJ.out j (by omega)
   have ro1:=RO1.out (V.getD i 0);have ro2:=RO2.out (V.getD i 0);have rc1:=RC1.out (V.getD i 0);have rc2:=RC2.out (V.getD i 0);obtain⟨okv,HKV⟩:=nmd (ok (V.getD i 0));have HO9:=HOI.out _ HKV.out;rw[HKV.out]at rc2;clear HOI;generalize rcV n zs os vs ko kv (V.getD i 0) (zc8 R2 (V.getD i 0)).ids=y at*;generalize rcV n zs os vs ko kv (V.getD i 0) (zc8 R (V.getD i 0)).ids=x at*;generalize(zc8 R (V.getD i 0)).ids.length=l1 at*;generalize(zc8 R (V.getD i 0)).a=a1 at*;generalize(zc8 R (V.getD i 0)).c=c1 at*;generalize(zc8 R2 (V.getD i 0)).ids.length=l2 at*;generalize(zc8 R2 (V.getD i 0)).a=a2 at*;generalize(zc8 R2 (V.getD i 0)).c=c2 at*;rw[hf]at HSM;obtain⟨s,HS⟩:=nmd (((V.take i).map f).sum);rw[HS.out]at HSM hs1 hs2⊢;have HSM2:Hid _:=HSM;have KRO1:Hid _:=ro1;have KRO2:Hid _:=ro2;have KRC1:Hid _:=rc1;have KRC2:Hid _:=rc2;generalize V.getD i 0=v at*;clear ro1 ro2 rc1 rc2 HSM hf HKV HOJ;have HO8:Hid _:=HO9;clear HO9
   go_wp2_with fail
   clear hc;refine wp_region_held_drew (S:=(fun W=>W.cell? ⟨w.heap.size,0,none⟩=some (.int .i64 n)/\W.cell? ⟨w.heap.size,1,none⟩=some (.slice a zl cap)/\W.cell? ⟨w.heap.size,2,none⟩=some (.slice ao ko co)/\W.cell? ⟨w.heap.size,3,none⟩=some (.slice av kv cv)/\W.cell? ⟨w.heap.size,4,none⟩=some (.int .i64 fine)/\W.cell? ⟨w.heap.size+1,0,none⟩=some (.slice ra nr rc)/\W.cell? ⟨w.heap.size+1,1,none⟩=some (.slice la ln lc))) (by kernel_rfl) ?_ (fun hHeld=> ?_)
   ·exact y30 (Q2.below (Below.refl _ _).drew)
   have QD5:Hid _:=Q2.below (Below.refl _ _).drew;have ID5:Hid (za0 wr.drew (some ⟨g,0,none⟩) V):=I2.below (Below.refl _ _).drew;generalize wr.drew=wd5 at*;refine wpAnyH_take (i:=0) (v:= ?_) rfl (by kernel_rfl) (by kernel_rfl) (by kernel_rfl) (fun _ _ _ h=>h) (Or.inl ⟨by kernel_rfl,?_⟩) hHeld ?_;rotate_left;focus(intro w hSw;(try dsimp only at hSw);(try go_split_ands);go_simp;all_goals with_reducible rfl)
   change wpAnyH _ _ _ _ _ _ _ (Act.put _ (some 29) _) _;simp only[Act.put,List.setIfInBounds_toArray,List.set_cons_zero,List.set_cons_succ];refine wpAnyH_take (i:=1) (v:= ?_) rfl (by kernel_rfl) (by kernel_rfl) (by kernel_rfl) (fun _ _ _ h=>h) (Or.inl ⟨by kernel_rfl,?_⟩) hHeld ?_;rotate_left;focus(intro w hSw;(try dsimp only at hSw);(try go_split_ands);go_simp;all_goals with_reducible rfl)
   change wpAnyH _ _ _ _ _ _ _ (Act.put _ (some 30) _) _;simp only[Act.put,List.setIfInBounds_toArray,List.set_cons_zero,List.set_cons_succ];refine wpAnyH_take (i:=2) (v:= ?_) rfl (by kernel_rfl) (by kernel_rfl) (by kernel_rfl) (fun _ _ _ h=>h) (Or.inl ⟨by kernel_rfl,?_⟩) hHeld ?_;rotate_left;focus(intro w hSw;(try dsimp only at hSw);(try go_split_ands);go_simp;all_goals with_reducible rfl)
   change wpAnyH _ _ _ _ _ _ _ (Act.put _ (some 31) _) _;simp only[Act.put,List.setIfInBounds_toArray,List.set_cons_zero,List.set_cons_succ];refine wpAnyH_ready (rs:=[3]) (by kernel_rfl) (by simp) ?_;refine AllReadyH.cons rfl (fun K hK=> ?_) AllReadyH.nil;go_simp;refine(KRO1.out wd5 QD5.b).mono ?_;rintro e w6 ⟨rfl,hb⟩;have Bw6:Hid _:=hb;have Qw6:Hid _:=QD5.below hb;clear hb
   (try go_wp2_with fail)
   refine hK.out _ _ ?_ (fun hHeld=> ?_)
   ·exact y30 Qw6.out
   clear hK K
   (try simp only[Act.put,List.setIfInBounds_toArray,List.set_cons_zero,List.set_cons_succ])
   refine wpAnyH_ready (rs:=[4]) (by kernel_rfl) (by simp) ?_;refine AllReadyH.cons rfl (fun K hK=> ?_) AllReadyH.nil;go_simp;refine(KRC1.out w6 Qw6.b).mono ?_;rintro e w7 ⟨bb,rfl,hb⟩;have Qw7:Hid _:=Qw6.below hb;have Iw7:Hid (za0 w7 (some ⟨g,0,none⟩) V):=(ID5.below Bw6.out).below hb;clear hb
   (try go_wp2_with fail)
   refine hK.out _ _ ?_ (fun hHeld=> ?_)
   ·exact y30 Qw7.out
   clear hK K
   (try simp only[Act.put,List.setIfInBounds_toArray,List.set_cons_zero,List.set_cons_succ])
   refine wpAnyH_take (i:=5) (v:= ?_) rfl (by kernel_rfl) (by kernel_rfl) (by kernel_rfl) (fun _ _ _ h=>h) (Or.inl ⟨by kernel_rfl,?_⟩) hHeld ?_;rotate_left;focus(intro w hSw;(try dsimp only at hSw);(try go_split_ands);go_simp;all_goals with_reducible rfl)
   change wpAnyH _ _ _ _ _ _ _ (Act.put _ (some 28) _) _;simp only[Act.put,List.setIfInBounds_toArray,List.set_cons_zero,List.set_cons_succ];refine wpAnyH_take (i:=6) (v:= ?_) rfl (by kernel_rfl) (by kernel_rfl) (by kernel_rfl) (fun _ _ _ h=>h) (Or.inl ⟨by kernel_rfl,?_⟩) hHeld ?_;rotate_left;focus(intro w hSw;(try dsimp only at hSw);(try go_split_ands);go_simp;all_goals with_reducible rfl)
   change wpAnyH _ _ _ _ _ _ _ (Act.put _ (some 34) _) _;simp only[Act.put,List.setIfInBounds_toArray,List.set_cons_zero,List.set_cons_succ];refine wpAnyH_take (i:=7) (v:= ?_) rfl (by kernel_rfl) (by kernel_rfl) (by kernel_rfl) (fun _ _ _ h=>h) (Or.inl ⟨by kernel_rfl,?_⟩) hHeld ?_;rotate_left;focus(intro w hSw;(try dsimp only at hSw);(try go_split_ands);go_simp;all_goals with_reducible rfl)
   change wpAnyH _ _ _ _ _ _ _ (Act.put _ (some 35) _) _;simp only[Act.put,List.setIfInBounds_toArray,List.set_cons_zero,List.set_cons_succ];refine wpAnyH_take (i:=8) (v:= ?_) rfl (by kernel_rfl) (by kernel_rfl) (by kernel_rfl) (fun _ _ _ h=>h) (Or.inl ⟨by kernel_rfl,?_⟩) hHeld ?_;rotate_left;focus(intro w hSw;(try dsimp only at hSw);(try go_split_ands);go_simp;all_goals with_reducible rfl)
   change wpAnyH _ _ _ _ _ _ _ (Act.put _ (some 15) _) _;simp only[Act.put,List.setIfInBounds_toArray,List.set_cons_zero,List.set_cons_succ];refine wpAnyH_take (i:=9) (v:= ?_) rfl (by kernel_rfl) (by kernel_rfl) (by kernel_rfl) (fun _ _ _ h=>h) (Or.inl ⟨by kernel_rfl,?_⟩) hHeld ?_;rotate_left;focus(intro w hSw;(try dsimp only at hSw);(try go_split_ands);go_simp;all_goals with_reducible rfl)
   change wpAnyH _ _ _ _ _ _ _ (Act.put _ (some 16) _) _;simp only[Act.put,List.setIfInBounds_toArray,List.set_cons_zero,List.set_cons_succ];refine wpAnyH_done (by kernel_rfl) ?_ _;clear hHeld
   go_wp2_with fail
   refine wp_region_held_drew (S:=(fun W=>W.cell? ⟨w.heap.size,0,none⟩=some (.int .i64 n)/\W.cell? ⟨w.heap.size,1,none⟩=some (.slice a zl cap)/\W.cell? ⟨w.heap.size,2,none⟩=some (.slice ao ko co)/\W.cell? ⟨w.heap.size,3,none⟩=some (.slice av kv cv)/\W.cell? ⟨w.heap.size,4,none⟩=some (.int .i64 fine)/\W.cell? ⟨w.heap.size+2,0,none⟩=some (.slice rb mr mc)/\W.cell? ⟨w.heap.size+2,1,none⟩=some (.slice lb ml mlc))) (by kernel_rfl) ?_ (fun hHeld=> ?_)
   ·exact y27 (Qw7.below (Below.refl _ _).drew)
   have QD6:Hid _:=Qw7.below (Below.refl _ _).drew;have ID6:Hid (za0 w7.drew (some ⟨g,0,none⟩) V):=Iw7.below (Below.refl _ _).drew;generalize w7.drew=wd6 at*;refine wpAnyH_take (i:=0) (v:= ?_) rfl (by kernel_rfl) (by kernel_rfl) (by kernel_rfl) (fun _ _ _ h=>h) (Or.inl ⟨by kernel_rfl,?_⟩) hHeld ?_;rotate_left;focus(intro w hSw;(try dsimp only at hSw);(try go_split_ands);go_simp;all_goals with_reducible rfl)
   change wpAnyH _ _ _ _ _ _ _ (Act.put _ (some 37) _) _;simp only[Act.put,List.setIfInBounds_toArray,List.set_cons_zero,List.set_cons_succ];refine wpAnyH_take (i:=1) (v:= ?_) rfl (by kernel_rfl) (by kernel_rfl) (by kernel_rfl) (fun _ _ _ h=>h) (Or.inl ⟨by kernel_rfl,?_⟩) hHeld ?_;rotate_left;focus(intro w hSw;(try dsimp only at hSw);(try go_split_ands);go_simp;all_goals with_reducible rfl)
   change wpAnyH _ _ _ _ _ _ _ (Act.put _ (some 38) _) _;simp only[Act.put,List.setIfInBounds_toArray,List.set_cons_zero,List.set_cons_succ];refine wpAnyH_take (i:=2) (v:= ?_) rfl (by kernel_rfl) (by kernel_rfl) (by kernel_rfl) (fun _ _ _ h=>h) (Or.inl ⟨by kernel_rfl,?_⟩) hHeld ?_;rotate_left;focus(intro w hSw;(try dsimp only at hSw);(try go_split_ands);go_simp;all_goals with_reducible rfl)
   change wpAnyH _ _ _ _ _ _ _ (Act.put _ (some 39) _) _;simp only[Act.put,List.setIfInBounds_toArray,List.set_cons_zero,List.set_cons_succ];refine wpAnyH_ready (rs:=[3]) (by kernel_rfl) (by simp) ?_;refine AllReadyH.cons rfl (fun K hK=> ?_) AllReadyH.nil;go_simp;refine(KRO2.out wd6 QD6.b).mono ?_;rintro e w8 ⟨rfl,hb⟩;have Bw8:Hid _:=hb;have Qw8:Hid _:=QD6.below hb;clear hb
   (try go_wp2_with fail)
   refine hK.out _ _ ?_ (fun hHeld=> ?_)
   ·exact y27 Qw8.out
   clear hK K
   (try simp only[Act.put,List.setIfInBounds_toArray,List.set_cons_zero,List.set_cons_succ])
   refine wpAnyH_ready (rs:=[4]) (by kernel_rfl) (by simp) ?_;refine AllReadyH.cons rfl (fun K hK=> ?_) AllReadyH.nil;go_simp;refine(KRC2.out w8 Qw8.b).mono ?_;rintro e w9 ⟨rfl,hb⟩;have Qw9:Hid _:=Qw8.below hb;have Iw9:Hid (za0 w9 (some ⟨g,0,none⟩) V):=(ID6.below Bw8.out).below hb;clear hb
   (try go_wp2_with fail)
   refine hK.out _ _ ?_ (fun hHeld=> ?_)
   ·exact y27 Qw9.out
   clear hK K
   (try simp only[Act.put,List.setIfInBounds_toArray,List.set_cons_zero,List.set_cons_succ])
   refine wpAnyH_take (i:=5) (v:= ?_) rfl (by kernel_rfl) (by kernel_rfl) (by kernel_rfl) (fun _ _ _ h=>h) (Or.inl ⟨by kernel_rfl,?_⟩) hHeld ?_;rotate_left;focus(intro w hSw;(try dsimp only at hSw);(try go_split_ands);go_simp;all_goals with_reducible rfl)
   change wpAnyH _ _ _ _ _ _ _ (Act.put _ (some 36) _) _;simp only[Act.put,List.setIfInBounds_toArray,List.set_cons_zero,List.set_cons_succ];refine wpAnyH_take (i:=6) (v:= ?_) rfl (by kernel_rfl) (by kernel_rfl) (by kernel_rfl) (fun _ _ _ h=>h) (Or.inl ⟨by kernel_rfl,?_⟩) hHeld ?_;rotate_left;focus(intro w hSw;(try dsimp only at hSw);(try go_split_ands);go_simp;all_goals with_reducible rfl)
   change wpAnyH _ _ _ _ _ _ _ (Act.put _ (some 42) _) _;simp only[Act.put,List.setIfInBounds_toArray,List.set_cons_zero,List.set_cons_succ];refine wpAnyH_take (i:=7) (v:= ?_) rfl (by kernel_rfl) (by kernel_rfl) (by kernel_rfl) (fun _ _ _ h=>h) (Or.inl ⟨by kernel_rfl,?_⟩) hHeld ?_;rotate_left;focus(intro w hSw;(try dsimp only at hSw);(try go_split_ands);go_simp;all_goals with_reducible rfl)
   change wpAnyH _ _ _ _ _ _ _ (Act.put _ (some 43) _) _;simp only[Act.put,List.setIfInBounds_toArray,List.set_cons_zero,List.set_cons_succ];refine wpAnyH_take (i:=8) (v:= ?_) rfl (by kernel_rfl) (by kernel_rfl) (by kernel_rfl) (fun _ _ _ h=>h) (Or.inl ⟨by kernel_rfl,?_⟩) hHeld ?_;rotate_left;focus(intro w hSw;(try dsimp only at hSw);(try go_split_ands);go_simp;all_goals with_reducible rfl)
   change wpAnyH _ _ _ _ _ _ _ (Act.put _ (some 17) _) _;simp only[Act.put,List.setIfInBounds_toArray,List.set_cons_zero,List.set_cons_succ];refine wpAnyH_take (i:=9) (v:= ?_) rfl (by kernel_rfl) (by kernel_rfl) (by kernel_rfl) (fun _ _ _ h=>h) (Or.inl ⟨by kernel_rfl,?_⟩) hHeld ?_;rotate_left;focus(intro w hSw;(try dsimp only at hSw);(try go_split_ands);go_simp;all_goals with_reducible rfl)
   change wpAnyH _ _ _ _ _ _ _ (Act.put _ (some 18) _) _;simp only[Act.put,List.setIfInBounds_toArray,List.set_cons_zero,List.set_cons_succ];refine wpAnyH_done (by kernel_rfl) ?_ _;clear hHeld;cases okv
   ·have hBf:=HO8.1 rfl
    subst hBf;have hD0:Dd=0:=by rw[<-HD.out];rfl
    subst hD0;clear HD HB HFB RO1 RO2 RC1 RC2 KRO1 KRO2 KRC1 KRC2;go_wp2;go_ret2;exact⟨rfl,Qw9.b⟩
   ·clear HFB RO1 RO2 RC1 RC2 KRO1 KRO2 KRC1 KRC2
    go_wp2;go_roundw
    case rel=>exact⟨i+1,by omega,by first|rfl|go_num,by rw[HSM2.out],by rw[HSM2.out];constructor<;>(push_cast;omega),HO8.2 rfl,Qw9.out,Iw9.out⟩
    case measure=>simp[intOf];omega
  ·have hltI:¬((i:Int)<(m:Int)):=by omega
   have him:i=m:=by omega
   subst him;have hBt:B=true:=by
    rw[<-HB.out,List.all_eq_true];intro x hx;obtain⟨j,hj,e⟩:=zA7 hx;rw[<-e];exact HOJ.out j (by rw[<-HM.out];exact hj)
   have hDt:((V.take i).map f).sum=Dd:=by
    rw[<-HD.out,if_pos hBt,<-HM.out,List.take_length]
   rw[hDt];subst hBt;clear HD HB HFB RO1 RO2 RC1 RC2;go_wp2;go_ret2;exact⟨rfl,Q2.b⟩
end Go.Proofs.YtjobhigmdaiinaaGreat
