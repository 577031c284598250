import Derived.Test.YtjobhigmdaiinaaGreatPack4
import Derived.Test.YtjobhigmdaiinaaGreatPack21
import Derived.Test.YtjobhigmdaiinaaGreatPack22
namespace Go.Proofs.YtjobhigmdaiinaaGreat
open Go.RowKit
noncomputable def zf9(n:Int)(zs os vs:List Int)(ko kv:Nat)(fine:Int)(R:List RT)(L:List Int):List Int:=if zc3 n zs os vs ko kv fine R L=0 then zm2 (za7 R R.length)else []
theorem zj5{n:Int}{zs os vs:List Int}{ko kv:Nat}{fine:Int}{R:List RT}{L:List Int}(h:zc3 n zs os vs ko kv fine R L=0):(za7 R R.length).length<=12/\(za7 R R.length).Nodup/\∀j,j<R.length->(R.getD j rt0).ids≠[]:=by
 obtain⟨h1,h2,h3,_,h5⟩:=zc2 h;have:=(zi4 (zc4 h1).2.1).1;exact⟨by omega,h3.1,fun j hj=>(h2 j hj).2.1⟩
theorem z92(n:Int)(zs os vs:List Int)(ko kv:Nat)(fine:Int)(R:List RT)(L:List Int):(zf9 n zs os vs ko kv fine R L).length<=12:=by
 unfold zf9;split
 ·rename_i h
  rw[zp4];exact(zj5 h).1
 ·simp
set_option maxHeartbeats 2000000 in
theorem zL0(ra la:Option Addr)(rc ln lc:Nat)(R:List RT)(w:World)(hA:za6 w ra R)(hn:R.length<=1048576)(hne:∀j,j<R.length->(R.getD j rt0).ids≠[])(hnd:(za7 R R.length).Nodup)(h12:(za7 R R.length).length<=12):
 Calls Tryz.prog 89 #[.agg #[.slice ra R.length rc,.slice la ln lc]] w fun e w'=>∃sl,e=.returned sl/\Below w.heap.size w w'/\w'.ownsRow w.heap.size 2 1 sl (zm2 (za7 R R.length)).length ((zm2 (za7 R R.length)).map (Value.int .i64)):=by
 have HA:Hid (za6 w ra R):=hA;have HNE:Hid _:=hne;have HND:Hid ((za7 R R.length).Nodup):=hnd;have H12:Hid _:=h12;clear hA hne hnd h12;have HLE:Hid (∀k,k<=R.length->(za7 R k).length<=12):=fun k hk=>Nat.le_trans (zG7 R hk (Nat.le_refl _)) H12.out;obtain⟨n,HN⟩:=nmd R.length;rw[HN.out]at hn HNE HND H12 HLE⊢;have G0:Hid ((w.alloc (.cells #[.slice ra n rc,.slice la ln lc] 33)).heap[w.heap.size]? =some (.cells #[.slice ra n rc,.slice la ln lc] 33 (0,0))):=heap_alloc_new _ _;have B0:Hid (Below w.heap.size w (w.alloc (.cells #[.slice ra n rc,.slice la ln lc] 33))):=(Below.refl _ _).alloc (Nat.le_refl _) _;go_enter Tryz.func89,Tryz.ntmps89;obtain⟨c0,c1⟩:=za2 G0.out
 go_wp2_with fail
 clear c0 c1;go_loopw[3,9] (fun ts t wr=>∃k:Nat,k<=n/\t=.int .i64 k/\Below w.heap.size w wr/\wr.ownsRow w.heap.size 2 1 ts (za7 R k).length ((za7 R k).map (Value.int .i64))) (fun _ t _=>n - (intOf t).toNat)
 case atStart=>exact⟨0,Nat.zero_le _,rfl,B0.out,by rw[zi0];exact World.ownsRow_nil _ _ _ _⟩
 case round=>
  clear G0 B0;obtain⟨k,hk,rfl,hb,ho⟩:=hrel;have B1:Hid _:=hb;have O1:Hid (wr.ownsRow w.heap.size 2 1 u3 (za7 R k).length ((za7 R k).map (Value.int .i64))):=ho;clear hb ho;by_cases hlt:k<n
  ·have hkn:(k:Int)<n:=by omega
   have hkR:k<R.length:=by rw[HN.out];exact hlt
   obtain⟨b,off,e,c1,c2,i3⟩:=(HA.below B1.out) k hkR;have hne:=HNE.out k hlt;have HTK:Hid _:=zf7 hkR;have hl1:=HLE.out k hk;have hl2:=HLE.out (k+1) (by omega);rw[HTK.out,List.length_append]at hl2;subst e;generalize R.getD k rt0=r at*;obtain⟨rv,rra,rids,rcc⟩:=r;simp only at c1 c2 i3 hne HTK hl2;have hpos:=List.length_pos_iff.2 hne;obtain⟨b',off',e',-⟩:=i3 0 hpos;subst e';have I3:Hid (za0 wr (some ⟨b',off',none⟩) rids):=i3;clear i3 hne;obtain⟨rl,HRL⟩:=nmd rids.length;obtain⟨al,HAL⟩:=nmd ((za7 R k).length);rw[HRL.out]at c2 hl2 hpos;rw[HAL.out]at O1 hl1 hl2;have B2:Hid (Below w.heap.size w (wr.alloc (.cells #[.int .i64 rv,.slice (some ⟨b',off',none⟩) rl rcc] 43))):=B1.alloc B1.size _
   go_wp2_with(first
    |(at_builtin
      refine z98 _ rfl (.tmp 13) (.tmp 15) rfl w.heap.size u3 al (za7 R k) rfl (O1.alloc _) _ rl _ rids rfl ⟨_,_,rfl⟩ HRL.out (I3.below ((Below.refl _ _).alloc (Nat.le_refl _) _)) (by omega) (by omega) B2.size ?_;intro v4 w4 hown hg hbk hnl;have B4:Hid _:=B2.grown hg B2.size (fun q e=>(O1.lt q e).1);have O4:Hid (w4.ownsRow w.heap.size 2 1 v4 (za7 R (k+1)).length ((za7 R (k+1)).map (Value.int .i64))):=by rw[HTK.out,List.length_append,HAL.out,HRL.out];exact hown
      clear hown hg hbk hnl))
   clear c1 c2
   first
    |exact⟨⟨k+1,by omega,by first|rfl|go_num,B4.out,O4.out⟩,by simp[intOf];omega⟩
    |(go_roundw
      case rel=>exact⟨k+1,by omega,by first|rfl|go_num,B4.out,O4.out⟩
      case measure=>simp[intOf];omega)
  ·have hkn:k=n:=by omega
   subst hkn
   go_wp2_with fail
   refine(ym0 u3 (za7 R k).length w.heap.size (za7 R k) wr O1.out rfl H12.out HND.out).mono ?_;rintro e w5 ⟨rfl,hb,ho⟩;have B5:Hid _:=B1.trans hb;have O5:Hid (w5.ownsRow w.heap.size 2 1 u3 (zm2 (za7 R k)).length ((zm2 (za7 R k)).map (Value.int .i64))):=by rw[zp4];exact ho
   clear hb ho;go_wp2;go_ret;exact⟨u3,rfl,B5.out,O5.out⟩
set_option maxHeartbeats 2000000 in
theorem zw2(n fine:Int)(a ao av ra la:Option Addr)(cap ko co kv cv rc lc:Nat)(zs os vs L:List Int)(R:List RT)(w:World)(hR:za6 w ra R)(hn:R.length<=1048576)(hrc:∀r∈R,r.ids.length<=r.c)(pv:Int)(hpv:zc3 n zs os vs ko kv fine R L=pv)
 (hpc:∀W,Below w.heap.size w W->Calls Tryz.prog 23 #[.agg #[.int .i64 n,.slice a zs.length cap,.slice ao ko co,.slice av kv cv,.int .i64 fine],.agg #[.slice ra R.length rc,.slice la L.length lc]] W fun e w'=>e=.returned (.int .i64 pv)/\Below W.heap.size W w'):
 Calls Tryz.prog 91 #[.agg #[.int .i64 n,.slice a zs.length cap,.slice ao ko co,.slice av kv cv,.int .i64 fine],.agg #[.slice ra R.length rc,.slice la L.length lc]] w fun e w'=>∃sl,e=.returned sl/\Below w.heap.size w w'/\w'.ownsRow w.heap.size 2 1 sl (zf9 n zs os vs ko kv fine R L).length ((zf9 n zs os vs ko kv fine R L).map (Value.int .i64)):=by
 have HR:Hid (za6 w ra R):=hR;have HPC:Hid _:=hpc;have HPV:Hid _:=hpv;have HRC:Hid _:=hrc;clear hR hpc hpv hrc;obtain⟨X,HX⟩:=nmd (zf9 n zs os vs ko kv fine R L);obtain⟨m,HN⟩:=nmd R.length;rw[HX.out,HN.out];rw[HN.out]at hn HPC;have C0:Hid (CP w (((w.alloc (.cells #[.int .i64 n,.slice a zs.length cap,.slice ao ko co,.slice av kv cv,.int .i64 fine] 30)).alloc (.cells #[.slice ra m rc,.slice la L.length lc] 33)).alloc (.cells #[] 2)) #[.int .i64 n,.slice a zs.length cap,.slice ao ko co,.slice av kv cv,.int .i64 fine] #[.slice ra m rc,.slice la L.length lc]):=
  CP.alloc ⟨((Below.refl _ _).alloc (Nat.le_refl _) _).alloc (by simp) _,heap_alloc2_old _ _ _,heap_alloc2_new _ _ _⟩ _
 have O0:Hid ((((w.alloc (.cells #[.int .i64 n,.slice a zs.length cap,.slice ao ko co,.slice av kv cv,.int .i64 fine] 30)).alloc (.cells #[.slice ra m rc,.slice la L.length lc] 33)).alloc (.cells #[] 2)).ownsRow w.heap.size 2 1 (.slice (some ⟨w.heap.size+1+1,0,none⟩) 0 0) 0 (([]:List Int).map (Value.int .i64))):=by
  have:=zc5 (zP2 ((w.alloc (.cells #[.int .i64 n,.slice a zs.length cap,.slice ao ko co,.slice av kv cv,.int .i64 fine] 30)).alloc (.cells #[.slice ra m rc,.slice la L.length lc] 33))) (b0:=w.heap.size) (by simp;omega);show World.ownsRow _ _ _ _ _ _ _;simpa using this
 go_enter Tryz.func91,Tryz.ntmps91;obtain⟨c0,c1,c2,c3,c4⟩:=za8 C0.2.1;obtain⟨d0,d1⟩:=za2 C0.2.2
 go_wp2_with fail
 clear c0 c1 c2 c3 c4 d0 d1;generalize((w.alloc (.cells #[.int .i64 n,.slice a zs.length cap,.slice ao ko co,.slice av kv cv,.int .i64 fine] 30)).alloc (.cells #[.slice ra m rc,.slice la L.length lc] 33)).alloc (.cells #[] 2)=W0 at*;refine(HPC.out _ C0.1).mono ?_;rintro e w1 ⟨rfl,hb⟩;have C1:Hid (CP w w1 #[.int .i64 n,.slice a zs.length cap,.slice ao ko co,.slice av kv cv,.int .i64 fine] #[.slice ra m rc,.slice la L.length lc]):=C0.below hb;have O1:Hid (w1.ownsRow w.heap.size 2 1 (.slice (some ⟨w.heap.size+1+1,0,none⟩) 0 0) 0 (([]:List Int).map (Value.int .i64))):=zc0 O0.out hb;clear hb C0 O0;by_cases h0:pv=0
 ·subst h0
  obtain⟨h12,hnd,hne⟩:=zj5 HPV.out;have H12:Hid (∀k j,k<m->j<=(R.getD k rt0).ids.length->(za7 R k++(R.getD k rt0).ids.take j).length<=12):=fun k j hk hj=>Nat.le_trans (zD1 (by rw[HN.out];exact hk) hj) h12
  have HXE:Hid (zm2 (za7 R m)=X):=by
   show _=_;rw[<-HX.out,<-HN.out];unfold zf9;rw[if_pos HPV.out]
  clear h12 hnd;have HNE:Hid _:=hne;clear hne
  go_wp2_with fail
  go_loopw[5,6] (fun ts t wr=>∃(k g c:Nat),k<=m/\t=.int .i64 k/\ts=.slice (some ⟨g,0,none⟩) (za7 R k).length c/\CP w wr #[.int .i64 n,.slice a zs.length cap,.slice ao ko co,.slice av kv cv,.int .i64 fine] #[.slice ra m rc,.slice la L.length lc]/\wr.ownsRow w.heap.size 2 1 ts (zm2 (za7 R k)).length ((zm2 (za7 R k)).map (Value.int .i64))) (fun _ t _=>m - (intOf t).toNat)
  case atStart=>exact⟨0,w.heap.size+1+1,0,Nat.zero_le _,rfl,by rw[zi0];rfl,C1.out,by rw[zi0];exact O1.out⟩
  case round=>
   clear C1 O1;obtain⟨k,g,c,hk,rfl,rfl,hC,hO⟩:=hrel;have C2:Hid (CP w wr #[.int .i64 n,.slice a zs.length cap,.slice ao ko co,.slice av kv cv,.int .i64 fine] #[.slice ra m rc,.slice la L.length lc]):=hC;have O2:Hid (wr.ownsRow w.heap.size 2 1 (.slice (some ⟨g,0,none⟩) (za7 R k).length c) (zm2 (za7 R k)).length ((zm2 (za7 R k)).map (Value.int .i64))):=hO;clear hC hO;obtain⟨d0,d1⟩:=za2 C2.2.2;by_cases hlt:k<m
   ·have hkm:(k:Int)<(m:Int):=by omega
    have hkR:k<R.length:=by rw[HN.out];exact hlt
    obtain⟨rb,ro,e,-⟩:=HR.out k hkR;subst e;have HTK:Hid _:=zf7 hkR;have hmem:R.getD k rt0∈R:=by rw[List.getD_eq_getElem?_getD,List.getElem?_eq_getElem hkR];simp
    have hcc:=HRC.out _ hmem;have hne:=HNE.out k hkR;have HB12:Hid (∀j,j<=(R.getD k rt0).ids.length->(za7 R k++(R.getD k rt0).ids.take j).length<=12):=fun j hj=>H12.out k j hlt hj;have HRK:Hid (∀W,Below w.heap.size w W->W.cell? ⟨rb,ro+k*2+1,none⟩=some (.slice (R.getD k rt0).a (R.getD k rt0).ids.length (R.getD k rt0).c)/\za0 W (R.getD k rt0).a (R.getD k rt0).ids):=fun W hb=>by
     obtain⟨_,_,e,_,h2,h3⟩:=(HR.below hb) k hkR;simp only[Option.some.injEq,Addr.mk.injEq,and_true]at e;obtain⟨rfl,rfl⟩:=e;exact⟨h2,h3⟩
    generalize R.getD k rt0=r at*;obtain⟨rv,rra,rids,rcc⟩:=r;simp only at HTK hcc hne HB12 HRK;have hpos:=List.length_pos_iff.2 hne;obtain⟨b',off',e',-⟩:=(HRK.out wr C2.1).2 0 hpos;subst e';obtain⟨q,HQ⟩:=nmd rids.length;rw[HQ.out]at hcc hpos HRK HB12;have hq12:q<=12:=by
     have:=HB12.out q (Nat.le_refl _);rw[List.length_append,List.length_take,HQ.out]at this;omega
    clear hne hmem
    go_wp2_with fail
    clear d0 d1;go_loopw[5,7] (fun ts t wr=>∃(j g c:Nat),j<=q/\t=.int .i64 j/\ts=.slice (some ⟨g,0,none⟩) (za7 R k++rids.take j).length c/\CP w wr #[.int .i64 n,.slice a zs.length cap,.slice ao ko co,.slice av kv cv,.int .i64 fine] #[.slice (some ⟨rb,ro,none⟩) m rc,.slice la L.length lc]/\wr.ownsRow w.heap.size 2 1 ts (zm2 (za7 R k++rids.take j)).length ((zm2 (za7 R k++rids.take j)).map (Value.int .i64))) (fun _ t _=>q - (intOf t).toNat)
    case atStart=>exact⟨0,g,c,Nat.zero_le _,rfl,by rw[List.take_zero,List.append_nil],C2.out,by rw[List.take_zero,List.append_nil];exact O2.out⟩
    case round=>
     clear C2 O2;obtain⟨j,g3,c3,hj,rfl,rfl,hC,hO⟩:=hrel;have C3:Hid (CP w wr #[.int .i64 n,.slice a zs.length cap,.slice ao ko co,.slice av kv cv,.int .i64 fine] #[.slice (some ⟨rb,ro,none⟩) m rc,.slice la L.length lc]):=hC;have hl12:=HB12.out j hj;obtain⟨c1,i1⟩:=HRK.out wr C3.1;obtain⟨d0,d1⟩:=za2 C3.2.2;by_cases hjq:j<q
     ·have hjI:(j:Int)<(q:Int):=by omega
      obtain⟨_,_,e,cj⟩:=i1 j (by rw[HQ.out];exact hjq);simp only[Option.some.injEq,Addr.mk.injEq,and_true]at e;obtain⟨rfl,rfl⟩:=e;have HSN:Hid (za7 R k++rids.take (j+1)=(za7 R k++rids.take j)++[rids.getD j 0]):=by
       show _=_;rw[List.take_add_one,List.append_assoc,List.getD_eq_getElem?_getD,List.getElem?_eq_getElem (show j<rids.length by rw[HQ.out];exact hjq)];rfl
      obtain⟨x,HXX⟩:=nmd (rids.getD j 0);rw[HXX.out]at cj HSN;obtain⟨F,HF⟩:=nmd (za7 R k++rids.take j);rw[HF.out]at hO hl12 HSN⊢;obtain⟨fl,HFL⟩:∃F',Hid (F.length=F'):=⟨_,rfl⟩;have hO':wr.ownsRow w.heap.size 2 1 (.slice (some ⟨g3,0,none⟩) fl c3) fl ((zm2 F).map (Value.int .i64)):=by
       rw[zp4,HFL.out]at hO;exact hO
      have HSF:Hid _:=(zp4 F).trans HFL.out;have HPT:Hid (∀W,za0 W (some ⟨g3,0,none⟩) (zm2 F)->Calls Tryz.prog 124 #[.slice (some ⟨g3,0,none⟩) fl c3,.int .i64 x] W fun e w'=>∃g cc,e=.returned (.slice (some ⟨g,0,none⟩) (fl+1) cc)/\Below W.heap.size W w'/\w'.ownsRow W.heap.size 2 1 (.slice (some ⟨g,0,none⟩) (fl+1) cc) (fl+1) ((zm2 (F++[x])).map (Value.int .i64))):=fun W h=>by
       have:=yl5 g3 0 c3 (zm2 F) x W h (by rw[HSF.out,<-HFL.out];omega) (by rw[HSF.out];exact yn6 hO');rw[HSF.out]at this;rw[zN5];exact this
      have I3:Hid (za0 wr (some ⟨g3,0,none⟩) (zm2 F)):=zZ9 (by rw[HSF.out];exact hO') HSF.out;rw[HFL.out]at hl12⊢;clear hC hO hO' i1
      go_wp2_with fail
      clear d0 d1 c1 cj;refine(HPT.out _ I3.out).mono ?_;rintro e w4 ⟨g4,c4,rfl,hb,ho⟩;have C4:Hid (CP w w4 #[.int .i64 n,.slice a zs.length cap,.slice ao ko co,.slice av kv cv,.int .i64 fine] #[.slice (some ⟨rb,ro,none⟩) m rc,.slice la L.length lc]):=C3.below hb;have O4:Hid (w4.ownsRow w.heap.size 2 1 (.slice (some ⟨g4,0,none⟩) (fl+1) c4) (fl+1) ((zm2 (F++[x])).map (Value.int .i64))):=zc5 ho C3.1.size;have HLN:Hid ((F++[x]).length=fl+1):=by show _=_;rw[List.length_append,HFL.out];rfl
      clear hb ho C3 I3;go_wp2
      first
       |exact⟨⟨j+1,g4,c4,by omega,by first|rfl|go_num,by rw[HSN.out,HLN.out],C4.out,by rw[HSN.out,zp4,HLN.out];exact O4.out⟩,by simp[intOf];omega⟩
       |(go_roundw
         case rel=>exact⟨j+1,g4,c4,by omega,by first|rfl|go_num,by rw[HSN.out,HLN.out],C4.out,by rw[HSN.out,zp4,HLN.out];exact O4.out⟩
         case measure=>simp[intOf];omega)
     ·have hjI:¬((j:Int)<(q:Int)):=by omega
      have hjq':j=q:=by omega
      have HE:Hid (za7 R k++rids.take j=za7 R (k+1)):=by
       show _=_;rw[hjq',<-HQ.out,List.take_length,HTK.out]
      have O3:Hid (wr.ownsRow w.heap.size 2 1 (.slice (some ⟨g3,0,none⟩) (za7 R (k+1)).length c3) (zm2 (za7 R (k+1))).length ((zm2 (za7 R (k+1))).map (Value.int .i64))):=by
       rw[HE.out]at hO;exact hO
      rw[HE.out];obtain⟨fl,HFL⟩:∃F',Hid ((za7 R (k+1)).length=F'):=⟨_,rfl⟩;rw[HFL.out]at O3⊢;clear hC hO i1 hjq';go_wp2
      first
       |exact⟨⟨k+1,g3,c3,by omega,by first|rfl|go_num,by rw[HFL.out],C3.out,O3.out⟩,by simp[intOf];omega⟩
       |(go_roundw
         case rel=>exact⟨k+1,g3,c3,by omega,by first|rfl|go_num,by rw[HFL.out],C3.out,O3.out⟩
         case measure=>simp[intOf];omega)
   ·have hkm:¬((k:Int)<(m:Int)):=by omega
    have hke:k=m:=by omega
    have O3:Hid (wr.ownsRow w.heap.size 2 1 (.slice (some ⟨g,0,none⟩) (za7 R k).length c) X.length (X.map (Value.int .i64))):=by
     have:=O2.out;rw[<-HXE.out,<-hke];exact this
    obtain⟨fl,HFL⟩:∃F',Hid ((za7 R k).length=F'):=⟨_,rfl⟩;rw[HFL.out]at O3⊢;clear hke O2;go_wp2;go_ret;exact⟨_,rfl,C2.1,O3.out⟩
 ·have hpn:(pv !=0)=true:=by simp[h0]
  have HXE:Hid (X=[]):=by
   show _=_;rw[<-HX.out];unfold zf9;rw[if_neg (by rw[HPV.out];exact h0)]
  clear h0;go_wp2;go_ret;exact⟨_,rfl,C1.1,by rw[HXE.out];exact O1.out⟩
end Go.Proofs.YtjobhigmdaiinaaGreat
