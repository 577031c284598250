import Derived.Test.YtkchnomkiboihaaGreatPack8
import Derived.Test.YtkchnomkiboihaaGreatPack20
set_option linter.unusedSimpArgs false
set_option maxHeartbeats 2000000
namespace Go.Proofs.YtkchnomkiboihaaGreat
theorem qP:type_of% @Go.World.ownsRow_nil:=@Go.World.ownsRow_nil
open Value renaming slice→za,int→zc
open IntKind renaming i64→zb
open Obj renaming cells→zd
open Proofs.Tryz renaming prog→ze
open Go.RowKit
open Q
noncomputable def zi9(n:Int)(zs os vs:List Int)(ko kv:Nat)(fine:Int)(R:List RT)(L:List Int):List Int:=if zc3 n zs os vs ko kv fine R L=0 then zr3 (za8 R R.length)else []
theorem zk3{n:Int}{zs os vs:List Int}{ko kv:Nat}{fine:Int}{R:List RT}{L:List Int}(h:zc3 n zs os vs ko kv fine R L=0):(za8 R R.length).length<=12/\(za8 R R.length).Nodup/\∀j,j<R.length->(R.getD j rt0).ids≠[]:=by
 obtain⟨h1,h2,h3,_,h5⟩:=zb5 h;have:=(zd9 (zb3 h1).2.1).1;exact⟨by omega,h3.1,fun j hj=>(h2 j hj).2.1⟩
theorem zE7(n:Int)(zs os vs:List Int)(ko kv:Nat)(fine:Int)(R:List RT)(L:List Int):(zi9 n zs os vs ko kv fine R L).length<=12:=by
 unfold zi9;split
 ·rename_i h
  rw[zo3];exact(zk3 h).1
 ·simp
theorem z97(ra la:Option Addr)(rc ln lc:Nat)(R:List RT)(w:World)(hA:za9 w ra R)(hn:R.length<=1048576)(hne:∀j,j<R.length->(R.getD j rt0).ids≠[])(hnd:(za8 R R.length).Nodup)(h12:(za8 R R.length).length<=12):
 Calls ze 113 #[.agg #[za ra R.length rc,za la ln lc]] w fun e w'=>∃sl,e=.returned sl/\Below w.heap.size w w'/\w'.ownsRow w.heap.size 2 1 sl (zr3 (za8 R R.length)).length ((zr3 (za8 R R.length)).map (zc zb)):=by
 have HA:=za4 hA;have HNE:Hid _:=hne;have HND:=za4 hnd;have H12:Hid _:=h12;clear hA hne hnd h12;have HLE:Hid (∀k,k<=R.length->(za8 R k).length<=12):=fun k hk=>y7 (zC2 R hk (zQ _)) H12.X;obtain⟨n,HN⟩:=nmd R.length;rw[HN.X]at hn HNE HND H12 HLE⊢;have G0:Hid ((w.alloc (zd #[za ra n rc,za la ln lc] 33)).heap[w.heap.size]? =some (zd #[za ra n rc,za la ln lc] 33 (0,0))):=zN _ _;have B0:Hid (Below w.heap.size w (w.alloc (zd #[za ra n rc,za la ln lc] 33))):=zK _;go_enter Tryz.func113,Tryz.ntmps113;obtain⟨c0,c1⟩:=za1 G0.X
 go_wp2_with fail
 clear c0 c1;go_loopw[3,9] (fun ts t wr=>∃k:Nat,k<=n/\t=zc zb k/\Below w.heap.size w wr/\wr.ownsRow w.heap.size 2 1 ts (za8 R k).length ((za8 R k).map (zc zb))) (fun _ t _=>n - (intOf t).toNat)
 case atStart=>exact⟨0,yZ _,rfl,B0.X,by rw[zi4];exact qP _ _ _ _⟩
 case round=>
  clear G0 B0;obtain⟨k,hk,rfl,hb,ho⟩:=hrel;have B1:Hid _:=hb;have O1:=za4 ho;clear hb ho;by_cases hlt:k<n
  ·have hkn:(k:Int)<n:=by omega
   have hkR:k<R.length:=by rw[HN.X];exact hlt
   obtain⟨b,off,e,c1,c2,i3⟩:=(HA.below B1.X) k hkR;have hne:=HNE.X k hlt;have HTK:Hid _:=zf4 hkR;have hl1:=HLE.X k hk;have hl2:=HLE.X (k+1) (by omega);rw[HTK.X,xU]at hl2;subst e;generalize R.getD k rt0=r at*;obtain⟨rv,rra,rids,rcc⟩:=r;simp only at c1 c2 i3 hne HTK hl2;have hpos:=xL.2 hne;obtain⟨b',off',e',-⟩:=i3 0 hpos;subst e';have I3:=za4 i3;clear i3 hne;obtain⟨rl,HRL⟩:=nmd rids.length;obtain⟨al,HAL⟩:=nmd ((za8 R k).length);rw[HRL.X]at c2 hl2 hpos;rw[HAL.X]at O1 hl1 hl2;have B2:Hid (Below w.heap.size w (wr.alloc (zd #[zc zb rv,za (some ⟨b',off',none⟩) rl rcc] 80))):=B1.alloc B1.size _
   go_wp2_with(first
    |(at_builtin
      refine zG6 _ rfl (.tmp 13) (.tmp 15) rfl w.heap.size u3 al (za8 R k) rfl (O1.alloc _) _ rl _ rids rfl ⟨_,_,rfl⟩ HRL.X (I3.below (zK _)) (by omega) (by omega) B2.size ?_;intro v4 w4 hown hg hbk hnl;have B4:Hid _:=B2.grown hg B2.size (fun q e=>(O1.lt q e).1);have O4:Hid (w4.ownsRow w.heap.size 2 1 v4 (za8 R (k+1)).length ((za8 R (k+1)).map (zc zb))):=by rw[HTK.X,xU,HAL.X,HRL.X];exact hown
      clear hown hg hbk hnl))
   clear c1 c2
   first
    |exact⟨⟨k+1,by omega,by first|rfl|go_num,B4.X,O4.X⟩,by simp[intOf];omega⟩
    |(go_roundw
      case rel=>exact⟨k+1,by omega,by first|rfl|go_num,B4.X,O4.X⟩
      case measure=>simp[intOf];omega)
  ·have hkn:k=n:=by omega
   subst hkn
   go_wp2_with fail
   refine(y22 u3 (za8 R k).length w.heap.size (za8 R k) wr O1.X rfl H12.X HND.X).mono ?_;rintro e w5 ⟨rfl,hb,ho⟩;have B5:Hid _:=B1.trans hb;have O5:Hid (w5.ownsRow w.heap.size 2 1 u3 (zr3 (za8 R k)).length ((zr3 (za8 R k)).map (zc zb))):=by rw[zo3];exact ho
   clear hb ho;go_wp2;go_ret;exact⟨u3,rfl,B5.X,O5.X⟩
theorem zs5(n fine:Int)(a ao av ra la:Option Addr)(cap ko co kv cv rc lc:Nat)(zs os vs L:List Int)(R:List RT)(w:World)(hR:za9 w ra R)(hn:R.length<=1048576)(hrc:∀r∈R,r.ids.length<=r.c)(pv:Int)(hpv:zc3 n zs os vs ko kv fine R L=pv)
 (hpc:∀W,Below w.heap.size w W->Calls ze 38 #[.agg #[zc zb n,za a zs.length cap,za ao ko co,za av kv cv,zc zb fine],.agg #[za ra R.length rc,za la L.length lc]] W fun e w'=>e=.returned (zc zb pv)/\Below W.heap.size W w'):
 Calls ze 90 #[.agg #[zc zb n,za a zs.length cap,za ao ko co,za av kv cv,zc zb fine],.agg #[za ra R.length rc,za la L.length lc]] w fun e w'=>∃sl,e=.returned sl/\Below w.heap.size w w'/\w'.ownsRow w.heap.size 2 1 sl (zi9 n zs os vs ko kv fine R L).length ((zi9 n zs os vs ko kv fine R L).map (zc zb)):=by
 have HR:=za4 hR;have HPC:Hid _:=hpc;have HPV:Hid _:=hpv;have HRC:Hid _:=hrc;clear hR hpc hpv hrc;obtain⟨X,HX⟩:=nmd (zi9 n zs os vs ko kv fine R L);obtain⟨m,HN⟩:=nmd R.length;rw[HX.X,HN.X];rw[HN.X]at hn HPC;have C0:Hid (CP w (((w.alloc (zd #[zc zb n,za a zs.length cap,za ao ko co,za av kv cv,zc zb fine] 30)).alloc (zd #[za ra m rc,za la L.length lc] 33)).alloc (zd #[] 2)) #[zc zb n,za a zs.length cap,za ao ko co,za av kv cv,zc zb fine] #[za ra m rc,za la L.length lc]):=
  CP.alloc ⟨(zK _).alloc (by simp) _,xb _ _ _,y8 _ _ _⟩ _
 have O0:Hid ((((w.alloc (zd #[zc zb n,za a zs.length cap,za ao ko co,za av kv cv,zc zb fine] 30)).alloc (zd #[za ra m rc,za la L.length lc] 33)).alloc (zd #[] 2)).ownsRow w.heap.size 2 1 (za (some ⟨w.heap.size+1+1,0,none⟩) 0 0) 0 (([]:List Int).map (zc zb))):=by
  have:=zc4 (zY1 ((w.alloc (zd #[zc zb n,za a zs.length cap,za ao ko co,za av kv cv,zc zb fine] 30)).alloc (zd #[za ra m rc,za la L.length lc] 33))) (b0:=w.heap.size) (by simp;omega);show World.ownsRow _ _ _ _ _ _ _;simpa using this
 go_enter Tryz.func90,Tryz.ntmps90;obtain⟨c0,c1,c2,c3,c4⟩:=za7 C0.2.1;obtain⟨d0,d1⟩:=za1 C0.2.2
 go_wp2_with fail
 clear c0 c1 c2 c3 c4 d0 d1;generalize((w.alloc (zd #[zc zb n,za a zs.length cap,za ao ko co,za av kv cv,zc zb fine] 30)).alloc (zd #[za ra m rc,za la L.length lc] 33)).alloc (zd #[] 2)=W0 at*;refine(HPC.X _ C0.1).mono ?_;rintro e w1 ⟨rfl,hb⟩;have C1:=za4 (C0.below hb);have O1:=za4 (zc5 O0.X hb);clear hb C0 O0;by_cases h0:pv=0
 ·subst h0
  obtain⟨h12,hnd,hne⟩:=zk3 HPV.X;have H12:Hid (∀k j,k<m->j<=(R.getD k rt0).ids.length->(za8 R k++(R.getD k rt0).ids.take j).length<=12):=fun k j hk hj=>y7 (zM0 (by rw[HN.X];exact hk) hj) h12
  have HXE:Hid (zr3 (za8 R m)=X):=by
   show _=_;rw[<-HX.X,<-HN.X];unfold zi9;rw[zV HPV.X]
  clear h12 hnd;have HNE:Hid _:=hne;clear hne
  go_wp2_with fail
  go_loopw[5,6] (fun ts t wr=>∃(k g c:Nat),k<=m/\t=zc zb k/\ts=za (some ⟨g,0,none⟩) (za8 R k).length c/\CP w wr #[zc zb n,za a zs.length cap,za ao ko co,za av kv cv,zc zb fine] #[za ra m rc,za la L.length lc]/\wr.ownsRow w.heap.size 2 1 ts (zr3 (za8 R k)).length ((zr3 (za8 R k)).map (zc zb))) (fun _ t _=>m - (intOf t).toNat)
  case atStart=>exact⟨0,w.heap.size+1+1,0,yZ _,rfl,by rw[zi4];rfl,C1.X,by rw[zi4];exact O1.X⟩
  case round=>
   clear C1 O1;obtain⟨k,g,c,hk,rfl,rfl,hC,hO⟩:=hrel;have C2:=za4 hC;have O2:=za4 hO;clear hC hO;obtain⟨d0,d1⟩:=za1 C2.2.2;by_cases hlt:k<m
   ·have hkm:(k:Int)<(m:Int):=by omega
    have hkR:k<R.length:=by rw[HN.X];exact hlt
    obtain⟨rb,ro,e,-⟩:=HR.X k hkR;subst e;have HTK:Hid _:=zf4 hkR;have hmem:R.getD k rt0∈R:=by rw[zM,zO hkR];simp
    have hcc:=HRC.X _ hmem;have hne:=HNE.X k hkR;have HB12:Hid (∀j,j<=(R.getD k rt0).ids.length->(za8 R k++(R.getD k rt0).ids.take j).length<=12):=fun j hj=>H12.X k j hlt hj;have HRK:Hid (∀W,Below w.heap.size w W->W.cell? ⟨rb,ro+k*2+1,none⟩=some (.slice (R.getD k rt0).a (R.getD k rt0).ids.length (R.getD k rt0).c)/\za3 W (R.getD k rt0).a (R.getD k rt0).ids):=fun W hb=>by
     obtain⟨_,_,e,_,h2,h3⟩:=(HR.below hb) k hkR;simp only[xV,xZ,qb]at e;obtain⟨rfl,rfl⟩:=e;exact⟨h2,h3⟩
    generalize R.getD k rt0=r at*;obtain⟨rv,rra,rids,rcc⟩:=r;simp only at HTK hcc hne HB12 HRK;have hpos:=xL.2 hne;obtain⟨b',off',e',-⟩:=(HRK.X wr C2.1).2 0 hpos;subst e';obtain⟨q,HQ⟩:=nmd rids.length;rw[HQ.X]at hcc hpos HRK HB12;have hq12:q<=12:=by
     have:=HB12.X q (zQ _);rw[xU,zZ,HQ.X]at this;omega
    clear hne hmem
    go_wp2_with fail
    clear d0 d1;go_loopw[5,7] (fun ts t wr=>∃(j g c:Nat),j<=q/\t=zc zb j/\ts=za (some ⟨g,0,none⟩) (za8 R k++rids.take j).length c/\CP w wr #[zc zb n,za a zs.length cap,za ao ko co,za av kv cv,zc zb fine] #[za (some ⟨rb,ro,none⟩) m rc,za la L.length lc]/\wr.ownsRow w.heap.size 2 1 ts (zr3 (za8 R k++rids.take j)).length ((zr3 (za8 R k++rids.take j)).map (zc zb))) (fun _ t _=>q - (intOf t).toNat)
    case atStart=>exact⟨0,g,c,yZ _,rfl,by rw[xR,xY],C2.X,by rw[xR,xY];exact O2.X⟩
    case round=>
     clear C2 O2;obtain⟨j,g3,c3,hj,rfl,rfl,hC,hO⟩:=hrel;have C3:=za4 hC;have hl12:=HB12.X j hj;obtain⟨c1,i1⟩:=HRK.X wr C3.1;obtain⟨d0,d1⟩:=za1 C3.2.2;by_cases hjq:j<q
     ·have hjI:(j:Int)<(q:Int):=by omega
      obtain⟨_,_,e,cj⟩:=i1 j (by rw[HQ.X];exact hjq);simp only[xV,xZ,qb]at e;obtain⟨rfl,rfl⟩:=e;have HSN:Hid (za8 R k++rids.take (j+1)=(za8 R k++rids.take j)++[rids.getD j 0]):=by
       show _=_;rw[yz,z7,zM,zO (show j<rids.length by rw[HQ.X];exact hjq)];rfl
      obtain⟨x,HXX⟩:=nmd (rids.getD j 0);rw[HXX.X]at cj HSN;obtain⟨F,HF⟩:=nmd (za8 R k++rids.take j);rw[HF.X]at hO hl12 HSN⊢;obtain⟨fl,HFL⟩:∃F',Hid (F.length=F'):=⟨_,rfl⟩;have hO':wr.ownsRow w.heap.size 2 1 (za (some ⟨g3,0,none⟩) fl c3) fl ((zr3 F).map (zc zb)):=by
       rw[zo3,HFL.X]at hO;exact hO
      have HSF:Hid _:=(zo3 F).trans HFL.X;have HPT:Hid (∀W,za3 W (some ⟨g3,0,none⟩) (zr3 F)->Calls ze 92 #[za (some ⟨g3,0,none⟩) fl c3,zc zb x] W fun e w'=>∃g cc,e=.returned (za (some ⟨g,0,none⟩) (fl+1) cc)/\Below W.heap.size W w'/\w'.ownsRow W.heap.size 2 1 (za (some ⟨g,0,none⟩) (fl+1) cc) (fl+1) ((zr3 (F++[x])).map (zc zb))):=fun W h=>by
       have:=zT5 g3 0 c3 (zr3 F) x W h (by rw[HSF.X,<-HFL.X];omega) (by rw[HSF.X];exact yE7 hO');rw[HSF.X]at this;rw[zT6];exact this
      have I3:Hid (za3 wr (some ⟨g3,0,none⟩) (zr3 F)):=z03 (by rw[HSF.X];exact hO') HSF.X;rw[HFL.X]at hl12⊢;clear hC hO hO' i1
      go_wp2_with fail
      clear d0 d1 c1 cj;refine(HPT.X _ I3.X).mono ?_;rintro e w4 ⟨g4,c4,rfl,hb,ho⟩;have C4:=za4 (C3.below hb);have O4:Hid (w4.ownsRow w.heap.size 2 1 (za (some ⟨g4,0,none⟩) (fl+1) c4) (fl+1) ((zr3 (F++[x])).map (zc zb))):=zc4 ho C3.1.size;have HLN:Hid ((F++[x]).length=fl+1):=by show _=_;rw[xU,HFL.X];rfl
      clear hb ho C3 I3;go_wp2
      first
       |exact⟨⟨j+1,g4,c4,by omega,by first|rfl|go_num,by rw[HSN.X,HLN.X],C4.X,by rw[HSN.X,zo3,HLN.X];exact O4.X⟩,by simp[intOf];omega⟩
       |(go_roundw
         case rel=>exact⟨j+1,g4,c4,by omega,by first|rfl|go_num,by rw[HSN.X,HLN.X],C4.X,by rw[HSN.X,zo3,HLN.X];exact O4.X⟩
         case measure=>simp[intOf];omega)
     ·have hjI:¬((j:Int)<(q:Int)):=by omega
      have hjq':j=q:=by omega
      have HE:Hid (za8 R k++rids.take j=za8 R (k+1)):=by
       show _=_;rw[hjq',<-HQ.X,yc,HTK.X]
      have O3:Hid (wr.ownsRow w.heap.size 2 1 (za (some ⟨g3,0,none⟩) (za8 R (k+1)).length c3) (zr3 (za8 R (k+1))).length ((zr3 (za8 R (k+1))).map (zc zb))):=by
       rw[HE.X]at hO;exact hO
      rw[HE.X];obtain⟨fl,HFL⟩:∃F',Hid ((za8 R (k+1)).length=F'):=⟨_,rfl⟩;rw[HFL.X]at O3⊢;clear hC hO i1 hjq';go_wp2
      first
       |exact⟨⟨k+1,g3,c3,by omega,by first|rfl|go_num,by rw[HFL.X],C3.X,O3.X⟩,by simp[intOf];omega⟩
       |(go_roundw
         case rel=>exact⟨k+1,g3,c3,by omega,by first|rfl|go_num,by rw[HFL.X],C3.X,O3.X⟩
         case measure=>simp[intOf];omega)
   ·have hkm:¬((k:Int)<(m:Int)):=by omega
    have hke:k=m:=by omega
    have O3:Hid (wr.ownsRow w.heap.size 2 1 (za (some ⟨g,0,none⟩) (za8 R k).length c) X.length (X.map (zc zb))):=by
     have:=O2.X;rw[<-HXE.X,<-hke];exact this
    obtain⟨fl,HFL⟩:∃F',Hid ((za8 R k).length=F'):=⟨_,rfl⟩;rw[HFL.X]at O3⊢;clear hke O2;go_wp2;go_ret;exact⟨_,rfl,C2.1,O3.X⟩
 ·have hpn:(pv !=0)=true:=by simp[h0]
  have HXE:Hid (X=[]):=by
   show _=_;rw[<-HX.X];unfold zi9;rw[zW (by rw[HPV.X];exact h0)]
  clear h0;go_wp2;go_ret;exact⟨_,rfl,C1.1,by rw[HXE.X];exact O1.X⟩
