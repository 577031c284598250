import Derived.Test.YtkchnomkiboihaaGreatPack16
import Derived.Test.YtkchnomkiboihaaGreatPack17
set_option linter.unusedSimpArgs false
set_option maxHeartbeats 2000000
namespace Go.Proofs.YtkchnomkiboihaaGreat
open Value renaming slice→za,int→ze
open IntKind renaming i64→zd
open Obj renaming cells→zg
open Proofs.Tryz renaming prog→zh
open Go.RowKit
open Q
noncomputable def zi7(n:Int)(zs os vs:List Int)(ko kv:Nat)(fine:Int)(R:List RT)(L:List Int):List Int:=if zc1 n zs os vs ko kv fine R L=0 then zr5 (zb0 R R.length)else []
theorem zj8{n:Int}{zs os vs:List Int}{ko kv:Nat}{fine:Int}{R:List RT}{L:List Int}(h:zc1 n zs os vs ko kv fine R L=0):(zb0 R R.length).length<=12/\(zb0 R R.length).Nodup/\∀j,j<R.length->(R.getD j rt0).ids≠[]:=by
 obtain⟨h1,h2,h3,_,h5⟩:=zb7 h;have:=(zd8 (zb2 h1).2.1).1;exact⟨by omega,h3.1,fun j hj=>(h2 j hj).2.1⟩
theorem zE7(n:Int)(zs os vs:List Int)(ko kv:Nat)(fine:Int)(R:List RT)(L:List Int):(zi7 n zs os vs ko kv fine R L).length<=12:=by
 unfold zi7;split
 ·rename_i h
  rw[zn9];exact(zj8 h).1
 ·simp
theorem z99(ra la:Option Addr)(rc ln lc:Nat)(R:List RT)(w:World)(hA:za9 w ra R)(hn:R.length<=1048576)(aq:∀j,j<R.length->(R.getD j rt0).ids≠[])(cI:(zb0 R R.length).Nodup)(bF:(zb0 R R.length).length<=12):
 Calls zh 113 #[.agg #[za ra R.length rc,za la ln lc]] w fun e w'=>∃sl,e=.returned sl/\Below w.heap.size w w'/\w'.ownsRow w.heap.size 2 1 sl (zr5 (zb0 R R.length)).length ((zr5 (zb0 R R.length)).map (ze zd)):=by
 have HA:=za4 hA;have mg:Hid _:=aq;have jO:=za4 cI;have vT:Hid _:=bF;clear hA aq cI bF;have pZ:Hid (∀k,k<=R.length->(zb0 R k).length<=12):=fun k hk=>xj (zR4 R hk (zT _)) vT.X;obtain⟨n,HN⟩:=nmd R.length;rw[HN.X]at hn mg jO vT pZ⊢;have G0:=za4 (zS w (zg #[za ra n rc,za la ln lc] 33));have B0:Hid (Below w.heap.size w (w.alloc (zg #[za ra n rc,za la ln lc] 33))):=zP _;go_enter Tryz.func113,Tryz.ntmps113;obtain⟨c0,c1⟩:=za1 G0.X
 go_wp2_with fail
 clear c0 c1;go_loopw[3,9] (fun ts t wr=>∃k:Nat,k<=n/\t=ze zd k/\Below w.heap.size w wr/\wr.ownsRow w.heap.size 2 1 ts (zb0 R k).length ((zb0 R k).map (ze zd))) (fun _ t _=>n - (intOf t).toNat)
 case atStart=>exact⟨0,xi _,rfl,B0.X,by rw[zj9];exact xZ _ _ _ _⟩
 case round=>
  clear G0 B0;obtain⟨k,hk,rfl,hb,ho⟩:=hrel;have B1:Hid _:=hb;have O1:=za4 ho;clear hb ho;by_cases ah:k<n
  ·have cM:(k:Int)<n:=by omega
   have dr:k<R.length:=by rw[HN.X];exact ah
   obtain⟨b,off,e,c1,c2,i3⟩:=(HA.below B1.X) k dr;have aq:=mg.X k ah;have lK:Hid _:=zg0 dr;have mi:=pZ.X k hk;have gu:=pZ.X (k+1) (by omega);rw[lK.X,xS]at gu;subst e;generalize R.getD k rt0=r at*;obtain⟨rv,iu,aA,dE⟩:=r;simp only at c1 c2 i3 aq lK gu;have fO:=xV.2 aq;obtain⟨b',aT,e',-⟩:=i3 0 fO;subst e';have I3:=za4 i3;clear i3 aq;obtain⟨rl,cu⟩:=nmd aA.length;obtain⟨al,iP⟩:=nmd ((zb0 R k).length);rw[cu.X]at c2 gu fO;rw[iP.X]at O1 mi gu;have B2:Hid (Below w.heap.size w (wr.alloc (zg #[ze zd rv,za (some ⟨b',aT,none⟩) rl dE] 80))):=B1.alloc B1.size _
   go_wp2_with(first
    |(at_builtin
      refine zG1 _ rfl (.tmp 13) (.tmp 15) rfl w.heap.size u3 al (zb0 R k) rfl (O1.alloc _) _ rl _ aA rfl ⟨_,_,rfl⟩ cu.X (I3.below (zP _)) (by omega) (by omega) B2.size ?_;intro v4 w4 ae hg a_ aW;have B4:Hid _:=B2.grown hg B2.size (fun q e=>(O1.lt q e).1);have O4:Hid (w4.ownsRow w.heap.size 2 1 v4 (zb0 R (k+1)).length ((zb0 R (k+1)).map (ze zd))):=by rw[lK.X,xS,iP.X,cu.X];exact ae
      clear ae hg a_ aW))
   clear c1 c2
   first
    |exact⟨⟨k+1,by omega,by first|rfl|go_num,B4.X,O4.X⟩,by simp[intOf];omega⟩
    |(go_roundw
      case rel=>exact⟨k+1,by omega,by first|rfl|go_num,B4.X,O4.X⟩
      case measure=>simp[intOf];omega)
  ·have cM:k=n:=by omega
   subst cM
   go_wp2_with fail
   refine(yx0 u3 (zb0 R k).length w.heap.size (zb0 R k) wr O1.X rfl vT.X jO.X).mono ?_;rintro e w5 ⟨rfl,hb,ho⟩;have B5:Hid _:=B1.trans hb;have O5:Hid (w5.ownsRow w.heap.size 2 1 u3 (zr5 (zb0 R k)).length ((zr5 (zb0 R k)).map (ze zd))):=by rw[zn9];exact ho
   clear hb ho;go_wp2;go_ret;exact⟨u3,rfl,B5.X,O5.X⟩
theorem zs2(n fine:Int)(a ao av ra la:Option Addr)(ac ko co kv cv rc lc:Nat)(zs os vs L:List Int)(R:List RT)(w:World)(hR:za9 w ra R)(hn:R.length<=1048576)(eg:∀r∈R,r.ids.length<=r.c)(pv:Int)(du:zc1 n zs os vs ko kv fine R L=pv)
 (eI:∀W,Below w.heap.size w W->Calls zh 38 #[.agg #[ze zd n,za a zs.length ac,za ao ko co,za av kv cv,ze zd fine],.agg #[za ra R.length rc,za la L.length lc]] W fun e w'=>e=.returned (ze zd pv)/\Below W.heap.size W w'):
 Calls zh 90 #[.agg #[ze zd n,za a zs.length ac,za ao ko co,za av kv cv,ze zd fine],.agg #[za ra R.length rc,za la L.length lc]] w fun e w'=>∃sl,e=.returned sl/\Below w.heap.size w w'/\w'.ownsRow w.heap.size 2 1 sl (zi7 n zs os vs ko kv fine R L).length ((zi7 n zs os vs ko kv fine R L).map (ze zd)):=by
 have HR:=za4 hR;have gS:Hid _:=eI;have cJ:Hid _:=du;have bA:Hid _:=eg;clear hR eI du eg;obtain⟨X,HX⟩:=nmd (zi7 n zs os vs ko kv fine R L);obtain⟨m,HN⟩:=nmd R.length;rw[HX.X,HN.X];rw[HN.X]at hn gS;have C0:Hid (CP w (((w.alloc (zg #[ze zd n,za a zs.length ac,za ao ko co,za av kv cv,ze zd fine] 30)).alloc (zg #[za ra m rc,za la L.length lc] 33)).alloc (zg #[] 2)) #[ze zd n,za a zs.length ac,za ao ko co,za av kv cv,ze zd fine] #[za ra m rc,za la L.length lc]):=
  CP.alloc ⟨(zP _).alloc (by simp) _,xm _ _ _,xh _ _ _⟩ _
 have O0:Hid ((((w.alloc (zg #[ze zd n,za a zs.length ac,za ao ko co,za av kv cv,ze zd fine] 30)).alloc (zg #[za ra m rc,za la L.length lc] 33)).alloc (zg #[] 2)).ownsRow w.heap.size 2 1 (za (some ⟨w.heap.size+1+1,0,none⟩) 0 0) 0 (([]:List Int).map (ze zd))):=by
  have:=zb5 (zV2 ((w.alloc (zg #[ze zd n,za a zs.length ac,za ao ko co,za av kv cv,ze zd fine] 30)).alloc (zg #[za ra m rc,za la L.length lc] 33))) (b0:=w.heap.size) (by simp;omega);show World.ownsRow _ _ _ _ _ _ _;simpa using this
 go_enter Tryz.func90,Tryz.ntmps90;obtain⟨c0,c1,c2,c3,c4⟩:=za7 C0.2.1;obtain⟨d0,d1⟩:=za1 C0.2.2
 go_wp2_with fail
 clear c0 c1 c2 c3 c4 d0 d1;generalize((w.alloc _).alloc _).alloc _=W0 at*;refine(gS.X _ C0.1).mono ?_;rintro e w1 ⟨rfl,hb⟩;have C1:=za4 (C0.below hb);have O1:=za4 (zb9 O0.X hb);clear hb C0 O0;by_cases h0:pv=0
 ·subst h0
  obtain⟨bF,cI,aq⟩:=zj8 cJ.X;have vT:Hid (∀k j,k<m->j<=(R.getD k rt0).ids.length->(zb0 R k++(R.getD k rt0).ids.take j).length<=12):=fun k j hk hj=>xj (zO1 (by rw[HN.X];exact hk) hj) bF
  have nI:Hid (zr5 (zb0 R m)=X):=by
   show _=_;rw[<-HX.X,<-HN.X];unfold zi7;rw[z7 cJ.X]
  clear bF cI;have mg:Hid _:=aq;clear aq
  go_wp2_with fail
  go_loopw[5,6] (fun ts t wr=>∃(k g c:Nat),k<=m/\t=ze zd k/\ts=za (some ⟨g,0,none⟩) (zb0 R k).length c/\CP w wr #[ze zd n,za a zs.length ac,za ao ko co,za av kv cv,ze zd fine] #[za ra m rc,za la L.length lc]/\wr.ownsRow w.heap.size 2 1 ts (zr5 (zb0 R k)).length ((zr5 (zb0 R k)).map (ze zd))) (fun _ t _=>m - (intOf t).toNat)
  case atStart=>exact⟨0,w.heap.size+1+1,0,xi _,rfl,by rw[zj9];rfl,C1.X,by rw[zj9];exact O1.X⟩
  case round=>
   clear C1 O1;obtain⟨k,g,c,hk,rfl,rfl,hC,hO⟩:=hrel;have C2:=za4 hC;have O2:=za4 hO;clear hC hO;obtain⟨d0,d1⟩:=za1 C2.2.2;by_cases ah:k<m
   ·have iA:(k:Int)<(m:Int):=by omega
    have dr:k<R.length:=by rw[HN.X];exact ah
    obtain⟨rb,ro,e,-⟩:=HR.X k dr;subst e;have lK:Hid _:=zg0 dr;have bH:R.getD k rt0∈R:=by rw[zQ,zR dr];simp
    have fE:=bA.X _ bH;have aq:=mg.X k dr;have pM:Hid (∀j,j<=(R.getD k rt0).ids.length->(zb0 R k++(R.getD k rt0).ids.take j).length<=12):=fun j hj=>vT.X k j ah hj;have uR:Hid (∀W,Below w.heap.size w W->W.cell? ⟨rb,ro+k*2+1,none⟩=some (.slice (R.getD k rt0).a (R.getD k rt0).ids.length (R.getD k rt0).c)/\za3 W (R.getD k rt0).a (R.getD k rt0).ids):=fun W hb=>by
     obtain⟨_,_,e,_,h2,h3⟩:=(HR.below hb) k dr;simp only[xT,qg,qt]at e;obtain⟨rfl,rfl⟩:=e;exact⟨h2,h3⟩
    generalize R.getD k rt0=r at*;obtain⟨rv,iu,aA,dE⟩:=r;simp only at lK fE aq pM uR;have fO:=xV.2 aq;obtain⟨b',aT,e',-⟩:=(uR.X wr C2.1).2 0 fO;subst e';obtain⟨q,HQ⟩:=nmd aA.length;rw[HQ.X]at fE fO uR pM;have Po:q<=12:=by
     have:=pM.X q (zT _);rw[xS,yh,HQ.X]at this;omega
    clear aq bH
    go_wp2_with fail
    clear d0 d1;go_loopw[5,7] (fun ts t wr=>∃(j g c:Nat),j<=q/\t=ze zd j/\ts=za (some ⟨g,0,none⟩) (zb0 R k++aA.take j).length c/\CP w wr #[ze zd n,za a zs.length ac,za ao ko co,za av kv cv,ze zd fine] #[za (some ⟨rb,ro,none⟩) m rc,za la L.length lc]/\wr.ownsRow w.heap.size 2 1 ts (zr5 (zb0 R k++aA.take j)).length ((zr5 (zb0 R k++aA.take j)).map (ze zd))) (fun _ t _=>q - (intOf t).toNat)
    case atStart=>exact⟨0,g,c,xi _,rfl,by rw[qM,qK],C2.X,by rw[qM,qK];exact O2.X⟩
    case round=>
     clear C2 O2;obtain⟨j,g3,c3,hj,rfl,rfl,hC,hO⟩:=hrel;have C3:=za4 hC;have tN:=pM.X j hj;obtain⟨c1,i1⟩:=uR.X wr C3.1;obtain⟨d0,d1⟩:=za1 C3.2.2;by_cases hjq:j<q
     ·have Cw:(j:Int)<(q:Int):=by omega
      obtain⟨_,_,e,cj⟩:=i1 j (by rw[HQ.X];exact hjq);simp only[xT,qg,qt]at e;obtain⟨rfl,rfl⟩:=e;have eD:Hid (zb0 R k++aA.take (j+1)=(zb0 R k++aA.take j)++[aA.getD j 0]):=by
       show _=_;rw[yI,yi,zQ,zR (show j<aA.length by rw[HQ.X];exact hjq)];rfl
      obtain⟨x,l7⟩:=nmd (aA.getD j 0);rw[l7.X]at cj eD;obtain⟨F,HF⟩:=nmd (zb0 R k++aA.take j);rw[HF.X]at hO tN eD⊢;obtain⟨fl,fd⟩:∃F',Hid (F.length=F'):=⟨_,rfl⟩;have D':wr.ownsRow w.heap.size 2 1 (za (some ⟨g3,0,none⟩) fl c3) fl ((zr5 F).map (ze zd)):=by
       rw[zn9,fd.X]at hO;exact hO
      have pD:Hid _:=(zn9 F).trans fd.X;have LL:Hid (∀W,za3 W (some ⟨g3,0,none⟩) (zr5 F)->Calls zh 92 #[za (some ⟨g3,0,none⟩) fl c3,ze zd x] W fun e w'=>∃g cc,e=.returned (za (some ⟨g,0,none⟩) (fl+1) cc)/\Below W.heap.size W w'/\w'.ownsRow W.heap.size 2 1 (za (some ⟨g,0,none⟩) (fl+1) cc) (fl+1) ((zr5 (F++[x])).map (ze zd))):=fun W h=>by
       have:=zW9 g3 0 c3 (zr5 F) x W h (by rw[pD.X,<-fd.X];omega) (by rw[pD.X];exact y28 D');rw[pD.X]at this;rw[zZ9];exact this
      have I3:=za4 (zy7 (by rw[pD.X];exact D') pD.X);rw[fd.X]at tN⊢;clear hC hO D' i1
      go_wp2_with fail
      clear d0 d1 c1 cj;refine(LL.X _ I3.X).mono ?_;rintro e w4 ⟨g4,c4,rfl,hb,ho⟩;have C4:=za4 (C3.below hb);have O4:=za4 (zb5 ho C3.1.size);have dW:Hid ((F++[x]).length=fl+1):=by show _=_;rw[xS,fd.X];rfl
      clear hb ho C3 I3;go_wp2
      first
       |exact⟨⟨j+1,g4,c4,by omega,by first|rfl|go_num,by rw[eD.X,dW.X],C4.X,by rw[eD.X,zn9,dW.X];exact O4.X⟩,by simp[intOf];omega⟩
       |(go_roundw
         case rel=>exact⟨j+1,g4,c4,by omega,by first|rfl|go_num,by rw[eD.X,dW.X],C4.X,by rw[eD.X,zn9,dW.X];exact O4.X⟩
         case measure=>simp[intOf];omega)
     ·have Cw:¬((j:Int)<(q:Int)):=by omega
      have AW:j=q:=by omega
      have HE:Hid (zb0 R k++aA.take j=zb0 R (k+1)):=by
       show _=_;rw[AW,<-HQ.X,ym,lK.X]
      have O3:Hid (wr.ownsRow w.heap.size 2 1 (za (some ⟨g3,0,none⟩) (zb0 R (k+1)).length c3) (zr5 (zb0 R (k+1))).length ((zr5 (zb0 R (k+1))).map (ze zd))):=by
       rw[HE.X]at hO;exact hO
      rw[HE.X];obtain⟨fl,fd⟩:∃F',Hid ((zb0 R (k+1)).length=F'):=⟨_,rfl⟩;rw[fd.X]at O3⊢;clear hC hO i1 AW;go_wp2
      first
       |exact⟨⟨k+1,g3,c3,by omega,by first|rfl|go_num,by rw[fd.X],C3.X,O3.X⟩,by simp[intOf];omega⟩
       |(go_roundw
         case rel=>exact⟨k+1,g3,c3,by omega,by first|rfl|go_num,by rw[fd.X],C3.X,O3.X⟩
         case measure=>simp[intOf];omega)
   ·have iA:¬((k:Int)<(m:Int)):=by omega
    have cW:k=m:=by omega
    have O3:Hid (wr.ownsRow w.heap.size 2 1 (za (some ⟨g,0,none⟩) (zb0 R k).length c) X.length (X.map (ze zd))):=by
     have:=O2.X;rw[<-nI.X,<-cW];exact this
    obtain⟨fl,fd⟩:∃F',Hid ((zb0 R k).length=F'):=⟨_,rfl⟩;rw[fd.X]at O3⊢;clear cW O2;go_wp2;go_ret;exact⟨_,rfl,C2.1,O3.X⟩
 ·have tI:(pv !=0)=true:=by simp[h0]
  have nI:Hid (X=[]):=by
   show _=_;rw[<-HX.X];unfold zi7;rw[ye (by rw[cJ.X];exact h0)]
  clear h0;go_wp2;go_ret;exact⟨_,rfl,C1.1,by rw[nI.X];exact O1.X⟩
