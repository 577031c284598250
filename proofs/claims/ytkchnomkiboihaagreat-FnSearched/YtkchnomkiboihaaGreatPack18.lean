import Derived.Test.YtkchnomkiboihaaGreatPack16
import Derived.Test.YtkchnomkiboihaaGreatPack17
set_option linter.unusedSimpArgs false
set_option maxHeartbeats 2000000
namespace Go.Proofs.YtkchnomkiboihaaGreat
open RowKit renaming Below→Za,Hid→Zb
open Value renaming slice→za,int→ze
open IntKind renaming i64→zd
open Obj renaming cells→zg
open Proofs.Tryz renaming prog→zh
open Go.RowKit
open Q
noncomputable def zi7(n:Int)(zs os vs:List Int)(ko kv:Nat)(fine:Int)(R:List RT)(L:List Int):List Int:=if zc1 n zs os vs ko kv fine R L=0 then zr3 (zb0 R R.length)else []
theorem zj6{n:Int}{zs os vs:List Int}{ko kv:Nat}{fine:Int}{R:List RT}{L:List Int}(h:zc1 n zs os vs ko kv fine R L=0):(zb0 R R.length).length<=12/\(zb0 R R.length).Nodup/\∀j,j<R.length->(R.getD j rt0).ids≠[]:=by
 obtain⟨h1,h2,h3,_,h5⟩:=zb7 h;have:=(zd9 (zb2 h1).2.1).1;exact⟨by omega,h3.1,fun j hj=>(h2 j hj).2.1⟩
theorem zG1(n:Int)(zs os vs:List Int)(ko kv:Nat)(fine:Int)(R:List RT)(L:List Int):(zi7 n zs os vs ko kv fine R L).length<=12:=by
 unfold zi7;split
 ·rename_i h
  rw[zo4];exact(zj6 h).1
 ·simp
theorem z99(ra la:Option Addr)(rc ln lc:Nat)(R:List RT)(w:World)(hA:za9 w ra R)(hn:R.length<=1048576)(aq:∀j,j<R.length->(R.getD j rt0).ids≠[])(cK:(zb0 R R.length).Nodup)(bJ:(zb0 R R.length).length<=12):
 Calls zh 113 #[.agg #[za ra R.length rc,za la ln lc]] w fun e w'=>∃sl,e=.returned sl/\Za w.heap.size w w'/\w'.ownsRow w.heap.size 2 1 sl (zr3 (zb0 R R.length)).length ((zr3 (zb0 R R.length)).map (ze zd)):=by
 have HA:=za4 hA;have mq:Zb _:=aq;have kA:=za4 cK;have v8:Zb _:=bJ;clear hA aq cK bJ;have pD:Zb (∀k,k<=R.length->(zb0 R k).length<=12):=fun k hk=>xj (zT7 R hk (zT _)) v8.X;obtain⟨n,HN⟩:=nmd R.length;rw[HN.X]at hn mq kA v8 pD⊢;have G0:=za4 (zS w (zg #[za ra n rc,za la ln lc] 33));have B0:Zb (Za w.heap.size w (w.alloc (zg #[za ra n rc,za la ln lc] 33))):=zP _;go_enter Tryz.func113,Tryz.ntmps113;obtain⟨c0,c1⟩:=za1 G0.X
 go_wp2_with fail
 clear c0 c1;go_loopw[3,9] (fun ts t wr=>∃k:Nat,k<=n/\t=ze zd k/\Za w.heap.size w wr/\wr.ownsRow w.heap.size 2 1 ts (zb0 R k).length ((zb0 R k).map (ze zd))) (fun _ t _=>n - (intOf t).toNat)
 case atStart=>exact⟨0,xi _,rfl,B0.X,by rw[zk1];exact xZ _ _ _ _⟩
 case round=>
  clear G0 B0;obtain⟨k,hk,rfl,hb,ho⟩:=hrel;have B1:Zb _:=hb;have O1:=za4 ho;clear hb ho;by_cases ah:k<n
  ·have cL:(k:Int)<n:=by omega
   have dt:k<R.length:=by rw[HN.X];exact ah
   obtain⟨b,off,e,c1,c2,i3⟩:=(HA.below B1.X) k dt;have aq:=mq.X k ah;have lF:Zb _:=zf9 dt;have mv:=pD.X k hk;have f_:=pD.X (k+1) (by omega);rw[lF.X,xS]at f_;subst e;generalize R.getD k rt0=r at*;obtain⟨rv,iA,ay,dE⟩:=r;simp only at c1 c2 i3 aq lF f_;have fO:=xV.2 aq;obtain⟨b',aR,e',-⟩:=i3 0 fO;subst e';have I3:=za4 i3;clear i3 aq;obtain⟨rl,cu⟩:=nmd ay.length;obtain⟨al,iQ⟩:=nmd ((zb0 R k).length);rw[cu.X]at c2 f_ fO;rw[iQ.X]at O1 mv f_;have B2:Zb (Za w.heap.size w (wr.alloc (zg #[ze zd rv,za (some ⟨b',aR,none⟩) rl dE] 80))):=B1.alloc B1.size _
   go_wp2_with(first
    |(at_builtin
      refine zH0 _ rfl (.tmp 13) (.tmp 15) rfl w.heap.size u3 al (zb0 R k) rfl (O1.alloc _) _ rl _ ay rfl ⟨_,_,rfl⟩ cu.X (I3.below (zP _)) (by omega) (by omega) B2.size ?_;intro v4 w4 ae hg bd aX;have B4:Zb _:=B2.grown hg B2.size (fun q e=>(O1.lt q e).1);have O4:Zb (w4.ownsRow w.heap.size 2 1 v4 (zb0 R (k+1)).length ((zb0 R (k+1)).map (ze zd))):=by rw[lF.X,xS,iQ.X,cu.X];exact ae
      clear ae hg bd aX))
   clear c1 c2
   first
    |exact⟨⟨k+1,by omega,by first|rfl|go_num,B4.X,O4.X⟩,by simp[intOf];omega⟩
    |(go_roundw
      case rel=>exact⟨k+1,by omega,by first|rfl|go_num,B4.X,O4.X⟩
      case measure=>simp[intOf];omega)
  ·have cL:k=n:=by omega
   subst cL
   go_wp2_with fail
   refine(yu3 u3 (zb0 R k).length w.heap.size (zb0 R k) wr O1.X rfl v8.X kA.X).mono ?_;rintro e w5 ⟨rfl,hb,ho⟩;have B5:Zb _:=B1.trans hb;have O5:Zb (w5.ownsRow w.heap.size 2 1 u3 (zr3 (zb0 R k)).length ((zr3 (zb0 R k)).map (ze zd))):=by rw[zo4];exact ho
   clear hb ho;go_wp2;go_ret;exact⟨u3,rfl,B5.X,O5.X⟩
theorem zs3(n fine:Int)(a ao av ra la:Option Addr)(ac ko co kv cv rc lc:Nat)(zs os vs L:List Int)(R:List RT)(w:World)(hR:za9 w ra R)(hn:R.length<=1048576)(eg:∀r∈R,r.ids.length<=r.c)(pv:Int)(dv:zc1 n zs os vs ko kv fine R L=pv)
 (eF:∀W,Za w.heap.size w W->Calls zh 38 #[.agg #[ze zd n,za a zs.length ac,za ao ko co,za av kv cv,ze zd fine],.agg #[za ra R.length rc,za la L.length lc]] W fun e w'=>e=.returned (ze zd pv)/\Za W.heap.size W w'):
 Calls zh 90 #[.agg #[ze zd n,za a zs.length ac,za ao ko co,za av kv cv,ze zd fine],.agg #[za ra R.length rc,za la L.length lc]] w fun e w'=>∃sl,e=.returned sl/\Za w.heap.size w w'/\w'.ownsRow w.heap.size 2 1 sl (zi7 n zs os vs ko kv fine R L).length ((zi7 n zs os vs ko kv fine R L).map (ze zd)):=by
 have HR:=za4 hR;have iq:Zb _:=eF;have cE:Zb _:=dv;have bw:Zb _:=eg;clear hR eF dv eg;obtain⟨X,HX⟩:=nmd (zi7 n zs os vs ko kv fine R L);obtain⟨m,HN⟩:=nmd R.length;rw[HX.X,HN.X];rw[HN.X]at hn iq;have C0:Zb (CP w (((w.alloc (zg #[ze zd n,za a zs.length ac,za ao ko co,za av kv cv,ze zd fine] 30)).alloc (zg #[za ra m rc,za la L.length lc] 33)).alloc (zg #[] 2)) #[ze zd n,za a zs.length ac,za ao ko co,za av kv cv,ze zd fine] #[za ra m rc,za la L.length lc]):=
  CP.alloc ⟨(zP _).alloc (by simp) _,xm _ _ _,xh _ _ _⟩ _
 have O0:Zb ((((w.alloc (zg #[ze zd n,za a zs.length ac,za ao ko co,za av kv cv,ze zd fine] 30)).alloc (zg #[za ra m rc,za la L.length lc] 33)).alloc (zg #[] 2)).ownsRow w.heap.size 2 1 (za (some ⟨w.heap.size+1+1,0,none⟩) 0 0) 0 (([]:List Int).map (ze zd))):=by
  have:=zb5 (zU1 ((w.alloc (zg #[ze zd n,za a zs.length ac,za ao ko co,za av kv cv,ze zd fine] 30)).alloc (zg #[za ra m rc,za la L.length lc] 33))) (b0:=w.heap.size) (by simp;omega);show World.ownsRow _ _ _ _ _ _ _;simpa using this
 go_enter Tryz.func90,Tryz.ntmps90;obtain⟨c0,c1,c2,c3,c4⟩:=za7 C0.2.1;obtain⟨d0,d1⟩:=za1 C0.2.2
 go_wp2_with fail
 clear c0 c1 c2 c3 c4 d0 d1;generalize((w.alloc _).alloc _).alloc _=W0 at*;refine(iq.X _ C0.1).mono ?_;rintro e w1 ⟨rfl,hb⟩;have C1:=za4 (C0.below hb);have O1:=za4 (zb9 O0.X hb);clear hb C0 O0;by_cases h0:pv=0
 ·subst h0
  obtain⟨bJ,cK,aq⟩:=zj6 cE.X;have v8:Zb (∀k j,k<m->j<=(R.getD k rt0).ids.length->(zb0 R k++(R.getD k rt0).ids.take j).length<=12):=fun k j hk hj=>xj (zN5 (by rw[HN.X];exact hk) hj) bJ
  have mI:Zb (zr3 (zb0 R m)=X):=by
   show _=_;rw[<-HX.X,<-HN.X];unfold zi7;rw[z7 cE.X]
  clear bJ cK;have mq:Zb _:=aq;clear aq
  go_wp2_with fail
  go_loopw[5,6] (fun ts t wr=>∃(k g c:Nat),k<=m/\t=ze zd k/\ts=za (some ⟨g,0,none⟩) (zb0 R k).length c/\CP w wr #[ze zd n,za a zs.length ac,za ao ko co,za av kv cv,ze zd fine] #[za ra m rc,za la L.length lc]/\wr.ownsRow w.heap.size 2 1 ts (zr3 (zb0 R k)).length ((zr3 (zb0 R k)).map (ze zd))) (fun _ t _=>m - (intOf t).toNat)
  case atStart=>exact⟨0,w.heap.size+1+1,0,xi _,rfl,by rw[zk1];rfl,C1.X,by rw[zk1];exact O1.X⟩
  case round=>
   clear C1 O1;obtain⟨k,g,c,hk,rfl,rfl,hC,hO⟩:=hrel;have C2:=za4 hC;have O2:=za4 hO;clear hC hO;obtain⟨d0,d1⟩:=za1 C2.2.2;by_cases ah:k<m
   ·have iH:(k:Int)<(m:Int):=by omega
    have dt:k<R.length:=by rw[HN.X];exact ah
    obtain⟨rb,ro,e,-⟩:=HR.X k dt;subst e;have lF:Zb _:=zf9 dt;have bI:R.getD k rt0∈R:=by rw[zQ,zR dt];simp
    have fC:=bw.X _ bI;have aq:=mq.X k dt;have p_:Zb (∀j,j<=(R.getD k rt0).ids.length->(zb0 R k++(R.getD k rt0).ids.take j).length<=12):=fun j hj=>v8.X k j ah hj;have ve:Zb (∀W,Za w.heap.size w W->W.cell? ⟨rb,ro+k*2+1,none⟩=some (.slice (R.getD k rt0).a (R.getD k rt0).ids.length (R.getD k rt0).c)/\za3 W (R.getD k rt0).a (R.getD k rt0).ids):=fun W hb=>by
     obtain⟨_,_,e,_,h2,h3⟩:=(HR.below hb) k dt;simp only[x7,qg,qt]at e;obtain⟨rfl,rfl⟩:=e;exact⟨h2,h3⟩
    generalize R.getD k rt0=r at*;obtain⟨rv,iA,ay,dE⟩:=r;simp only at lF fC aq p_ ve;have fO:=xV.2 aq;obtain⟨b',aR,e',-⟩:=(ve.X wr C2.1).2 0 fO;subst e';obtain⟨q,HQ⟩:=nmd ay.length;rw[HQ.X]at fC fO ve p_;have Ld:q<=12:=by
     have:=p_.X q (zT _);rw[xS,yh,HQ.X]at this;omega
    clear aq bI
    go_wp2_with fail
    clear d0 d1;go_loopw[5,7] (fun ts t wr=>∃(j g c:Nat),j<=q/\t=ze zd j/\ts=za (some ⟨g,0,none⟩) (zb0 R k++ay.take j).length c/\CP w wr #[ze zd n,za a zs.length ac,za ao ko co,za av kv cv,ze zd fine] #[za (some ⟨rb,ro,none⟩) m rc,za la L.length lc]/\wr.ownsRow w.heap.size 2 1 ts (zr3 (zb0 R k++ay.take j)).length ((zr3 (zb0 R k++ay.take j)).map (ze zd))) (fun _ t _=>q - (intOf t).toNat)
    case atStart=>exact⟨0,g,c,xi _,rfl,by rw[qM,qK],C2.X,by rw[qM,qK];exact O2.X⟩
    case round=>
     clear C2 O2;obtain⟨j,g3,c3,hj,rfl,rfl,hC,hO⟩:=hrel;have C3:=za4 hC;have th:=p_.X j hj;obtain⟨c1,i1⟩:=ve.X wr C3.1;obtain⟨d0,d1⟩:=za1 C3.2.2;by_cases hjq:j<q
     ·have B':(j:Int)<(q:Int):=by omega
      obtain⟨_,_,e,cj⟩:=i1 j (by rw[HQ.X];exact hjq);simp only[x7,qg,qt]at e;obtain⟨rfl,rfl⟩:=e;have eG:Zb (zb0 R k++ay.take (j+1)=(zb0 R k++ay.take j)++[ay.getD j 0]):=by
       show _=_;rw[yI,yi,zQ,zR (show j<ay.length by rw[HQ.X];exact hjq)];rfl
      obtain⟨x,lI⟩:=nmd (ay.getD j 0);rw[lI.X]at cj eG;obtain⟨F,HF⟩:=nmd (zb0 R k++ay.take j);rw[HF.X]at hO th eG⊢;obtain⟨fl,fb⟩:∃F',Zb (F.length=F'):=⟨_,rfl⟩;have Hf:wr.ownsRow w.heap.size 2 1 (za (some ⟨g3,0,none⟩) fl c3) fl ((zr3 F).map (ze zd)):=by
       rw[zo4,fb.X]at hO;exact hO
      have pR:Zb _:=(zo4 F).trans fb.X;have P':Zb (∀W,za3 W (some ⟨g3,0,none⟩) (zr3 F)->Calls zh 92 #[za (some ⟨g3,0,none⟩) fl c3,ze zd x] W fun e w'=>∃g cc,e=.returned (za (some ⟨g,0,none⟩) (fl+1) cc)/\Za W.heap.size W w'/\w'.ownsRow W.heap.size 2 1 (za (some ⟨g,0,none⟩) (fl+1) cc) (fl+1) ((zr3 (F++[x])).map (ze zd))):=fun W h=>by
       have:=zW6 g3 0 c3 (zr3 F) x W h (by rw[pR.X,<-fb.X];omega) (by rw[pR.X];exact y07 Hf);rw[pR.X]at this;rw[zU2];exact this
      have I3:=za4 (zz2 (by rw[pR.X];exact Hf) pR.X);rw[fb.X]at th⊢;clear hC hO Hf i1
      go_wp2_with fail
      clear d0 d1 c1 cj;refine(P'.X _ I3.X).mono ?_;rintro e w4 ⟨g4,c4,rfl,hb,ho⟩;have C4:=za4 (C3.below hb);have O4:=za4 (zb5 ho C3.1.size);have dS:Zb ((F++[x]).length=fl+1):=by show _=_;rw[xS,fb.X];rfl
      clear hb ho C3 I3;go_wp2
      first
       |exact⟨⟨j+1,g4,c4,by omega,by first|rfl|go_num,by rw[eG.X,dS.X],C4.X,by rw[eG.X,zo4,dS.X];exact O4.X⟩,by simp[intOf];omega⟩
       |(go_roundw
         case rel=>exact⟨j+1,g4,c4,by omega,by first|rfl|go_num,by rw[eG.X,dS.X],C4.X,by rw[eG.X,zo4,dS.X];exact O4.X⟩
         case measure=>simp[intOf];omega)
     ·have B':¬((j:Int)<(q:Int)):=by omega
      have BI:j=q:=by omega
      have HE:Zb (zb0 R k++ay.take j=zb0 R (k+1)):=by
       show _=_;rw[BI,<-HQ.X,ym,lF.X]
      have O3:Zb (wr.ownsRow w.heap.size 2 1 (za (some ⟨g3,0,none⟩) (zb0 R (k+1)).length c3) (zr3 (zb0 R (k+1))).length ((zr3 (zb0 R (k+1))).map (ze zd))):=by
       rw[HE.X]at hO;exact hO
      rw[HE.X];obtain⟨fl,fb⟩:∃F',Zb ((zb0 R (k+1)).length=F'):=⟨_,rfl⟩;rw[fb.X]at O3⊢;clear hC hO i1 BI;go_wp2
      first
       |exact⟨⟨k+1,g3,c3,by omega,by first|rfl|go_num,by rw[fb.X],C3.X,O3.X⟩,by simp[intOf];omega⟩
       |(go_roundw
         case rel=>exact⟨k+1,g3,c3,by omega,by first|rfl|go_num,by rw[fb.X],C3.X,O3.X⟩
         case measure=>simp[intOf];omega)
   ·have iH:¬((k:Int)<(m:Int)):=by omega
    have cV:k=m:=by omega
    have O3:Zb (wr.ownsRow w.heap.size 2 1 (za (some ⟨g,0,none⟩) (zb0 R k).length c) X.length (X.map (ze zd))):=by
     have:=O2.X;rw[<-mI.X,<-cV];exact this
    obtain⟨fl,fb⟩:∃F',Zb ((zb0 R k).length=F'):=⟨_,rfl⟩;rw[fb.X]at O3⊢;clear cV O2;go_wp2;go_ret;exact⟨_,rfl,C2.1,O3.X⟩
 ·have sy:(pv !=0)=true:=by simp[h0]
  have mI:Zb (X=[]):=by
   show _=_;rw[<-HX.X];unfold zi7;rw[ye (by rw[cE.X];exact h0)]
  clear h0;go_wp2;go_ret;exact⟨_,rfl,C1.1,by rw[mI.X];exact O1.X⟩
