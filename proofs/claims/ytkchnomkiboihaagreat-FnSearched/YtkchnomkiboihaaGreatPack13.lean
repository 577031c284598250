import Derived.Test.YtkchnomkiboihaaGreatPack3
set_option linter.unusedSimpArgs false
set_option maxHeartbeats 2000000
set_option maxRecDepth 100000
namespace Go.Proofs.YtkchnomkiboihaaGreat
open RowKit renaming Below→Za,Hid→Zb
theorem qJ:type_of% @List.map_append:=@List.map_append
theorem qK:type_of% @List.append_nil:=@List.append_nil
theorem qL:type_of% @Go.World.grownBy_alloc:=@Go.World.grownBy_alloc
theorem qM:type_of% @List.take_zero:=@List.take_zero
open Value renaming slice→za
open IntKind renaming i64→zd
open Obj renaming cells→zg
open Proofs.Tryz renaming prog→zh
open Go renaming World→zi
open Lit renaming int→zD
open Go.RowKit Go.Maps
open Q
theorem y98:Keyed zh 2:=int_keyed Tryz.underlying2
theorem yM6(w:zi):(zeroValue 216).run zh w=.ok (.agg #[]) w:=by kernel_rfl
def yq7(l:List Int):DataW Unit:=setOf (.agg []) (l.map (zD zd))
theorem ya8(l:List Int)(x:Int):yq7 (l++[x])=(yq7 l).put (.int zd x) (.agg []):=by
 unfold yq7;rw[qJ];exact setOf_snoc _ _ _
theorem yw5(l:List Int):∀x∈l.map (zD zd),WideAt.IsKeyLit x:=fun y hy=>by obtain⟨_,_,rfl⟩:=yF.1 hy;trivial
theorem yy3(x:Int):∀l:List Int,(l.map (zD zd)).any (fun y=>y.sameKey (.int zd x))=decide (x∈l)
 |[]=>by simp
 |a::r=>by
  rw[xH,List.any_cons,yy3 x r];have:(zD zd a).sameKey (.int zd x)=decide (a=x):=by
   show decide (zd=zd/\a=x)=decide (a=x);simp
  rw[this];by_cases e:a=x
  ·subst e;simp
  ·have e':¬x=a:=fun h=>e h.symm
   simp[e,e']
theorem yj0(l:List Int)(x:Int):Maps.has (yq7 l) (.int zd x)=decide (x∈l):=by
 unfold yq7;rw[has_setOf _ _ _ (yw5 l)];exact yy3 x l
theorem yu8(l:List Int)(x:Int)(h:x∉l):Maps.size (yq7 (l++[x]))=Maps.size (yq7 l)+1:=by
 rw[ya8,size_put (show Tidy (yq7 l)from tidy_setOf _ _ (yw5 l)),yj0,zX h];rfl
theorem zZ6:∀(n:Nat) (l:List Int),l.length=n->l.Nodup->Maps.size (yq7 l)=n
 |0,l,h,_=>by rw[xE h];rfl
 |n+1,l,h,hd=>by
  have aq:l≠[]:=fun e=>by rw[e]at h;cases h
  have e:=List.dropLast_concat_getLast aq;rw[<-e]at hd;have vt:=(zy4 _ _).1 hd;rw[<-e,yu8 _ _ vt.2,zZ6 n _ (by rw[List.length_dropLast];omega) vt.1]
def zl0(w:zi)(B:Nat)(l:List Int):Prop:=w.ownsMap zh 2 (unitElem (H:=Unit)) B l.length (yq7 l)
theorem zl0.made(w:zi):zl0 (w.alloc (.map #[] 0)) w.heap.size []:=World.ownsMap_made _ _ _ _
theorem zl0.below{w w':zi}{B:Nat}{l:List Int}(h:zl0 w B l)(hb:Za w.heap.size w w'):zl0 w' B l:=by
 have ah:=World.ownsMap.lt h;unfold zl0 World.ownsMap at*;rw[hb.block B ah];exact h
theorem zt9(B:Nat)(l:List Int)(id:Int)(w:zi)(hS:zl0 w B l)(cz:(zD zd id).wf=true):
 Calls zh 138 #[.map (some B),.int zd id] w fun e w'=>e=.returned (.bool (decide (id∈l)))/\w'=w.alloc (zg #[] 216):=by
 have dg:keyOf zh 2 (.int zd id)=some (.int zd id):=keyOf_int_mk Tryz.underlying2 cz;have HE:Zb _:=yj0 l id;obtain⟨r,HR⟩:=nmd (decide (id∈l));rw[HR.X]at HE⊢;have HS:Zb _:=hS;clear hS;go_enter Tryz.func138,Tryz.ntmps138
 go_wp2_with(first
  |(at_lookup;refine wpList_lookup_own_unit _ rfl _ _ 146 rfl 2 216 y98 Tryz.underlying146 (yM6 _) B l.length (yq7 l) rfl HS.X _ _ rfl dg ?_;rw[HE.X])
  |go_in)
 go_ret;exact⟨rfl,rfl⟩
theorem zV0(B:Nat)(l:List Int)(id:Int)(w:zi)(hS:zl0 w B l)(cz:(zD zd id).wf=true)(hl:l.length<=1048576):
 Calls zh 136 #[.map (some B),.int zd id] w fun e w'=>w.grownBy w' (some B)/\((id∈l/\e=.returned (.bool false))∨(id∉l/\e=.returned (.bool true)/\zl0 w' B (l++[id]))):=by
 have dg:keyOf zh 2 (.int zd id)=some (.int zd id):=keyOf_int_mk Tryz.underlying2 cz;have HS:Zb _:=hS;have bH:Zb _:=cz;clear hS cz;by_cases hm:id∈l
 ·have HM:Zb _:=hm
  have HF:Zb _:=zW hm;clear hm;go_enter Tryz.func136,Tryz.ntmps136
  go_wp2_with(go_at_call 138;refine(zt9 B l id w HS.X bH.X).mono ?_;rintro e w1 ⟨rfl,rfl⟩;rw[HF.X])
  go_ret;exact⟨qL _ _ _,.inl ⟨HM.X,rfl⟩⟩
 ·have HM:Zb _:=hm
  have HF:Zb _:=zX hm;clear hm;go_enter Tryz.func136,Tryz.ntmps136
  go_wp2_with(first
   |(go_at_call 138;refine(zt9 B l id w HS.X bH.X).mono ?_;rintro e w1 ⟨rfl,rfl⟩;rw[HF.X])
   |(at_mapUpdate;refine wpList_mapUpdate_own _ rfl _ _ _ 146 rfl 2 216 y98 Tryz.underlying146 (unitElem (H:=Unit)) B l.length _ rfl (World.ownsMap.alloc HS.X _) (by unfold maxLen;omega) _ _ _ rfl rfl dg _ [] unitElem_mk ?_;intro w1 hown1 hgrow1)
   |go_in)
  go_ret;refine⟨(qL _ _ _).trans (by assumption),.inr ⟨HM.X,rfl,?_⟩⟩;unfold zl0;rw[ya8,xS];assumption
theorem zY9{w:zi}{B:Nat}{l:List Int}(hS:zl0 w B l){p:Addr}{v:Value}(h:w.cell? p=some v):p.block≠B:=fun e=>by
 obtain⟨es,cl,hb,_⟩:=hS;unfold World.cell? at h;rw[e,hb]at h;cases h
theorem z82{w w':zi}{B:Nat}{l:List Int}(hS:zl0 w B l)(hg:w.grownBy w' (some B)){p:Addr}{v:Value}(h:w.cell? p=some v):w'.cell? p=some v:=
 hg.cell h (fun e=>zY9 hS h (by simpa using e))
theorem za3.grownM{w w':zi}{B:Nat}{l:List Int}{a:Option Addr}{zs:List Int}(h:za3 w a zs)(hS:zl0 w B l)(hg:w.grownBy w' (Option.some B)):za3 w' a zs:=fun j hj=>by
 obtain⟨b,off,e,hc⟩:=h j hj;exact⟨b,off,e,z82 hS hg hc⟩
theorem za9.grownM{w w':zi}{B:Nat}{l:List Int}{ra:Option Addr}{R:List RT}(h:za9 w ra R)(hS:zl0 w B l)(hg:w.grownBy w' (some B)):za9 w' ra R:=fun j hj=>by
 obtain⟨b,off,e,h1,h2,h3⟩:=h j hj;exact⟨b,off,e,z82 hS hg h1,z82 hS hg h2,h3.grownM hS hg⟩
theorem z00{w w':zi}{B k:Nat}{l:List Int}{cs:Array Value}{T:TypeId}{q:Nat×Nat}(hS:zl0 w B l)(hg:w.grownBy w' (some B))(h:w.heap[k]? =some (.cells cs T q)):w'.heap[k]? =some (.cells cs T q):=by
 obtain⟨es,cl,hb,_⟩:=hS;rw[hg.block k (za2 h) (fun e=>by simp at e;rw[e,hb]at h;cases h)];exact h
theorem zS8(ad:Option Addr)(c B:Nat)(L l:List Int)(w:zi)(hI:za3 w ad L)(hS:zl0 w B l)(hL:L.length<=1048576)(hw:∀x∈L,(zD zd x).wf=true):
 Calls zh 165 #[za ad L.length c,.func (.func 138) #[.map (some B)] #[]] w fun e w'=>w.grownBy w' none/\((e=.returned (.int zd (-1))/\∀x∈L,x∉l)∨(∃k:Nat,e=.returned (.int zd k)/\¬∀x∈L,x∉l)):=by
 have HI:Zb _:=hI;have HS:Zb _:=hS;have HW:Zb _:=hw;clear hI hS hw;obtain⟨n,HN⟩:=nmd L.length;rw[HN.X]at hL⊢;go_enter Tryz.func165,Tryz.ntmps165
 go_wp2_with fail
 go_loopw[8] (fun t wr=>∃k:Nat,k<=n/\t=.int zd k/\(∀j,j<k->L.getD j 0∉l)/\w.grownBy wr none) (fun t _=>n - (intOf t).toNat)
 case atStart=>exact⟨0,xi _,rfl,fun j hj=>by omega,World.grownBy.refl _ _⟩
 case round=>
  obtain⟨k,hk,rfl,a_,hg⟩:=hrel;have bA:Zb _:=a_;have HG:Zb _:=hg;clear a_ hg;by_cases ah:k<n
  ·have bz:k<L.length:=by have:=HN.X;omega
   obtain⟨b,off,rfl,hc⟩:=HI.X k bz;have ct:=HG.cell hc (by simp);have hx:L.getD k 0∈L:=by rw[zQ,zR bz];simp
   have HX:Zb _:=hx;have Hm:Zb _:=HW.X _ hx;have jZ:Zb (zl0 wr B l):=World.ownsMap.kept HS.X HG.X (by simp);clear hc hx bz;obtain⟨id,bH⟩:=nmd (L.getD k 0);rw[bH.X]at ct HX Hm;by_cases hm:id∈l
   ·have HM:Zb _:=hm
    have HF:Zb _:=zW hm;clear hm
    go_wp2_with(go_at_call 138;refine(zt9 B l id _ jZ.X Hm.X).mono ?_;rintro e w1 ⟨rfl,rfl⟩;rw[HF.X])
    go_ret;exact⟨HG.trans (qL _ _ _),.inr ⟨k,rfl,fun h=>h id HX.X HM.X⟩⟩
   ·have HF:Zb _:=zX hm
    have d_:Zb (∀j,j<k+1->L.getD j 0∉l):=fun j hj=>by
     by_cases e:j=k
     ·rw[e,bH.X];exact hm
     ·exact bA.X j (by omega)
    clear hm
    go_wp2_with(go_at_call 138;refine(zt9 B l id _ jZ.X Hm.X).mono ?_;rintro e w1 ⟨rfl,rfl⟩;rw[HF.X])
    first
     |exact⟨⟨k+1,by omega,by go_num,d_.X,HG.trans (qL _ _ _)⟩,by simp[intOf];omega⟩
     |(go_roundw
       case rel=>exact⟨k+1,by omega,by go_num,d_.X,HG.trans (qL _ _ _)⟩
       case measure=>simp[intOf];omega)
  ·have cL:k=n:=by omega
   have nZ:Zb (∀x∈L,x∉l):=fun x hx=>by
    obtain⟨j,hj,e⟩:=xU hx;have:=bA.X j (by rw[cL,<-HN.X];exact hj);rw[zQ,zR hj]at this;rw[<-e];exact this
   clear cL;go_wp2;go_ret;exact⟨HG.X,.inl ⟨rfl,nZ.X⟩⟩
theorem zC5(ad:Option Addr)(c B:Nat)(L l:List Int)(w:zi)(hI:za3 w ad L)(hS:zl0 w B l)(hL:L.length<=1048576)(hw:∀x∈L,(zD zd x).wf=true):
 Calls zh 137 #[za ad L.length c,.func (.func 138) #[.map (some B)] #[]] w fun e w'=>w.grownBy w' none/\((e=.returned (.bool false)/\∀x∈L,x∉l)∨(e=.returned (.bool true)/\¬∀x∈L,x∉l)):=by
 have HC:=zS8 ad c B L l w hI hS hL hw;clear hI hS hw;go_enter Tryz.func137,Tryz.ntmps137
 go_wp2_with fail
 refine HC.mono ?_;rintro e w1 ⟨hg,⟨rfl,h⟩|⟨k,rfl,h⟩⟩
 ·have HG:Zb _:=hg
  have H:Zb _:=h;clear hg h;go_wp2;go_ret;exact⟨HG.X,.inl ⟨rfl,H.X⟩⟩
 ·have HG:Zb _:=hg
  have H:Zb _:=h;clear hg h;have h0:(0:Int)<=(k:Int):=by omega
  go_wp2;go_ret;exact⟨HG.X,.inr ⟨by first|rfl|simp,H.X⟩⟩
theorem zA0{R:List RT}:∀{k m:Nat},k<=m->m<=R.length->zb0 R k <+: zb0 R m
 |k,0,h,_=>by have:k=0:=by omega
              subst this;exact List.prefix_refl _
 |k,m+1,h,hm=>by
  by_cases e:k=m+1
  ·rw[e];exact List.prefix_refl _
  ·rw[zf9 (by omega)]
   exact(zA0 (k:=k) (m:=m) (by omega) (by omega)).trans (List.prefix_append _ _)
theorem z16{R:List RT}{k j:Nat}(hk:k<R.length):zb0 R k++(R.getD k rt0).ids.take j <+: zb0 R R.length:=by
 refine List.IsPrefix.trans ?_ (zA0 (k:=k+1) (by omega) (zT _));rw[zf9 hk];exact(List.prefix_append_right_inj _).2 (List.take_prefix _ _)
theorem zJ4{R:List RT}{k j:Nat}(hj:j<(R.getD k rt0).ids.length):zb0 R k++(R.getD k rt0).ids.take (j+1)=(zb0 R k++(R.getD k rt0).ids.take j)++[(R.getD k rt0).ids.getD j 0]:=by
 rw[zf4 _ _ hj,yi]
theorem y33{R:List RT}{k j:Nat}(hk:k<R.length)(hj:j<(R.getD k rt0).ids.length):(R.getD k rt0).ids.getD j 0∈zb0 R R.length:=by
 have:=(z16 (R:=R) (j:=j+1) hk).sublist.subset;rw[zJ4 hj]at this;exact this (by simp)
theorem yq0{R:List RT}{k j:Nat}(hk:k<R.length)(hj:j<(R.getD k rt0).ids.length)(h:(R.getD k rt0).ids.getD j 0∈zb0 R k++(R.getD k rt0).ids.take j)(L:List Int):¬yb8 (zb0 R R.length) L:=fun ho=>by
 have:=ho.1.sublist (z16 (R:=R) (j:=j+1) hk).sublist;rw[zJ4 hj]at this;exact((zy4 _ _).1 this).2 h
theorem y75{R:List RT}{k:Nat}(hk:k<R.length):zb0 R k++(R.getD k rt0).ids.take (R.getD k rt0).ids.length=zb0 R (k+1):=by
 rw[ym,zf9 hk]
theorem zS1(B:Nat)(ra la:Option Addr)(rc lc:Nat)(R:List RT)(L:List Int)(w:zi)(hA:za9 w ra R)(hL:za3 w la L)(hS:zl0 w B [])(hn:R.length<=1048576)(hi:∀r∈R,r.ids.length<=1048576)(dh:L.length<=1048576)(cT:(zb0 R R.length).length<=1048576)(Jj:∀x∈zb0 R R.length,(zD zd x).wf=true)(ip:∀x∈L,(zD zd x).wf=true):
 Calls zh 100 #[.map (some B),.agg #[za ra R.length rc,za la L.length lc]] w fun e w'=>w.grownBy w' (some B)/\((e=.returned (.bool true)/\yb8 (zb0 R R.length) L/\zl0 w' B (zb0 R R.length))∨(e=.returned (.bool false)/\¬yb8 (zb0 R R.length) L)):=by
 have HA:=za4 hA;have HL:=za4 hL;have HS:=za4 hS;have HI:Zb _:=hi;have NH:Zb _:=Jj;have iI:Zb _:=ip;have iQ:Zb _:=cT;have ec:Zb _:=dh;clear hA hL hS hi Jj ip cT dh;obtain⟨n,HN⟩:=nmd R.length;obtain⟨m,HM⟩:=nmd L.length;rw[HN.X]at hn⊢;rw[HM.X];have e_:=HN.X;have G0:Zb ((w.alloc (zg #[za ra n rc,za la m lc] 33)).heap[w.heap.size]? =_):=zS _ _;have B0:Zb (w.grownBy (w.alloc (zg #[za ra n rc,za la m lc] 33)) (some B)):=qL _ _ _;have S0:Zb (zl0 (w.alloc (zg #[za ra n rc,za la m lc] 33)) B []):=World.ownsMap.alloc HS.X _;go_enter Tryz.func100,Tryz.ntmps100;obtain⟨c0,c1⟩:=za1 G0.X
 go_wp2_with fail
 clear c0 c1;generalize(w.alloc _)=W0 at*;go_loopw[12] (fun t wr=>∃k:Nat,k<=n/\t=.int zd k/\w.grownBy wr (some B)/\zl0 wr B (zb0 R k)/\(zb0 R k).Nodup/\wr.heap[w.heap.size]? =some (zg #[za ra n rc,za la m lc] 33 (0,0))) (fun t _=>n - (intOf t).toNat)
 case atStart=>exact⟨0,xi _,rfl,B0.X,by rw[zk1];exact S0.X,by rw[zk1];exact List.nodup_nil,G0.X⟩
 case round=>
  clear B0 S0 G0;obtain⟨k,hk,rfl,hg,hs,hd,hp⟩:=hrel;have BG:Zb _:=hg;have SR:=za4 hs;have DR:=za4 hd;have PR:=za4 hp;clear hg hs hd hp;by_cases ah:k<n
  ·have bz:k<R.length:=by omega
   obtain⟨b,off,rfl,h1,h2,h3⟩:=(HA.grownM HS.X BG.X) k bz;have lA:(R.getD k rt0).ids.length<=1048576:=HI.X _ (by rw[zQ,zR bz];simp);obtain⟨r,dj⟩:=nmd (R.getD k rt0);rw[dj.X]at h1 h2 h3 lA;have IR:=za4 h3;clear h3;obtain⟨q,HQ⟩:=nmd r.ids.length;rw[HQ.X]at h2 lA;have hq:=HQ.X
   go_wp2_with fail
   clear h1 h2;generalize hZ:(wr.alloc (zg #[Value.int zd r.v,za r.a q r.c] 80))=W1 at*;have KL:Zb _:=hZ▸BG.trans (qL _ _ _);have Pf:Zb (za3 W1 r.a r.ids):=hZ▸IR.below (zP _);have GS:Zb (zl0 W1 B (zb0 R k)):=hZ▸World.ownsMap.alloc SR.X _;have Nl:Zb _:=hZ▸(z00 SR.X (qL _ _ _) PR.X);clear hZ BG IR SR PR;go_loopw[19] (fun t wr=>∃j:Nat,j<=q/\t=.int zd j/\W1.grownBy wr (some B)/\zl0 wr B (zb0 R k++r.ids.take j)/\(zb0 R k++r.ids.take j).Nodup) (fun t _=>q - (intOf t).toNat)
   case atStart=>exact⟨0,xi _,rfl,World.grownBy.refl _ _,by rw[qM,qK];exact GS.X,by rw[qM,qK];exact DR.X⟩
   case round=>
    obtain⟨j,hj,rfl,hg,hs,hd⟩:=hrel;have wW:Zb _:=hg;have Lb:=za4 hs;have Iy:=za4 hd;clear hg hs hd;by_cases hjq:j<q
    ·have jL:j<r.ids.length:=by omega
     obtain⟨b2,cW,ea,hc⟩:=(Pf.grownM GS.X wW.X) j jL;have HE:Zb _:=ea;have CK:j<(R.getD k rt0).ids.length:=by rw[dj.X];exact jL
     have wm:Zb (r.ids.getD j 0∈zb0 R R.length):=by have:=y33 bz CK;rw[dj.X]at this;exact this
     have lD:Zb ((zb0 R k++r.ids.take j).length<=1048576):=by
      have:=(z16 (R:=R) (j:=j) bz).length_le;rw[dj.X]at this;have h2:=iQ.X;show _<=_;omega
     have wE:Zb _:=fun h=>yq0 bz CK (by rw[dj.X];exact h) L
     have eG:Zb (zb0 R k++r.ids.take (j+1)=(zb0 R k++r.ids.take j)++[r.ids.getD j 0]):=by have:=zJ4 (R:=R) (k:=k) CK;rw[dj.X]at this;exact this
     clear ea jL CK;obtain⟨id,bH⟩:=nmd (r.ids.getD j 0);rw[bH.X]at hc wm wE eG;have ea:=HE.X
     go_wp2_with(go_at_call 136;refine(zV0 B _ id _ Lb.X (NH.X _ wm.X) lD.X).mono ?_)
     clear ea;rintro e w2 ⟨hg,⟨be,rfl⟩|⟨be,rfl,gR⟩⟩
     ·have mJ:Zb _:=(KL.trans wW.X).trans hg
      have fM:Zb _:=wE.X be;clear hg be hc;go_wp2;go_ret;exact⟨mJ.X,.inr ⟨rfl,HN.X▸fM.X⟩⟩
     ·have mJ:Zb _:=wW.trans hg
      have rx:Zb (zl0 w2 B (zb0 R k++r.ids.take (j+1))):=by rw[eG.X];exact gR
      have sw:Zb ((zb0 R k++r.ids.take (j+1)).Nodup):=by rw[eG.X];exact(zy4 _ _).2 ⟨Iy.X,be⟩
      clear hg gR be hc;go_wp2
      first
       |exact⟨⟨j+1,by omega,by go_num,mJ.X,rx.X,sw.X⟩,by simp[intOf];omega⟩
       |(go_roundw
         case rel=>exact⟨j+1,by omega,by go_num,mJ.X,rx.X,sw.X⟩
         case measure=>simp[intOf];omega)
    ·have jn:j=q:=by omega
     have u9:Zb (zb0 R k++r.ids.take j=zb0 R (k+1)):=by
      have:=y75 (R:=R) bz;rw[dj.X,HQ.X]at this;rw[jn];exact this
     have rx:Zb (zl0 wr B (zb0 R (k+1))):=u9.X▸Lb.X;have sw:Zb ((zb0 R (k+1)).Nodup):=u9.X▸Iy.X;have mJ:Zb _:=KL.trans wW.X;have KP:Zb _:=z00 GS.X wW.X Nl.X;clear jn;go_wp2
     first
      |exact⟨⟨k+1,by omega,by go_num,mJ.X,rx.X,sw.X,KP.X⟩,by simp[intOf];omega⟩
      |(go_roundw
        case rel=>exact⟨k+1,by omega,by go_num,mJ.X,rx.X,sw.X,KP.X⟩
        case measure=>simp[intOf];omega)
  ·have cL:k=n:=by omega
   have rx:Zb (zl0 wr B (zb0 R n)):=cL▸SR.X;have sw:Zb ((zb0 R n).Nodup):=cL▸DR.X;obtain⟨c0,c1⟩:=za1 PR.X;clear cL;have HC:=zC5 la lc B L _ wr (HL.grownM HS.X BG.X) rx.X ec.X iI.X;rw[HM.X]at HC
   go_wp2_with(go_at_call 137;refine HC.mono ?_)
   clear c0 c1;rintro e w2 ⟨hg,⟨rfl,be⟩|⟨rfl,be⟩⟩
   ·have mJ:Zb _:=BG.trans ⟨hg.os,hg.tape,hg.output,hg.size,fun i hi _=>hg.block i hi (by simp)⟩
    have LW:Zb (zl0 w2 B (zb0 R n)):=World.ownsMap.kept rx.X hg (by simp);have gi:Zb _:=be;clear hg be;go_wp2;go_ret;exact⟨mJ.X,.inl ⟨rfl,⟨sw.X,gi.X⟩,LW.X⟩⟩
   ·have mJ:Zb _:=BG.trans ⟨hg.os,hg.tape,hg.output,hg.size,fun i hi _=>hg.block i hi (by simp)⟩
    have gi:Zb _:=be;clear hg be;go_wp2;go_ret;exact⟨mJ.X,.inr ⟨rfl,fun h=>gi.X h.2⟩⟩
theorem y40{n:Int}{zs os vs:List Int}{ko kv:Nat}{fine:Int}{L:List Int}{k m:Nat}(hc:zd0 n zs os vs ko kv fine=true)(hk:k<m)(h:¬yq9 L k<L.getD k 0):¬zg5 os ko L m:=fun H=>
 h ((yk5 hc (H k hk).1).1 (H k hk).2)
theorem yr4(n fine:Int)(a ao av la:Option Addr)(ac ko co kv cv lc B:Nat)(zs os vs L l:List Int)(w:zi)(hO:za3 w ao os)(hL:za3 w la L)(hS:zl0 w B l)(hd:l.Nodup)(an:os.length=ko*6)(aA:ko<=9223372036854775807)(dh:L.length<=1048576)(bh:l.length<=1048576)(bU:zd0 n zs os vs ko kv fine=true):
 Calls zh 101 #[.agg #[.int zd n,za a zs.length ac,za ao ko co,za av kv cv,.int zd fine],.map (some B),za la L.length lc] w fun e w'=>Za w.heap.size w w'/\((e=.returned (.bool true)/\zg5 os ko L L.length/\l.length+L.length=ko)∨(e=.returned (.bool false)/\¬(zg5 os ko L L.length/\l.length+L.length=ko))):=by
 have HO:=za4 hO;have HL:=za4 hL;have HS:=za4 hS;have i_:Zb _:=zZ6 _ l rfl hd;have aF:Zb _:=an;have HC:Zb _:=bU;clear hO hL hS hd an bU;obtain⟨m,HN⟩:=nmd L.length;rw[HN.X]at dh⊢;have e_:=HN.X;obtain⟨s,me⟩:=nmd l.length;rw[me.X]at bh i_⊢;have B0:Zb (Za w.heap.size w (w.alloc (zg #[.int zd n,za a zs.length ac,za ao ko co,za av kv cv,.int zd fine] 30))):=zP _;have G0:Zb ((w.alloc (zg #[.int zd n,za a zs.length ac,za ao ko co,za av kv cv,.int zd fine] 30)).heap[w.heap.size]? =_):=zS _ _;go_enter Tryz.func101,Tryz.ntmps101
 go_wp2_with fail
 generalize(w.alloc _)=W0 at*;go_loopw[7,14] (fun tl t wr=>∃k:Nat,k<=m/\t=.int zd k/\tl=.int zd (yq9 L k)/\zg5 os ko L k/\Za w.heap.size w wr/\wr.heap[w.heap.size]? =some (zg #[.int zd n,za a zs.length ac,za ao ko co,za av kv cv,.int zd fine] 30 (0,0))) (fun _ t _=>m - (intOf t).toNat)
 case atStart=>exact⟨0,xi _,rfl,rfl,zg5.zero _ _ _,B0.X,G0.X⟩
 case round=>
  clear B0 G0;obtain⟨k,hk,rfl,rfl,aP,hb,hp⟩:=hrel;have OK:=za4 aP;have B1:Zb _:=hb;have P1:=za4 hp;clear aP hb hp;by_cases ah:k<m
  ·have bz:k<L.length:=by omega
   obtain⟨b,off,rfl,hc⟩:=(HL.below B1.X) k bz;have fe:Zb (¬yq9 L k<L.getD k 0->¬(zg5 os ko L m/\s+m=ko)):=fun h H=>y40 HC.X ah h H.1;have bA:Zb (zl8 os ko (L.getD k 0)=false->¬(zg5 os ko L m/\s+m=ko)):=fun h H=>by rw[(H.1 k ah).1]at h;cases h
   have bQ:Zb _:=fun h1 h2=>OK.step h2 ((yk5 HC.X h2).2 h1);have dS:Zb (yq9 L (k+1)=L.getD k 0):=rfl;obtain⟨id,bH⟩:=nmd (L.getD k 0);obtain⟨last,n_⟩:=nmd (yq9 L k);rw[bH.X]at hc fe bA bQ dS;rw[n_.X]at fe bQ;rw[n_.X];clear bz;obtain⟨c0,c1,c2,c3,c4⟩:=za7 P1.X;have HF:=z35 n fine id a ao av zs.length ac ko co kv cv os wr (HO.below B1.X) aF.X aA
   go_wp2_with fail
   clear c0 c1 c2 c3 c4 hc;refine HF.mono ?_;clear HF;rintro e w2 ⟨rfl,hb⟩;have B2:Zb _:=B1.trans (hb.mono B1.size);have P2:=za4 (za0 hb (za2 P1.X) P1.X);clear hb B1 P1;generalize hZ:(w2.alloc (zg #[.int zd (zd1 os ko id 0),.int zd (zd1 os ko id 1),.int zd (zd1 os ko id 2),.int zd (zd1 os ko id 3),.int zd (zd1 os ko id 4),.int zd (zd1 os ko id 5)] 103))=W3;have BZ:Zb _:=hZ▸zP _;have B3:Zb _:=B2.trans (BZ.mono B2.size);have P3:Zb _:=za0 BZ.X (za2 P2.X) P2.X;by_cases hf:zl8 os ko id=true
   ·rw[hf]
    by_cases hv:last<id
    ·have dD:Zb _:=bQ.X hv hf
     have jK:¬(id<=last):=by omega
     clear hf hv;go_wp2
     first
      |exact⟨⟨k+1,by omega,by go_num,by rw[dS.X],dD.X,B3.X,P3.X⟩,by simp[intOf];omega⟩
      |(go_roundw
        case rel=>exact⟨k+1,by omega,by go_num,by rw[dS.X],dD.X,B3.X,P3.X⟩
        case measure=>simp[intOf];omega)
    ·have fM:Zb _:=fe.X (by first|exact hv|omega)
     have jK:id<=last:=by omega
     clear hv hf;go_wp2;go_ret;exact⟨by first|exact B3.X|exact hZ▸B3.X,.inr ⟨rfl,fM.X⟩⟩
   ·have Gv:zl8 os ko id=false:=by simpa using hf
    have fM:Zb _:=bA.X Gv;rw[Gv];clear hf Gv;go_wp2;go_ret;exact⟨by first|exact B3.X|exact hZ▸B3.X,.inr ⟨rfl,fM.X⟩⟩
  ·have cL:k=m:=by omega
   have nZ:Zb (zg5 os ko L m):=cL▸OK.X;have jZ:=za4 (HS.below B1.X);clear cL;obtain⟨c0,c1,c2,c3,c4⟩:=za7 P1.X;have hz:Zb (((s:Int)+(m:Int)==(ko:Int))=decide (s+m=ko)):=by
    show _=_;by_cases e:s+m=ko
    ·rw[zW e,<-e];simp
    ·rw[zX e];simp;omega
   by_cases he:s+m=ko
   ·have te:((s:Int)+(m:Int)==(ko:Int))=true:=by rw[hz.X];exact zW he
    have Ri:((ko:Int)==(ko:Int))=true:=by simp
    have HE:Zb _:=he;clear he
    go_wp2_with(first
     |(at_len;refine wpList_len_own _ rfl _ 146 rfl 2 216 Tryz.underlying146 (unitElem (H:=Unit)) B l.length (yq7 l) rfl jZ.X ?_;rw[i_.X])
     |go_in)
    go_ret;exact⟨B1.X,.inl ⟨by first|rfl|(rw[te])|simp[te],nZ.X,HE.X⟩⟩
   ·have te:((s:Int)+(m:Int)==(ko:Int))=false:=by rw[hz.X];exact zX he
    have HE:=za4 he;clear he
    go_wp2_with(first
     |(at_len;refine wpList_len_own _ rfl _ 146 rfl 2 216 Tryz.underlying146 (unitElem (H:=Unit)) B l.length (yq7 l) rfl jZ.X ?_;rw[i_.X])
     |go_in)
    go_ret;exact⟨B1.X,.inr ⟨by first|rfl|(rw[te])|simp[te],fun h=>HE.X h.2⟩⟩
