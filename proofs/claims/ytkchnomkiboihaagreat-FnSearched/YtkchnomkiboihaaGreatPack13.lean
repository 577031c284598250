import Derived.Test.YtkchnomkiboihaaGreatPack3
set_option linter.unusedSimpArgs false
set_option maxHeartbeats 2000000
set_option maxRecDepth 100000
namespace Go.Proofs.YtkchnomkiboihaaGreat
open RowKit renaming Below→Za,Hid→Zb
theorem qJ:type_of% @List.map_append:=@List.map_append
theorem qK:type_of% @List.append_nil:=@List.append_nil
theorem qL:type_of% @Go.World.grownBy_alloc:=@Go.World.grownBy_alloc
theorem qM:type_of% @List.take_zero:=@List.take_zero
open Value renaming slice→za
open IntKind renaming i64→zd
open Obj renaming cells→zg
open Proofs.Tryz renaming prog→zh
open Go renaming World→zi
open Lit renaming int→zD
open Go.RowKit Go.Maps
open Q
theorem y98:Keyed zh 2:=int_keyed Tryz.underlying2
theorem yL1(w:zi):(zeroValue 216).run zh w=.ok (.agg #[]) w:=by kernel_rfl
def yn0(l:List Int):DataW Unit:=setOf (.agg []) (l.map (zD zd))
theorem zX5(l:List Int)(x:Int):yn0 (l++[x])=(yn0 l).put (.int zd x) (.agg []):=by
 unfold yn0;rw[qJ];exact setOf_snoc _ _ _
theorem yr6(l:List Int):∀x∈l.map (zD zd),WideAt.IsKeyLit x:=fun y hy=>by obtain⟨_,_,rfl⟩:=yF.1 hy;trivial
theorem yw0(x:Int):∀l:List Int,(l.map (zD zd)).any (fun y=>y.sameKey (.int zd x))=decide (x∈l)
 |[]=>by simp
 |a::r=>by
  rw[xH,List.any_cons,yw0 x r];have:(zD zd a).sameKey (.int zd x)=decide (a=x):=by
   show decide (zd=zd/\a=x)=decide (a=x);simp
  rw[this];by_cases e:a=x
  ·subst e;simp
  ·have e':¬x=a:=fun h=>e h.symm
   simp[e,e']
theorem yi9(l:List Int)(x:Int):Maps.has (yn0 l) (.int zd x)=decide (x∈l):=by
 unfold yn0;rw[has_setOf _ _ _ (yr6 l)];exact yw0 x l
theorem y21(l:List Int)(x:Int)(h:x∉l):Maps.size (yn0 (l++[x]))=Maps.size (yn0 l)+1:=by
 rw[zX5,size_put (show Tidy (yn0 l)from tidy_setOf _ _ (yr6 l)),yi9,zX h];rfl
theorem zW6:∀(n:Nat) (l:List Int),l.length=n->l.Nodup->Maps.size (yn0 l)=n
 |0,l,h,_=>by rw[xE h];rfl
 |n+1,l,h,hd=>by
  have aq:l≠[]:=fun e=>by rw[e]at h;cases h
  have e:=List.dropLast_concat_getLast aq;rw[<-e]at hd;have vL:=(z01 _ _).1 hd;rw[<-e,y21 _ _ vL.2,zW6 n _ (by rw[List.length_dropLast];omega) vL.1]
def zk8(w:zi)(B:Nat)(l:List Int):Prop:=w.ownsMap zh 2 (unitElem (H:=Unit)) B l.length (yn0 l)
theorem zk8.made(w:zi):zk8 (w.alloc (.map #[] 0)) w.heap.size []:=World.ownsMap_made _ _ _ _
theorem zk8.below{w w':zi}{B:Nat}{l:List Int}(h:zk8 w B l)(hb:Za w.heap.size w w'):zk8 w' B l:=by
 have ah:=World.ownsMap.lt h;unfold zk8 World.ownsMap at*;rw[hb.block B ah];exact h
theorem zv6(B:Nat)(l:List Int)(id:Int)(w:zi)(hS:zk8 w B l)(cB:(zD zd id).wf=true):
 Calls zh 138 #[.map (some B),.int zd id] w fun e w'=>e=.returned (.bool (decide (id∈l)))/\w'=w.alloc (zg #[] 216):=by
 have dj:keyOf zh 2 (.int zd id)=some (.int zd id):=keyOf_int_mk Tryz.underlying2 cB;have HE:Zb _:=yi9 l id;obtain⟨r,HR⟩:=nmd (decide (id∈l));rw[HR.X]at HE⊢;have HS:Zb _:=hS;clear hS;go_enter Tryz.func138,Tryz.ntmps138
 go_wp2_with(first
  |(at_lookup;refine wpList_lookup_own_unit _ rfl _ _ 146 rfl 2 216 y98 Tryz.underlying146 (yL1 _) B l.length (yn0 l) rfl HS.X _ _ rfl dj ?_;rw[HE.X])
  |go_in)
 go_ret;exact⟨rfl,rfl⟩
theorem zX0(B:Nat)(l:List Int)(id:Int)(w:zi)(hS:zk8 w B l)(cB:(zD zd id).wf=true)(hl:l.length<=1048576):
 Calls zh 136 #[.map (some B),.int zd id] w fun e w'=>w.grownBy w' (some B)/\((id∈l/\e=.returned (.bool false))∨(id∉l/\e=.returned (.bool true)/\zk8 w' B (l++[id]))):=by
 have dj:keyOf zh 2 (.int zd id)=some (.int zd id):=keyOf_int_mk Tryz.underlying2 cB;have HS:Zb _:=hS;have bF:Zb _:=cB;clear hS cB;by_cases hm:id∈l
 ·have HM:Zb _:=hm
  have HF:Zb _:=zW hm;clear hm;go_enter Tryz.func136,Tryz.ntmps136
  go_wp2_with(go_at_call 138;refine(zv6 B l id w HS.X bF.X).mono ?_;rintro e w1 ⟨rfl,rfl⟩;rw[HF.X])
  go_ret;exact⟨qL _ _ _,.inl ⟨HM.X,rfl⟩⟩
 ·have HM:Zb _:=hm
  have HF:Zb _:=zX hm;clear hm;go_enter Tryz.func136,Tryz.ntmps136
  go_wp2_with(first
   |(go_at_call 138;refine(zv6 B l id w HS.X bF.X).mono ?_;rintro e w1 ⟨rfl,rfl⟩;rw[HF.X])
   |(at_mapUpdate;refine wpList_mapUpdate_own _ rfl _ _ _ 146 rfl 2 216 y98 Tryz.underlying146 (unitElem (H:=Unit)) B l.length _ rfl (World.ownsMap.alloc HS.X _) (by unfold maxLen;omega) _ _ _ rfl rfl dj _ [] unitElem_mk ?_;intro w1 hown1 hgrow1)
   |go_in)
  go_ret;refine⟨(qL _ _ _).trans (by assumption),.inr ⟨HM.X,rfl,?_⟩⟩;unfold zk8;rw[zX5,xS];assumption
theorem zU8{w:zi}{B:Nat}{l:List Int}(hS:zk8 w B l){p:Addr}{v:Value}(h:w.cell? p=some v):p.block≠B:=fun e=>by
 obtain⟨es,cl,hb,_⟩:=hS;unfold World.cell? at h;rw[e,hb]at h;cases h
theorem z89{w w':zi}{B:Nat}{l:List Int}(hS:zk8 w B l)(hg:w.grownBy w' (some B)){p:Addr}{v:Value}(h:w.cell? p=some v):w'.cell? p=some v:=
 hg.cell h (fun e=>zU8 hS h (by simpa using e))
theorem za3.grownM{w w':zi}{B:Nat}{l:List Int}{a:Option Addr}{zs:List Int}(h:za3 w a zs)(hS:zk8 w B l)(hg:w.grownBy w' (Option.some B)):za3 w' a zs:=fun j hj=>by
 obtain⟨b,off,e,hc⟩:=h j hj;exact⟨b,off,e,z89 hS hg hc⟩
theorem za9.grownM{w w':zi}{B:Nat}{l:List Int}{ra:Option Addr}{R:List RT}(h:za9 w ra R)(hS:zk8 w B l)(hg:w.grownBy w' (some B)):za9 w' ra R:=fun j hj=>by
 obtain⟨b,off,e,h1,h2,h3⟩:=h j hj;exact⟨b,off,e,z89 hS hg h1,z89 hS hg h2,h3.grownM hS hg⟩
theorem zz8{w w':zi}{B k:Nat}{l:List Int}{cs:Array Value}{T:TypeId}{q:Nat×Nat}(hS:zk8 w B l)(hg:w.grownBy w' (some B))(h:w.heap[k]? =some (.cells cs T q)):w'.heap[k]? =some (.cells cs T q):=by
 obtain⟨es,cl,hb,_⟩:=hS;rw[hg.block k (za2 h) (fun e=>by simp at e;rw[e,hb]at h;cases h)];exact h
theorem zR0(ad:Option Addr)(c B:Nat)(L l:List Int)(w:zi)(hI:za3 w ad L)(hS:zk8 w B l)(hL:L.length<=1048576)(hw:∀x∈L,(zD zd x).wf=true):
 Calls zh 165 #[za ad L.length c,.func (.func 138) #[.map (some B)] #[]] w fun e w'=>w.grownBy w' none/\((e=.returned (.int zd (-1))/\∀x∈L,x∉l)∨(∃k:Nat,e=.returned (.int zd k)/\¬∀x∈L,x∉l)):=by
 have HI:Zb _:=hI;have HS:Zb _:=hS;have HW:Zb _:=hw;clear hI hS hw;obtain⟨n,HN⟩:=nmd L.length;rw[HN.X]at hL⊢;go_enter Tryz.func165,Tryz.ntmps165
 go_wp2_with fail
 go_loopw[8] (fun t wr=>∃k:Nat,k<=n/\t=.int zd k/\(∀j,j<k->L.getD j 0∉l)/\w.grownBy wr none) (fun t _=>n - (intOf t).toNat)
 case atStart=>exact⟨0,xi _,rfl,fun j hj=>by omega,World.grownBy.refl _ _⟩
 case round=>
  obtain⟨k,hk,rfl,aY,hg⟩:=hrel;have bw:Zb _:=aY;have HG:Zb _:=hg;clear aY hg;by_cases ah:k<n
  ·have bu:k<L.length:=by have:=HN.X;omega
   obtain⟨b,off,rfl,hc⟩:=HI.X k bu;have ct:=HG.cell hc (by simp);have hx:L.getD k 0∈L:=by rw[zQ,zR bu];simp
   have HX:Zb _:=hx;have Fv:Zb _:=HW.X _ hx;have ke:Zb (zk8 wr B l):=World.ownsMap.kept HS.X HG.X (by simp);clear hc hx bu;obtain⟨id,bF⟩:=nmd (L.getD k 0);rw[bF.X]at ct HX Fv;by_cases hm:id∈l
   ·have HM:Zb _:=hm
    have HF:Zb _:=zW hm;clear hm
    go_wp2_with(go_at_call 138;refine(zv6 B l id _ ke.X Fv.X).mono ?_;rintro e w1 ⟨rfl,rfl⟩;rw[HF.X])
    go_ret;exact⟨HG.trans (qL _ _ _),.inr ⟨k,rfl,fun h=>h id HX.X HM.X⟩⟩
   ·have HF:Zb _:=zX hm
    have d9:Zb (∀j,j<k+1->L.getD j 0∉l):=fun j hj=>by
     by_cases e:j=k
     ·rw[e,bF.X];exact hm
     ·exact bw.X j (by omega)
    clear hm
    go_wp2_with(go_at_call 138;refine(zv6 B l id _ ke.X Fv.X).mono ?_;rintro e w1 ⟨rfl,rfl⟩;rw[HF.X])
    first
     |exact⟨⟨k+1,by omega,by go_num,d9.X,HG.trans (qL _ _ _)⟩,by simp[intOf];omega⟩
     |(go_roundw
       case rel=>exact⟨k+1,by omega,by go_num,d9.X,HG.trans (qL _ _ _)⟩
       case measure=>simp[intOf];omega)
  ·have cL:k=n:=by omega
   have nj:Zb (∀x∈L,x∉l):=fun x hx=>by
    obtain⟨j,hj,e⟩:=xU hx;have:=bw.X j (by rw[cL,<-HN.X];exact hj);rw[zQ,zR hj]at this;rw[<-e];exact this
   clear cL;go_wp2;go_ret;exact⟨HG.X,.inl ⟨rfl,nj.X⟩⟩
theorem zC4(ad:Option Addr)(c B:Nat)(L l:List Int)(w:zi)(hI:za3 w ad L)(hS:zk8 w B l)(hL:L.length<=1048576)(hw:∀x∈L,(zD zd x).wf=true):
 Calls zh 137 #[za ad L.length c,.func (.func 138) #[.map (some B)] #[]] w fun e w'=>w.grownBy w' none/\((e=.returned (.bool false)/\∀x∈L,x∉l)∨(e=.returned (.bool true)/\¬∀x∈L,x∉l)):=by
 have HC:=zR0 ad c B L l w hI hS hL hw;clear hI hS hw;go_enter Tryz.func137,Tryz.ntmps137
 go_wp2_with fail
 refine HC.mono ?_;rintro e w1 ⟨hg,⟨rfl,h⟩|⟨k,rfl,h⟩⟩
 ·have HG:Zb _:=hg
  have H:Zb _:=h;clear hg h;go_wp2;go_ret;exact⟨HG.X,.inl ⟨rfl,H.X⟩⟩
 ·have HG:Zb _:=hg
  have H:Zb _:=h;clear hg h;have h0:(0:Int)<=(k:Int):=by omega
  go_wp2;go_ret;exact⟨HG.X,.inr ⟨by first|rfl|simp,H.X⟩⟩
theorem zB2{R:List RT}:∀{k m:Nat},k<=m->m<=R.length->zb0 R k <+: zb0 R m
 |k,0,h,_=>by have:k=0:=by omega
              subst this;exact List.prefix_refl _
 |k,m+1,h,hm=>by
  by_cases e:k=m+1
  ·rw[e];exact List.prefix_refl _
  ·rw[zf9 (by omega)]
   exact(zB2 (k:=k) (m:=m) (by omega) (by omega)).trans (List.prefix_append _ _)
theorem z29{R:List RT}{k j:Nat}(hk:k<R.length):zb0 R k++(R.getD k rt0).ids.take j <+: zb0 R R.length:=by
 refine List.IsPrefix.trans ?_ (zB2 (k:=k+1) (by omega) (zT _));rw[zf9 hk];exact(List.prefix_append_right_inj _).2 (List.take_prefix _ _)
theorem zE9{R:List RT}{k j:Nat}(hj:j<(R.getD k rt0).ids.length):zb0 R k++(R.getD k rt0).ids.take (j+1)=(zb0 R k++(R.getD k rt0).ids.take j)++[(R.getD k rt0).ids.getD j 0]:=by
 rw[zf6 _ _ hj,yi]
theorem y80{R:List RT}{k j:Nat}(hk:k<R.length)(hj:j<(R.getD k rt0).ids.length):(R.getD k rt0).ids.getD j 0∈zb0 R R.length:=by
 have:=(z29 (R:=R) (j:=j+1) hk).sublist.subset;rw[zE9 hj]at this;exact this (by simp)
theorem yp9{R:List RT}{k j:Nat}(hk:k<R.length)(hj:j<(R.getD k rt0).ids.length)(h:(R.getD k rt0).ids.getD j 0∈zb0 R k++(R.getD k rt0).ids.take j)(L:List Int):¬yb4 (zb0 R R.length) L:=fun ho=>by
 have:=ho.1.sublist (z29 (R:=R) (j:=j+1) hk).sublist;rw[zE9 hj]at this;exact((z01 _ _).1 this).2 h
theorem y49{R:List RT}{k:Nat}(hk:k<R.length):zb0 R k++(R.getD k rt0).ids.take (R.getD k rt0).ids.length=zb0 R (k+1):=by
 rw[ym,zf9 hk]
theorem zQ9(B:Nat)(ra la:Option Addr)(rc lc:Nat)(R:List RT)(L:List Int)(w:zi)(hA:za9 w ra R)(hL:za3 w la L)(hS:zk8 w B [])(hn:R.length<=1048576)(hi:∀r∈R,r.ids.length<=1048576)(dg:L.length<=1048576)(cS:(zb0 R R.length).length<=1048576)(J5:∀x∈zb0 R R.length,(zD zd x).wf=true)(ii:∀x∈L,(zD zd x).wf=true):
 Calls zh 100 #[.map (some B),.agg #[za ra R.length rc,za la L.length lc]] w fun e w'=>w.grownBy w' (some B)/\((e=.returned (.bool true)/\yb4 (zb0 R R.length) L/\zk8 w' B (zb0 R R.length))∨(e=.returned (.bool false)/\¬yb4 (zb0 R R.length) L)):=by
 have HA:=za4 hA;have HL:=za4 hL;have HS:=za4 hS;have HI:Zb _:=hi;have NF:Zb _:=J5;have iM:Zb _:=ii;have iY:Zb _:=cS;have ee:Zb _:=dg;clear hA hL hS hi J5 ii cS dg;obtain⟨n,HN⟩:=nmd R.length;obtain⟨m,HM⟩:=nmd L.length;rw[HN.X]at hn⊢;rw[HM.X];have fa:=HN.X;have G0:Zb ((w.alloc (zg #[za ra n rc,za la m lc] 33)).heap[w.heap.size]? =_):=zS _ _;have B0:Zb (w.grownBy (w.alloc (zg #[za ra n rc,za la m lc] 33)) (some B)):=qL _ _ _;have S0:Zb (zk8 (w.alloc (zg #[za ra n rc,za la m lc] 33)) B []):=World.ownsMap.alloc HS.X _;go_enter Tryz.func100,Tryz.ntmps100;obtain⟨c0,c1⟩:=za1 G0.X
 go_wp2_with fail
 clear c0 c1;generalize(w.alloc _)=W0 at*;go_loopw[12] (fun t wr=>∃k:Nat,k<=n/\t=.int zd k/\w.grownBy wr (some B)/\zk8 wr B (zb0 R k)/\(zb0 R k).Nodup/\wr.heap[w.heap.size]? =some (zg #[za ra n rc,za la m lc] 33 (0,0))) (fun t _=>n - (intOf t).toNat)
 case atStart=>exact⟨0,xi _,rfl,B0.X,by rw[zk0];exact S0.X,by rw[zk0];exact List.nodup_nil,G0.X⟩
 case round=>
  clear B0 S0 G0;obtain⟨k,hk,rfl,hg,hs,hd,hp⟩:=hrel;have BG:Zb _:=hg;have SR:=za4 hs;have DR:=za4 hd;have PR:=za4 hp;clear hg hs hd hp;by_cases ah:k<n
  ·have bu:k<R.length:=by omega
   obtain⟨b,off,rfl,h1,h2,h3⟩:=(HA.grownM HS.X BG.X) k bu;have lN:(R.getD k rt0).ids.length<=1048576:=HI.X _ (by rw[zQ,zR bu];simp);obtain⟨r,de⟩:=nmd (R.getD k rt0);rw[de.X]at h1 h2 h3 lN;have IR:=za4 h3;clear h3;obtain⟨q,HQ⟩:=nmd r.ids.length;rw[HQ.X]at h2 lN;have hq:=HQ.X
   go_wp2_with fail
   clear h1 h2;generalize hZ:(wr.alloc (zg #[Value.int zd r.v,za r.a q r.c] 80))=W1 at*;have Kn:Zb _:=hZ▸BG.trans (qL _ _ _);have Mm:Zb (za3 W1 r.a r.ids):=hZ▸IR.below (zP _);have Ew:Zb (zk8 W1 B (zb0 R k)):=hZ▸World.ownsMap.alloc SR.X _;have M_:Zb _:=hZ▸(zz8 SR.X (qL _ _ _) PR.X);clear hZ BG IR SR PR;go_loopw[19] (fun t wr=>∃j:Nat,j<=q/\t=.int zd j/\W1.grownBy wr (some B)/\zk8 wr B (zb0 R k++r.ids.take j)/\(zb0 R k++r.ids.take j).Nodup) (fun t _=>q - (intOf t).toNat)
   case atStart=>exact⟨0,xi _,rfl,World.grownBy.refl _ _,by rw[qM,qK];exact Ew.X,by rw[qM,qK];exact DR.X⟩
   case round=>
    obtain⟨j,hj,rfl,hg,hs,hd⟩:=hrel;have Ar:Zb _:=hg;have JC:=za4 hs;have Kp:=za4 hd;clear hg hs hd;by_cases hjq:j<q
    ·have jN:j<r.ids.length:=by omega
     obtain⟨b2,cY,ea,hc⟩:=(Mm.grownM Ew.X Ar.X) j jN;have HE:Zb _:=ea;have Ca:j<(R.getD k rt0).ids.length:=by rw[de.X];exact jN
     have x':Zb (r.ids.getD j 0∈zb0 R R.length):=by have:=y80 bu Ca;rw[de.X]at this;exact this
     have lG:Zb ((zb0 R k++r.ids.take j).length<=1048576):=by
      have:=(z29 (R:=R) (j:=j) bu).length_le;rw[de.X]at this;have h2:=iY.X;show _<=_;omega
     have Bg:Zb _:=fun h=>yp9 bu Ca (by rw[de.X];exact h) L
     have eH:Zb (zb0 R k++r.ids.take (j+1)=(zb0 R k++r.ids.take j)++[r.ids.getD j 0]):=by have:=zE9 (R:=R) (k:=k) Ca;rw[de.X]at this;exact this
     clear ea jN Ca;obtain⟨id,bF⟩:=nmd (r.ids.getD j 0);rw[bF.X]at hc x' Bg eH;have ea:=HE.X
     go_wp2_with(go_at_call 136;refine(zX0 B _ id _ JC.X (NF.X _ x'.X) lG.X).mono ?_)
     clear ea;rintro e w2 ⟨hg,⟨bd,rfl⟩|⟨bd,rfl,g_⟩⟩
     ·have nY:Zb _:=(Kn.trans Ar.X).trans hg
      have fM:Zb _:=Bg.X bd;clear hg bd hc;go_wp2;go_ret;exact⟨nY.X,.inr ⟨rfl,HN.X▸fM.X⟩⟩
     ·have nY:Zb _:=Ar.trans hg
      have rH:Zb (zk8 w2 B (zb0 R k++r.ids.take (j+1))):=by rw[eH.X];exact g_
      have uu:Zb ((zb0 R k++r.ids.take (j+1)).Nodup):=by rw[eH.X];exact(z01 _ _).2 ⟨Kp.X,bd⟩
      clear hg g_ bd hc;go_wp2
      first
       |exact⟨⟨j+1,by omega,by go_num,nY.X,rH.X,uu.X⟩,by simp[intOf];omega⟩
       |(go_roundw
         case rel=>exact⟨j+1,by omega,by go_num,nY.X,rH.X,uu.X⟩
         case measure=>simp[intOf];omega)
    ·have i9:j=q:=by omega
     have vO:Zb (zb0 R k++r.ids.take j=zb0 R (k+1)):=by
      have:=y49 (R:=R) bu;rw[de.X,HQ.X]at this;rw[i9];exact this
     have rH:Zb (zk8 wr B (zb0 R (k+1))):=vO.X▸JC.X;have uu:Zb ((zb0 R (k+1)).Nodup):=vO.X▸Kp.X;have nY:Zb _:=Kn.trans Ar.X;have JU:Zb _:=zz8 Ew.X Ar.X M_.X;clear i9;go_wp2
     first
      |exact⟨⟨k+1,by omega,by go_num,nY.X,rH.X,uu.X,JU.X⟩,by simp[intOf];omega⟩
      |(go_roundw
        case rel=>exact⟨k+1,by omega,by go_num,nY.X,rH.X,uu.X,JU.X⟩
        case measure=>simp[intOf];omega)
  ·have cL:k=n:=by omega
   have rH:Zb (zk8 wr B (zb0 R n)):=cL▸SR.X;have uu:Zb ((zb0 R n).Nodup):=cL▸DR.X;obtain⟨c0,c1⟩:=za1 PR.X;clear cL;have HC:=zC4 la lc B L _ wr (HL.grownM HS.X BG.X) rH.X ee.X iM.X;rw[HM.X]at HC
   go_wp2_with(go_at_call 137;refine HC.mono ?_)
   clear c0 c1;rintro e w2 ⟨hg,⟨rfl,bd⟩|⟨rfl,bd⟩⟩
   ·have nY:Zb _:=BG.trans ⟨hg.os,hg.tape,hg.output,hg.size,fun i hi _=>hg.block i hi (by simp)⟩
    have Pp:Zb (zk8 w2 B (zb0 R n)):=World.ownsMap.kept rH.X hg (by simp);have fW:Zb _:=bd;clear hg bd;go_wp2;go_ret;exact⟨nY.X,.inl ⟨rfl,⟨uu.X,fW.X⟩,Pp.X⟩⟩
   ·have nY:Zb _:=BG.trans ⟨hg.os,hg.tape,hg.output,hg.size,fun i hi _=>hg.block i hi (by simp)⟩
    have fW:Zb _:=bd;clear hg bd;go_wp2;go_ret;exact⟨nY.X,.inr ⟨rfl,fun h=>fW.X h.2⟩⟩
theorem y44{n:Int}{zs os vs:List Int}{ko kv:Nat}{fine:Int}{L:List Int}{k m:Nat}(hc:zd0 n zs os vs ko kv fine=true)(hk:k<m)(h:¬yq8 L k<L.getD k 0):¬zg5 os ko L m:=fun H=>
 h ((yk3 hc (H k hk).1).1 (H k hk).2)
theorem yr4(n fine:Int)(a ao av la:Option Addr)(ac ko co kv cv lc B:Nat)(zs os vs L l:List Int)(w:zi)(hO:za3 w ao os)(hL:za3 w la L)(hS:zk8 w B l)(hd:l.Nodup)(an:os.length=ko*6)(aA:ko<=9223372036854775807)(dg:L.length<=1048576)(be:l.length<=1048576)(bT:zd0 n zs os vs ko kv fine=true):
 Calls zh 101 #[.agg #[.int zd n,za a zs.length ac,za ao ko co,za av kv cv,.int zd fine],.map (some B),za la L.length lc] w fun e w'=>Za w.heap.size w w'/\((e=.returned (.bool true)/\zg5 os ko L L.length/\l.length+L.length=ko)∨(e=.returned (.bool false)/\¬(zg5 os ko L L.length/\l.length+L.length=ko))):=by
 have HO:=za4 hO;have HL:=za4 hL;have HS:=za4 hS;have jp:Zb _:=zW6 _ l rfl hd;have aF:Zb _:=an;have HC:Zb _:=bT;clear hO hL hS hd an bT;obtain⟨m,HN⟩:=nmd L.length;rw[HN.X]at dg⊢;have fa:=HN.X;obtain⟨s,l9⟩:=nmd l.length;rw[l9.X]at be jp⊢;have B0:Zb (Za w.heap.size w (w.alloc (zg #[.int zd n,za a zs.length ac,za ao ko co,za av kv cv,.int zd fine] 30))):=zP _;have G0:Zb ((w.alloc (zg #[.int zd n,za a zs.length ac,za ao ko co,za av kv cv,.int zd fine] 30)).heap[w.heap.size]? =_):=zS _ _;go_enter Tryz.func101,Tryz.ntmps101
 go_wp2_with fail
 generalize(w.alloc _)=W0 at*;go_loopw[7,14] (fun tl t wr=>∃k:Nat,k<=m/\t=.int zd k/\tl=.int zd (yq8 L k)/\zg5 os ko L k/\Za w.heap.size w wr/\wr.heap[w.heap.size]? =some (zg #[.int zd n,za a zs.length ac,za ao ko co,za av kv cv,.int zd fine] 30 (0,0))) (fun _ t _=>m - (intOf t).toNat)
 case atStart=>exact⟨0,xi _,rfl,rfl,zg5.zero _ _ _,B0.X,G0.X⟩
 case round=>
  clear B0 G0;obtain⟨k,hk,rfl,rfl,aP,hb,hp⟩:=hrel;have OK:=za4 aP;have B1:Zb _:=hb;have P1:=za4 hp;clear aP hb hp;by_cases ah:k<m
  ·have bu:k<L.length:=by omega
   obtain⟨b,off,rfl,hc⟩:=(HL.below B1.X) k bu;have fj:Zb (¬yq8 L k<L.getD k 0->¬(zg5 os ko L m/\s+m=ko)):=fun h H=>y44 HC.X ah h H.1;have bw:Zb (zl7 os ko (L.getD k 0)=false->¬(zg5 os ko L m/\s+m=ko)):=fun h H=>by rw[(H.1 k ah).1]at h;cases h
   have bO:Zb _:=fun h1 h2=>OK.step h2 ((yk3 HC.X h2).2 h1);have dS:Zb (yq8 L (k+1)=L.getD k 0):=rfl;obtain⟨id,bF⟩:=nmd (L.getD k 0);obtain⟨last,nv⟩:=nmd (yq8 L k);rw[bF.X]at hc fj bw bO dS;rw[nv.X]at fj bO;rw[nv.X];clear bu;obtain⟨c0,c1,c2,c3,c4⟩:=za7 P1.X;have HF:=z45 n fine id a ao av zs.length ac ko co kv cv os wr (HO.below B1.X) aF.X aA
   go_wp2_with fail
   clear c0 c1 c2 c3 c4 hc;refine HF.mono ?_;clear HF;rintro e w2 ⟨rfl,hb⟩;have B2:Zb _:=B1.trans (hb.mono B1.size);have P2:=za4 (za0 hb (za2 P1.X) P1.X);clear hb B1 P1;generalize hZ:(w2.alloc (zg #[.int zd (zd1 os ko id 0),.int zd (zd1 os ko id 1),.int zd (zd1 os ko id 2),.int zd (zd1 os ko id 3),.int zd (zd1 os ko id 4),.int zd (zd1 os ko id 5)] 103))=W3;have BZ:Zb _:=hZ▸zP _;have B3:Zb _:=B2.trans (BZ.mono B2.size);have P3:Zb _:=za0 BZ.X (za2 P2.X) P2.X;by_cases hf:zl7 os ko id=true
   ·rw[hf]
    by_cases hv:last<id
    ·have dD:Zb _:=bO.X hv hf
     have jr:¬(id<=last):=by omega
     clear hf hv;go_wp2
     first
      |exact⟨⟨k+1,by omega,by go_num,by rw[dS.X],dD.X,B3.X,P3.X⟩,by simp[intOf];omega⟩
      |(go_roundw
        case rel=>exact⟨k+1,by omega,by go_num,by rw[dS.X],dD.X,B3.X,P3.X⟩
        case measure=>simp[intOf];omega)
    ·have fM:Zb _:=fj.X (by first|exact hv|omega)
     have jr:id<=last:=by omega
     clear hv hf;go_wp2;go_ret;exact⟨by first|exact B3.X|exact hZ▸B3.X,.inr ⟨rfl,fM.X⟩⟩
   ·have GK:zl7 os ko id=false:=by simpa using hf
    have fM:Zb _:=bw.X GK;rw[GK];clear hf GK;go_wp2;go_ret;exact⟨by first|exact B3.X|exact hZ▸B3.X,.inr ⟨rfl,fM.X⟩⟩
  ·have cL:k=m:=by omega
   have nj:Zb (zg5 os ko L m):=cL▸OK.X;have ke:=za4 (HS.below B1.X);clear cL;obtain⟨c0,c1,c2,c3,c4⟩:=za7 P1.X;have hz:Zb (((s:Int)+(m:Int)==(ko:Int))=decide (s+m=ko)):=by
    show _=_;by_cases e:s+m=ko
    ·rw[zW e,<-e];simp
    ·rw[zX e];simp;omega
   by_cases he:s+m=ko
   ·have se:((s:Int)+(m:Int)==(ko:Int))=true:=by rw[hz.X];exact zW he
    have Rn:((ko:Int)==(ko:Int))=true:=by simp
    have HE:Zb _:=he;clear he
    go_wp2_with(first
     |(at_len;refine wpList_len_own _ rfl _ 146 rfl 2 216 Tryz.underlying146 (unitElem (H:=Unit)) B l.length (yn0 l) rfl ke.X ?_;rw[jp.X])
     |go_in)
    go_ret;exact⟨B1.X,.inl ⟨by first|rfl|(rw[se])|simp[se],nj.X,HE.X⟩⟩
   ·have se:((s:Int)+(m:Int)==(ko:Int))=false:=by rw[hz.X];exact zX he
    have HE:=za4 he;clear he
    go_wp2_with(first
     |(at_len;refine wpList_len_own _ rfl _ 146 rfl 2 216 Tryz.underlying146 (unitElem (H:=Unit)) B l.length (yn0 l) rfl ke.X ?_;rw[jp.X])
     |go_in)
    go_ret;exact⟨B1.X,.inr ⟨by first|rfl|(rw[se])|simp[se],fun h=>HE.X h.2⟩⟩
