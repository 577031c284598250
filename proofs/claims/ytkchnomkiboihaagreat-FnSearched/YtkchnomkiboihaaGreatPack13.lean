import Derived.Test.YtkchnomkiboihaaGreatPack3
set_option linter.unusedSimpArgs false
set_option maxHeartbeats 2000000
set_option maxRecDepth 100000
namespace Go.Proofs.YtkchnomkiboihaaGreat
theorem qJ:type_of% @List.map_append:=@List.map_append
theorem qK:type_of% @List.append_nil:=@List.append_nil
theorem qL:type_of% @Go.World.grownBy_alloc:=@Go.World.grownBy_alloc
theorem qM:type_of% @List.take_zero:=@List.take_zero
open Value renaming slice→za,int→ze
open IntKind renaming i64→zd
open Obj renaming cells→zg
open Proofs.Tryz renaming prog→zh
open Go renaming World→zi
open Lit renaming int→zC
open Go.RowKit Go.Maps
open Q
theorem yA7:Keyed zh 2:=int_keyed Tryz.underlying2
theorem yM6(w:zi):(zeroValue 216).run zh w=.ok (.agg #[]) w:=by kernel_rfl
def yo1(l:List Int):DataW Unit:=setOf (.agg []) (l.map (zC zd))
theorem zU9(l:List Int)(x:Int):yo1 (l++[x])=(yo1 l).put (ze zd x) (.agg []):=by
 unfold yo1;rw[qJ];exact setOf_snoc _ _ _
theorem yu6(l:List Int):∀x∈l.map (zC zd),WideAt.IsKeyLit x:=fun y hy=>by obtain⟨_,_,rfl⟩:=yF.1 hy;trivial
theorem yz9(x:Int):∀l:List Int,(l.map (zC zd)).any (fun y=>y.sameKey (.int zd x))=decide (x∈l)
 |[]=>by simp
 |a::r=>by
  rw[xH,List.any_cons,yz9 x r];have:(zC zd a).sameKey (.int zd x)=decide (a=x):=by
   show decide (zd=zd/\a=x)=decide (a=x);simp
  rw[this];by_cases e:a=x
  ·subst e;simp
  ·have e':¬x=a:=fun h=>e h.symm
   simp[e,e']
theorem yj3(l:List Int)(x:Int):Maps.has (yo1 l) (.int zd x)=decide (x∈l):=by
 unfold yo1;rw[has_setOf _ _ _ (yu6 l)];exact yz9 x l
theorem yx5(l:List Int)(x:Int)(h:x∉l):Maps.size (yo1 (l++[x]))=Maps.size (yo1 l)+1:=by
 rw[zU9,size_put (show Tidy (yo1 l)from tidy_setOf _ _ (yu6 l)),yj3,zX h];rfl
theorem zV5:∀(n:Nat) (l:List Int),l.length=n->l.Nodup->Maps.size (yo1 l)=n
 |0,l,h,_=>by rw[xE h];rfl
 |n+1,l,h,hd=>by
  have aq:l≠[]:=fun e=>by rw[e]at h;cases h
  have e:=List.dropLast_concat_getLast aq;rw[<-e]at hd;have vA:=(zy6 _ _).1 hd;rw[<-e,yx5 _ _ vA.2,zV5 n _ (by rw[List.length_dropLast];omega) vA.1]
def zk8(w:zi)(B:Nat)(l:List Int):Prop:=w.ownsMap zh 2 (unitElem (H:=Unit)) B l.length (yo1 l)
theorem zk8.made(w:zi):zk8 (w.alloc (.map #[] 0)) w.heap.size []:=World.ownsMap_made _ _ _ _
theorem zk8.below{w w':zi}{B:Nat}{l:List Int}(h:zk8 w B l)(hb:Below w.heap.size w w'):zk8 w' B l:=by
 have ah:=World.ownsMap.lt h;unfold zk8 World.ownsMap at*;rw[hb.block B ah];exact h
theorem zu4(B:Nat)(l:List Int)(id:Int)(w:zi)(hS:zk8 w B l)(cB:(zC zd id).wf=true):
 Calls zh 138 #[.map (some B),.int zd id] w fun e w'=>e=.returned (.bool (decide (id∈l)))/\w'=w.alloc (zg #[] 216):=by
 have dg:keyOf zh 2 (.int zd id)=some (.int zd id):=keyOf_int_mk Tryz.underlying2 cB;have HE:Hid _:=yj3 l id;obtain⟨r,HR⟩:=nmd (decide (id∈l));rw[HR.X]at HE⊢;have HS:Hid _:=hS;clear hS;go_enter Tryz.func138,Tryz.ntmps138
 go_wp2_with(first
  |(at_lookup;refine wpList_lookup_own_unit _ rfl _ _ 146 rfl 2 216 yA7 Tryz.underlying146 (yM6 _) B l.length (yo1 l) rfl HS.X _ _ rfl dg ?_;rw[HE.X])
  |go_in)
 go_ret;exact⟨rfl,rfl⟩
theorem zV9(B:Nat)(l:List Int)(id:Int)(w:zi)(hS:zk8 w B l)(cB:(zC zd id).wf=true)(hl:l.length<=1048576):
 Calls zh 136 #[.map (some B),.int zd id] w fun e w'=>w.grownBy w' (some B)/\((id∈l/\e=.returned (.bool false))∨(id∉l/\e=.returned (.bool true)/\zk8 w' B (l++[id]))):=by
 have dg:keyOf zh 2 (.int zd id)=some (.int zd id):=keyOf_int_mk Tryz.underlying2 cB;have HS:Hid _:=hS;have bG:Hid _:=cB;clear hS cB;by_cases hm:id∈l
 ·have HM:Hid _:=hm
  have HF:Hid _:=zW hm;clear hm;go_enter Tryz.func136,Tryz.ntmps136
  go_wp2_with(go_at_call 138;refine(zu4 B l id w HS.X bG.X).mono ?_;rintro e w1 ⟨rfl,rfl⟩;rw[HF.X])
  go_ret;exact⟨qL _ _ _,.inl ⟨HM.X,rfl⟩⟩
 ·have HM:Hid _:=hm
  have HF:Hid _:=zX hm;clear hm;go_enter Tryz.func136,Tryz.ntmps136
  go_wp2_with(first
   |(go_at_call 138;refine(zu4 B l id w HS.X bG.X).mono ?_;rintro e w1 ⟨rfl,rfl⟩;rw[HF.X])
   |(at_mapUpdate;refine wpList_mapUpdate_own _ rfl _ _ _ 146 rfl 2 216 yA7 Tryz.underlying146 (unitElem (H:=Unit)) B l.length _ rfl (World.ownsMap.alloc HS.X _) (by unfold maxLen;omega) _ _ _ rfl rfl dg _ [] unitElem_mk ?_;intro w1 hown1 hgrow1)
   |go_in)
  go_ret;refine⟨(qL _ _ _).trans (by assumption),.inr ⟨HM.X,rfl,?_⟩⟩;unfold zk8;rw[zU9,xS];assumption
theorem ya0{w:zi}{B:Nat}{l:List Int}(hS:zk8 w B l){p:Addr}{v:Value}(h:w.cell? p=some v):p.block≠B:=fun e=>by
 obtain⟨es,cl,hb,_⟩:=hS;unfold World.cell? at h;rw[e,hb]at h;cases h
theorem z75{w w':zi}{B:Nat}{l:List Int}(hS:zk8 w B l)(hg:w.grownBy w' (some B)){p:Addr}{v:Value}(h:w.cell? p=some v):w'.cell? p=some v:=
 hg.cell h (fun e=>ya0 hS h (by simpa using e))
theorem za3.grownM{w w':zi}{B:Nat}{l:List Int}{a:Option Addr}{zs:List Int}(h:za3 w a zs)(hS:zk8 w B l)(hg:w.grownBy w' (Option.some B)):za3 w' a zs:=fun j hj=>by
 obtain⟨b,off,e,hc⟩:=h j hj;exact⟨b,off,e,z75 hS hg hc⟩
theorem za9.grownM{w w':zi}{B:Nat}{l:List Int}{ra:Option Addr}{R:List RT}(h:za9 w ra R)(hS:zk8 w B l)(hg:w.grownBy w' (some B)):za9 w' ra R:=fun j hj=>by
 obtain⟨b,off,e,h1,h2,h3⟩:=h j hj;exact⟨b,off,e,z75 hS hg h1,z75 hS hg h2,h3.grownM hS hg⟩
theorem zy9{w w':zi}{B k:Nat}{l:List Int}{cs:Array Value}{T:TypeId}{q:Nat×Nat}(hS:zk8 w B l)(hg:w.grownBy w' (some B))(h:w.heap[k]? =some (.cells cs T q)):w'.heap[k]? =some (.cells cs T q):=by
 obtain⟨es,cl,hb,_⟩:=hS;rw[hg.block k (za2 h) (fun e=>by simp at e;rw[e,hb]at h;cases h)];exact h
theorem zQ1(ad:Option Addr)(c B:Nat)(L l:List Int)(w:zi)(hI:za3 w ad L)(hS:zk8 w B l)(hL:L.length<=1048576)(hw:∀x∈L,(zC zd x).wf=true):
 Calls zh 165 #[za ad L.length c,.func (.func 138) #[.map (some B)] #[]] w fun e w'=>w.grownBy w' none/\((e=.returned (ze zd (-1))/\∀x∈L,x∉l)∨(∃k:Nat,e=.returned (ze zd k)/\¬∀x∈L,x∉l)):=by
 have HI:Hid _:=hI;have HS:Hid _:=hS;have HW:Hid _:=hw;clear hI hS hw;obtain⟨n,HN⟩:=nmd L.length;rw[HN.X]at hL⊢;go_enter Tryz.func165,Tryz.ntmps165
 go_wp2_with fail
 go_loopw[8] (fun t wr=>∃k:Nat,k<=n/\t=ze zd k/\(∀j,j<k->L.getD j 0∉l)/\w.grownBy wr none) (fun t _=>n - (intOf t).toNat)
 case atStart=>exact⟨0,xi _,rfl,fun j hj=>by omega,World.grownBy.refl _ _⟩
 case round=>
  obtain⟨k,hk,rfl,aZ,hg⟩:=hrel;have bz:Hid _:=aZ;have HG:Hid _:=hg;clear aZ hg;by_cases ah:k<n
  ·have bt:k<L.length:=by have:=HN.X;omega
   obtain⟨b,off,rfl,hc⟩:=HI.X k bt;have ct:=HG.cell hc (by simp);have hx:L.getD k 0∈L:=by rw[zQ,zR bt];simp
   have HX:Hid _:=hx;have Gx:Hid _:=HW.X _ hx;have jV:Hid (zk8 wr B l):=World.ownsMap.kept HS.X HG.X (by simp);clear hc hx bt;obtain⟨id,bG⟩:=nmd (L.getD k 0);rw[bG.X]at ct HX Gx;by_cases hm:id∈l
   ·have HM:Hid _:=hm
    have HF:Hid _:=zW hm;clear hm
    go_wp2_with(go_at_call 138;refine(zu4 B l id _ jV.X Gx.X).mono ?_;rintro e w1 ⟨rfl,rfl⟩;rw[HF.X])
    go_ret;exact⟨HG.trans (qL _ _ _),.inr ⟨k,rfl,fun h=>h id HX.X HM.X⟩⟩
   ·have HF:Hid _:=zX hm
    have eb:Hid (∀j,j<k+1->L.getD j 0∉l):=fun j hj=>by
     by_cases e:j=k
     ·rw[e,bG.X];exact hm
     ·exact bz.X j (by omega)
    clear hm
    go_wp2_with(go_at_call 138;refine(zu4 B l id _ jV.X Gx.X).mono ?_;rintro e w1 ⟨rfl,rfl⟩;rw[HF.X])
    first
     |exact⟨⟨k+1,by omega,by go_num,eb.X,HG.trans (qL _ _ _)⟩,by simp[intOf];omega⟩
     |(go_roundw
       case rel=>exact⟨k+1,by omega,by go_num,eb.X,HG.trans (qL _ _ _)⟩
       case measure=>simp[intOf];omega)
  ·have cM:k=n:=by omega
   have nF:Hid (∀x∈L,x∉l):=fun x hx=>by
    obtain⟨j,hj,e⟩:=xU hx;have:=bz.X j (by rw[cM,<-HN.X];exact hj);rw[zQ,zR hj]at this;rw[<-e];exact this
   clear cM;go_wp2;go_ret;exact⟨HG.X,.inl ⟨rfl,nF.X⟩⟩
theorem zC0(ad:Option Addr)(c B:Nat)(L l:List Int)(w:zi)(hI:za3 w ad L)(hS:zk8 w B l)(hL:L.length<=1048576)(hw:∀x∈L,(zC zd x).wf=true):
 Calls zh 137 #[za ad L.length c,.func (.func 138) #[.map (some B)] #[]] w fun e w'=>w.grownBy w' none/\((e=.returned (.bool false)/\∀x∈L,x∉l)∨(e=.returned (.bool true)/\¬∀x∈L,x∉l)):=by
 have HC:=zQ1 ad c B L l w hI hS hL hw;clear hI hS hw;go_enter Tryz.func137,Tryz.ntmps137
 go_wp2_with fail
 refine HC.mono ?_;rintro e w1 ⟨hg,⟨rfl,h⟩|⟨k,rfl,h⟩⟩
 ·have HG:Hid _:=hg
  have H:Hid _:=h;clear hg h;go_wp2;go_ret;exact⟨HG.X,.inl ⟨rfl,H.X⟩⟩
 ·have HG:Hid _:=hg
  have H:Hid _:=h;clear hg h;have h0:(0:Int)<=(k:Int):=by omega
  go_wp2;go_ret;exact⟨HG.X,.inr ⟨by first|rfl|simp,H.X⟩⟩
theorem zA6{R:List RT}:∀{k m:Nat},k<=m->m<=R.length->zb0 R k <+: zb0 R m
 |k,0,h,_=>by have:k=0:=by omega
              subst this;exact List.prefix_refl _
 |k,m+1,h,hm=>by
  by_cases e:k=m+1
  ·rw[e];exact List.prefix_refl _
  ·rw[zg0 (by omega)]
   exact(zA6 (k:=k) (m:=m) (by omega) (by omega)).trans (List.prefix_append _ _)
theorem z29{R:List RT}{k j:Nat}(hk:k<R.length):zb0 R k++(R.getD k rt0).ids.take j <+: zb0 R R.length:=by
 refine List.IsPrefix.trans ?_ (zA6 (k:=k+1) (by omega) (zT _));rw[zg0 hk];exact(List.prefix_append_right_inj _).2 (List.take_prefix _ _)
theorem zI9{R:List RT}{k j:Nat}(hj:j<(R.getD k rt0).ids.length):zb0 R k++(R.getD k rt0).ids.take (j+1)=(zb0 R k++(R.getD k rt0).ids.take j)++[(R.getD k rt0).ids.getD j 0]:=by
 rw[zf5 _ _ hj,yi]
theorem y47{R:List RT}{k j:Nat}(hk:k<R.length)(hj:j<(R.getD k rt0).ids.length):(R.getD k rt0).ids.getD j 0∈zb0 R R.length:=by
 have:=(z29 (R:=R) (j:=j+1) hk).sublist.subset;rw[zI9 hj]at this;exact this (by simp)
theorem yo2{R:List RT}{k j:Nat}(hk:k<R.length)(hj:j<(R.getD k rt0).ids.length)(h:(R.getD k rt0).ids.getD j 0∈zb0 R k++(R.getD k rt0).ids.take j)(L:List Int):¬yc9 (zb0 R R.length) L:=fun ho=>by
 have:=ho.1.sublist (z29 (R:=R) (j:=j+1) hk).sublist;rw[zI9 hj]at this;exact((zy6 _ _).1 this).2 h
theorem y96{R:List RT}{k:Nat}(hk:k<R.length):zb0 R k++(R.getD k rt0).ids.take (R.getD k rt0).ids.length=zb0 R (k+1):=by
 rw[ym,zg0 hk]
theorem zR8(B:Nat)(ra la:Option Addr)(rc lc:Nat)(R:List RT)(L:List Int)(w:zi)(hA:za9 w ra R)(hL:za3 w la L)(hS:zk8 w B [])(hn:R.length<=1048576)(hi:∀r∈R,r.ids.length<=1048576)(dm:L.length<=1048576)(cT:(zb0 R R.length).length<=1048576)(Kj:∀x∈zb0 R R.length,(zC zd x).wf=true)(gQ:∀x∈L,(zC zd x).wf=true):
 Calls zh 100 #[.map (some B),.agg #[za ra R.length rc,za la L.length lc]] w fun e w'=>w.grownBy w' (some B)/\((e=.returned (.bool true)/\yc9 (zb0 R R.length) L/\zk8 w' B (zb0 R R.length))∨(e=.returned (.bool false)/\¬yc9 (zb0 R R.length) L)):=by
 have HA:=za4 hA;have HL:=za4 hL;have HS:=za4 hS;have HI:Hid _:=hi;have Oi:Hid _:=Kj;have iB:Hid _:=gQ;have iP:Hid _:=cT;have eh:Hid _:=dm;clear hA hL hS hi Kj gQ cT dm;obtain⟨n,HN⟩:=nmd R.length;obtain⟨m,HM⟩:=nmd L.length;rw[HN.X]at hn⊢;rw[HM.X];have fk:=HN.X;have G0:Hid ((w.alloc (zg #[za ra n rc,za la m lc] 33)).heap[w.heap.size]? =_):=zS _ _;have B0:Hid (w.grownBy (w.alloc (zg #[za ra n rc,za la m lc] 33)) (some B)):=qL _ _ _;have S0:Hid (zk8 (w.alloc (zg #[za ra n rc,za la m lc] 33)) B []):=World.ownsMap.alloc HS.X _;go_enter Tryz.func100,Tryz.ntmps100;obtain⟨c0,c1⟩:=za1 G0.X
 go_wp2_with fail
 clear c0 c1;generalize(w.alloc _)=W0 at*;go_loopw[12] (fun t wr=>∃k:Nat,k<=n/\t=ze zd k/\w.grownBy wr (some B)/\zk8 wr B (zb0 R k)/\(zb0 R k).Nodup/\wr.heap[w.heap.size]? =some (zg #[za ra n rc,za la m lc] 33 (0,0))) (fun t _=>n - (intOf t).toNat)
 case atStart=>exact⟨0,xi _,rfl,B0.X,by rw[zj9];exact S0.X,by rw[zj9];exact List.nodup_nil,G0.X⟩
 case round=>
  clear B0 S0 G0;obtain⟨k,hk,rfl,hg,hs,hd,hp⟩:=hrel;have BG:Hid _:=hg;have SR:=za4 hs;have DR:=za4 hd;have PR:=za4 hp;clear hg hs hd hp;by_cases ah:k<n
  ·have bt:k<R.length:=by omega
   obtain⟨b,off,rfl,h1,h2,h3⟩:=(HA.grownM HS.X BG.X) k bt;have lD:(R.getD k rt0).ids.length<=1048576:=HI.X _ (by rw[zQ,zR bt];simp);obtain⟨r,dj⟩:=nmd (R.getD k rt0);rw[dj.X]at h1 h2 h3 lD;have IR:=za4 h3;clear h3;obtain⟨q,HQ⟩:=nmd r.ids.length;rw[HQ.X]at h2 lD;have hq:=HQ.X
   go_wp2_with fail
   clear h1 h2;generalize hZ:(wr.alloc (zg #[ze zd r.v,za r.a q r.c] 80))=W1 at*;have KB:Hid _:=hZ▸BG.trans (qL _ _ _);have PE:Hid (za3 W1 r.a r.ids):=hZ▸IR.below (zP _);have Gu:Hid (zk8 W1 B (zb0 R k)):=hZ▸World.ownsMap.alloc SR.X _;have Ou:Hid _:=hZ▸(zy9 SR.X (qL _ _ _) PR.X);clear hZ BG IR SR PR;go_loopw[19] (fun t wr=>∃j:Nat,j<=q/\t=ze zd j/\W1.grownBy wr (some B)/\zk8 wr B (zb0 R k++r.ids.take j)/\(zb0 R k++r.ids.take j).Nodup) (fun t _=>q - (intOf t).toNat)
   case atStart=>exact⟨0,xi _,rfl,World.grownBy.refl _ _,by rw[qM,qK];exact Gu.X,by rw[qM,qK];exact DR.X⟩
   case round=>
    obtain⟨j,hj,rfl,hg,hs,hd⟩:=hrel;have An:Hid _:=hg;have Jq:=za4 hs;have Kw:=za4 hd;clear hg hs hd;by_cases hjq:j<q
    ·have jy:j<r.ids.length:=by omega
     obtain⟨b2,cV,ea,hc⟩:=(PE.grownM Gu.X An.X) j jy;have HE:Hid _:=ea;have Dt:j<(R.getD k rt0).ids.length:=by rw[dj.X];exact jy
     have wC:Hid (r.ids.getD j 0∈zb0 R R.length):=by have:=y47 bt Dt;rw[dj.X]at this;exact this
     have lN:Hid ((zb0 R k++r.ids.take j).length<=1048576):=by
      have:=(z29 (R:=R) (j:=j) bt).length_le;rw[dj.X]at this;have h2:=iP.X;show _<=_;omega
     have wh:Hid _:=fun h=>yo2 bt Dt (by rw[dj.X];exact h) L
     have eD:Hid (zb0 R k++r.ids.take (j+1)=(zb0 R k++r.ids.take j)++[r.ids.getD j 0]):=by have:=zI9 (R:=R) (k:=k) Dt;rw[dj.X]at this;exact this
     clear ea jy Dt;obtain⟨id,bG⟩:=nmd (r.ids.getD j 0);rw[bG.X]at hc wC wh eD;have ea:=HE.X
     go_wp2_with(go_at_call 136;refine(zV9 B _ id _ Jq.X (Oi.X _ wC.X) lN.X).mono ?_)
     clear ea;rintro e w2 ⟨hg,⟨bd,rfl⟩|⟨bd,rfl,gU⟩⟩
     ·have oa:Hid _:=(KB.trans An.X).trans hg
      have fN:Hid _:=wh.X bd;clear hg bd hc;go_wp2;go_ret;exact⟨oa.X,.inr ⟨rfl,HN.X▸fN.X⟩⟩
     ·have oa:Hid _:=An.trans hg
      have rq:Hid (zk8 w2 B (zb0 R k++r.ids.take (j+1))):=by rw[eD.X];exact gU
      have sY:Hid ((zb0 R k++r.ids.take (j+1)).Nodup):=by rw[eD.X];exact(zy6 _ _).2 ⟨Kw.X,bd⟩
      clear hg gU bd hc;go_wp2
      first
       |exact⟨⟨j+1,by omega,by go_num,oa.X,rq.X,sY.X⟩,by simp[intOf];omega⟩
       |(go_roundw
         case rel=>exact⟨j+1,by omega,by go_num,oa.X,rq.X,sY.X⟩
         case measure=>simp[intOf];omega)
    ·have i_:j=q:=by omega
     have vi:Hid (zb0 R k++r.ids.take j=zb0 R (k+1)):=by
      have:=y96 (R:=R) bt;rw[dj.X,HQ.X]at this;rw[i_];exact this
     have rq:Hid (zk8 wr B (zb0 R (k+1))):=vi.X▸Jq.X;have sY:Hid ((zb0 R (k+1)).Nodup):=vi.X▸Kw.X;have oa:Hid _:=KB.trans An.X;have Kz:Hid _:=zy9 Gu.X An.X Ou.X;clear i_;go_wp2
     first
      |exact⟨⟨k+1,by omega,by go_num,oa.X,rq.X,sY.X,Kz.X⟩,by simp[intOf];omega⟩
      |(go_roundw
        case rel=>exact⟨k+1,by omega,by go_num,oa.X,rq.X,sY.X,Kz.X⟩
        case measure=>simp[intOf];omega)
  ·have cM:k=n:=by omega
   have rq:Hid (zk8 wr B (zb0 R n)):=cM▸SR.X;have sY:Hid ((zb0 R n).Nodup):=cM▸DR.X;obtain⟨c0,c1⟩:=za1 PR.X;clear cM;have HC:=zC0 la lc B L _ wr (HL.grownM HS.X BG.X) rq.X eh.X iB.X;rw[HM.X]at HC
   go_wp2_with(go_at_call 137;refine HC.mono ?_)
   clear c0 c1;rintro e w2 ⟨hg,⟨rfl,bd⟩|⟨rfl,bd⟩⟩
   ·have oa:Hid _:=BG.trans ⟨hg.os,hg.tape,hg.output,hg.size,fun i hi _=>hg.block i hi (by simp)⟩
    have Py:Hid (zk8 w2 B (zb0 R n)):=World.ownsMap.kept rq.X hg (by simp);have f':Hid _:=bd;clear hg bd;go_wp2;go_ret;exact⟨oa.X,.inl ⟨rfl,⟨sY.X,f'.X⟩,Py.X⟩⟩
   ·have oa:Hid _:=BG.trans ⟨hg.os,hg.tape,hg.output,hg.size,fun i hi _=>hg.block i hi (by simp)⟩
    have f':Hid _:=bd;clear hg bd;go_wp2;go_ret;exact⟨oa.X,.inr ⟨rfl,fun h=>f'.X h.2⟩⟩
theorem y52{n:Int}{zs os vs:List Int}{ko kv:Nat}{fine:Int}{L:List Int}{k m:Nat}(hc:zd0 n zs os vs ko kv fine=true)(hk:k<m)(h:¬yp6 L k<L.getD k 0):¬zg5 os ko L m:=fun H=>
 h ((yk0 hc (H k hk).1).1 (H k hk).2)
theorem yq4(n fine:Int)(a ao av la:Option Addr)(ac ko co kv cv lc B:Nat)(zs os vs L l:List Int)(w:zi)(hO:za3 w ao os)(hL:za3 w la L)(hS:zk8 w B l)(hd:l.Nodup)(an:os.length=ko*6)(ay:ko<=9223372036854775807)(dm:L.length<=1048576)(bg:l.length<=1048576)(bT:zd0 n zs os vs ko kv fine=true):
 Calls zh 101 #[.agg #[ze zd n,za a zs.length ac,za ao ko co,za av kv cv,ze zd fine],.map (some B),za la L.length lc] w fun e w'=>Below w.heap.size w w'/\((e=.returned (.bool true)/\zg5 os ko L L.length/\l.length+L.length=ko)∨(e=.returned (.bool false)/\¬(zg5 os ko L L.length/\l.length+L.length=ko))):=by
 have HO:=za4 hO;have HL:=za4 hL;have HS:=za4 hS;have i8:Hid _:=zV5 _ l rfl hd;have aF:Hid _:=an;have HC:Hid _:=bT;clear hO hL hS hd an bT;obtain⟨m,HN⟩:=nmd L.length;rw[HN.X]at dm⊢;have fk:=HN.X;obtain⟨s,mC⟩:=nmd l.length;rw[mC.X]at bg i8⊢;have B0:Hid (Below w.heap.size w (w.alloc (zg #[ze zd n,za a zs.length ac,za ao ko co,za av kv cv,ze zd fine] 30))):=zP _;have G0:Hid ((w.alloc (zg #[ze zd n,za a zs.length ac,za ao ko co,za av kv cv,ze zd fine] 30)).heap[w.heap.size]? =_):=zS _ _;go_enter Tryz.func101,Tryz.ntmps101
 go_wp2_with fail
 generalize(w.alloc _)=W0 at*;go_loopw[7,14] (fun tl t wr=>∃k:Nat,k<=m/\t=ze zd k/\tl=ze zd (yp6 L k)/\zg5 os ko L k/\Below w.heap.size w wr/\wr.heap[w.heap.size]? =some (zg #[ze zd n,za a zs.length ac,za ao ko co,za av kv cv,ze zd fine] 30 (0,0))) (fun _ t _=>m - (intOf t).toNat)
 case atStart=>exact⟨0,xi _,rfl,rfl,zg5.zero _ _ _,B0.X,G0.X⟩
 case round=>
  clear B0 G0;obtain⟨k,hk,rfl,rfl,aP,hb,hp⟩:=hrel;have OK:=za4 aP;have B1:Hid _:=hb;have P1:=za4 hp;clear aP hb hp;by_cases ah:k<m
  ·have bt:k<L.length:=by omega
   obtain⟨b,off,rfl,hc⟩:=(HL.below B1.X) k bt;have eZ:Hid (¬yp6 L k<L.getD k 0->¬(zg5 os ko L m/\s+m=ko)):=fun h H=>y52 HC.X ah h H.1;have bz:Hid (zl6 os ko (L.getD k 0)=false->¬(zg5 os ko L m/\s+m=ko)):=fun h H=>by rw[(H.1 k ah).1]at h;cases h
   have bM:Hid _:=fun h1 h2=>OK.step h2 ((yk0 HC.X h2).2 h1);have dW:Hid (yp6 L (k+1)=L.getD k 0):=rfl;obtain⟨id,bG⟩:=nmd (L.getD k 0);obtain⟨last,oc⟩:=nmd (yp6 L k);rw[bG.X]at hc eZ bz bM dW;rw[oc.X]at eZ bM;rw[oc.X];clear bt;obtain⟨c0,c1,c2,c3,c4⟩:=za7 P1.X;have HF:=z50 n fine id a ao av zs.length ac ko co kv cv os wr (HO.below B1.X) aF.X ay
   go_wp2_with fail
   clear c0 c1 c2 c3 c4 hc;refine HF.mono ?_;clear HF;rintro e w2 ⟨rfl,hb⟩;have B2:Hid _:=B1.trans (hb.mono B1.size);have P2:=za4 (za0 hb (za2 P1.X) P1.X);clear hb B1 P1;generalize hZ:(w2.alloc (zg #[ze zd (zd1 os ko id 0),ze zd (zd1 os ko id 1),ze zd (zd1 os ko id 2),ze zd (zd1 os ko id 3),ze zd (zd1 os ko id 4),ze zd (zd1 os ko id 5)] 103))=W3;have BZ:Hid _:=hZ▸zP _;have B3:Hid _:=B2.trans (BZ.mono B2.size);have P3:Hid _:=za0 BZ.X (za2 P2.X) P2.X;by_cases hf:zl6 os ko id=true
   ·rw[hf]
    by_cases hv:last<id
    ·have dD:Hid _:=bM.X hv hf
     have ju:¬(id<=last):=by omega
     clear hf hv;go_wp2
     first
      |exact⟨⟨k+1,by omega,by go_num,by rw[dW.X],dD.X,B3.X,P3.X⟩,by simp[intOf];omega⟩
      |(go_roundw
        case rel=>exact⟨k+1,by omega,by go_num,by rw[dW.X],dD.X,B3.X,P3.X⟩
        case measure=>simp[intOf];omega)
    ·have fN:Hid _:=eZ.X (by first|exact hv|omega)
     have ju:id<=last:=by omega
     clear hv hf;go_wp2;go_ret;exact⟨by first|exact B3.X|exact hZ▸B3.X,.inr ⟨rfl,fN.X⟩⟩
   ·have Fj:zl6 os ko id=false:=by simpa using hf
    have fN:Hid _:=bz.X Fj;rw[Fj];clear hf Fj;go_wp2;go_ret;exact⟨by first|exact B3.X|exact hZ▸B3.X,.inr ⟨rfl,fN.X⟩⟩
  ·have cM:k=m:=by omega
   have nF:Hid (zg5 os ko L m):=cM▸OK.X;have jV:=za4 (HS.below B1.X);clear cM;obtain⟨c0,c1,c2,c3,c4⟩:=za7 P1.X;have hz:Hid (((s:Int)+(m:Int)==(ko:Int))=decide (s+m=ko)):=by
    show _=_;by_cases e:s+m=ko
    ·rw[zW e,<-e];simp
    ·rw[zX e];simp;omega
   by_cases he:s+m=ko
   ·have uo:((s:Int)+(m:Int)==(ko:Int))=true:=by rw[hz.X];exact zW he
    have Qs:((ko:Int)==(ko:Int))=true:=by simp
    have HE:Hid _:=he;clear he
    go_wp2_with(first
     |(at_len;refine wpList_len_own _ rfl _ 146 rfl 2 216 Tryz.underlying146 (unitElem (H:=Unit)) B l.length (yo1 l) rfl jV.X ?_;rw[i8.X])
     |go_in)
    go_ret;exact⟨B1.X,.inl ⟨by first|rfl|(rw[uo])|simp[uo],nF.X,HE.X⟩⟩
   ·have uo:((s:Int)+(m:Int)==(ko:Int))=false:=by rw[hz.X];exact zX he
    have HE:=za4 he;clear he
    go_wp2_with(first
     |(at_len;refine wpList_len_own _ rfl _ 146 rfl 2 216 Tryz.underlying146 (unitElem (H:=Unit)) B l.length (yo1 l) rfl jV.X ?_;rw[i8.X])
     |go_in)
    go_ret;exact⟨B1.X,.inr ⟨by first|rfl|(rw[uo])|simp[uo],fun h=>HE.X h.2⟩⟩
