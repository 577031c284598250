import Derived.Test.YtkchnomkiboihaaGreatPack3
set_option linter.unusedSimpArgs false
set_option maxHeartbeats 2000000
set_option maxRecDepth 100000
namespace Go.Proofs.YtkchnomkiboihaaGreat
theorem xR:type_of% @List.take_zero:=@List.take_zero
theorem xS:type_of% @Go.World.grownBy_alloc:=@Go.World.grownBy_alloc
theorem xT:type_of% @Go.World.grownBy.refl:=@Go.World.grownBy.refl
open Value renaming slice→za
open IntKind renaming i64→zb
open Obj renaming cells→zd
open Proofs.Tryz renaming prog→ze
open Go renaming World→zg
open Lit renaming int→zB
open Go.RowKit Go.Maps
open Q
theorem y95:Keyed ze 2:=int_keyed Tryz.underlying2
theorem yL3(w:zg):(zeroValue 216).run ze w=.ok (.agg #[]) w:=by kernel_rfl
def yo5(l:List Int):DataW Unit:=setOf (.agg []) (l.map (zB zb))
theorem zV3(l:List Int)(x:Int):yo5 (l++[x])=(yo5 l).put (.int zb x) (.agg []):=by
 unfold yo5;rw[xH];exact setOf_snoc _ _ _
theorem yz4(l:List Int):∀x∈l.map (zB zb),WideAt.IsKeyLit x:=fun y hy=>by obtain⟨_,_,rfl⟩:=yy.1 hy;trivial
theorem yu8(x:Int):∀l:List Int,(l.map (zB zb)).any (fun y=>y.sameKey (.int zb x))=decide (x∈l)
 |[]=>by simp
 |a::r=>by
  rw[xw,List.any_cons,yu8 x r];have:(zB zb a).sameKey (.int zb x)=decide (a=x):=by
   show decide (zb=zb/\a=x)=decide (a=x);simp
  rw[this];by_cases e:a=x
  ·subst e;simp
  ·have e':¬x=a:=fun h=>e h.symm
   simp[e,e']
theorem yj9(l:List Int)(x:Int):Maps.has (yo5 l) (.int zb x)=decide (x∈l):=by
 unfold yo5;rw[has_setOf _ _ _ (yz4 l)];exact yu8 x l
theorem yy0(l:List Int)(x:Int)(h:x∉l):Maps.size (yo5 (l++[x]))=Maps.size (yo5 l)+1:=by
 rw[zV3,size_put (show Tidy (yo5 l)from tidy_setOf _ _ (yz4 l)),yj9,zU h];rfl
theorem zZ3:∀(n:Nat) (l:List Int),l.length=n->l.Nodup->Maps.size (yo5 l)=n
 |0,l,h,_=>by rw[xt h];rfl
 |n+1,l,h,hd=>by
  have hne:l≠[]:=fun e=>by rw[e]at h;cases h
  have e:=List.dropLast_concat_getLast hne;rw[<-e]at hd;have hd2:=(z00 _ _).1 hd;rw[<-e,yy0 _ _ hd2.2,zZ3 n _ (by rw[List.length_dropLast];omega) hd2.1]
def zl0(w:zg)(B:Nat)(l:List Int):Prop:=w.ownsMap ze 2 (unitElem (H:=Unit)) B l.length (yo5 l)
theorem zl0.made(w:zg):zl0 (w.alloc (.map #[] 0)) w.heap.size []:=World.ownsMap_made _ _ _ _
theorem zl0.below{w w':zg}{B:Nat}{l:List Int}(h:zl0 w B l)(hb:Below w.heap.size w w'):zl0 w' B l:=by
 have hlt:=World.ownsMap.lt h;unfold zl0 World.ownsMap at*;rw[hb.block B hlt];exact h
theorem zu6(B:Nat)(l:List Int)(id:Int)(w:zg)(hS:zl0 w B l)(hid:(zB zb id).wf=true):
 Calls ze 138 #[.map (some B),.int zb id] w fun e w'=>e=.returned (.bool (decide (id∈l)))/\w'=w.alloc (zd #[] 216):=by
 have hkey:keyOf ze 2 (.int zb id)=some (.int zb id):=keyOf_int_mk Tryz.underlying2 hid;have HE:Hid _:=yj9 l id;obtain⟨r,HR⟩:=nmd (decide (id∈l));rw[HR.X]at HE⊢;have HS:Hid _:=hS;clear hS;go_enter Tryz.func138,Tryz.ntmps138
 go_wp2_with(first
  |(at_lookup;refine wpList_lookup_own_unit _ rfl _ _ 146 rfl 2 216 y95 Tryz.underlying146 (yL3 _) B l.length (yo5 l) rfl HS.X _ _ rfl hkey ?_;rw[HE.X])
  |go_in)
 go_ret;exact⟨rfl,rfl⟩
theorem zW5(B:Nat)(l:List Int)(id:Int)(w:zg)(hS:zl0 w B l)(hid:(zB zb id).wf=true)(hl:l.length<=1048576):
 Calls ze 136 #[.map (some B),.int zb id] w fun e w'=>w.grownBy w' (some B)/\((id∈l/\e=.returned (.bool false))∨(id∉l/\e=.returned (.bool true)/\zl0 w' B (l++[id]))):=by
 have hkey:keyOf ze 2 (.int zb id)=some (.int zb id):=keyOf_int_mk Tryz.underlying2 hid;have HS:Hid _:=hS;have HID:Hid _:=hid;clear hS hid;by_cases hm:id∈l
 ·have HM:Hid _:=hm
  have HF:Hid _:=zS hm;clear hm;go_enter Tryz.func136,Tryz.ntmps136
  go_wp2_with(go_at_call 138;refine(zu6 B l id w HS.X HID.X).mono ?_;rintro e w1 ⟨rfl,rfl⟩;rw[HF.X])
  go_ret;exact⟨xS _ _ _,.inl ⟨HM.X,rfl⟩⟩
 ·have HM:Hid _:=hm
  have HF:Hid _:=zU hm;clear hm;go_enter Tryz.func136,Tryz.ntmps136
  go_wp2_with(first
   |(go_at_call 138;refine(zu6 B l id w HS.X HID.X).mono ?_;rintro e w1 ⟨rfl,rfl⟩;rw[HF.X])
   |(at_mapUpdate;refine wpList_mapUpdate_own _ rfl _ _ _ 146 rfl 2 216 y95 Tryz.underlying146 (unitElem (H:=Unit)) B l.length _ rfl (World.ownsMap.alloc HS.X _) (by unfold maxLen;omega) _ _ _ rfl rfl hkey _ [] unitElem_mk ?_;intro w1 hown1 hgrow1)
   |go_in)
  go_ret;refine⟨(xS _ _ _).trans (by assumption),.inr ⟨HM.X,rfl,?_⟩⟩;unfold zl0;rw[zV3,xF];assumption
theorem zV4{w:zg}{B:Nat}{l:List Int}(hS:zl0 w B l){p:Addr}{v:Value}(h:w.cell? p=some v):p.block≠B:=fun e=>by
 obtain⟨es,cl,hb,_⟩:=hS;unfold World.cell? at h;rw[e,hb]at h;cases h
theorem z91{w w':zg}{B:Nat}{l:List Int}(hS:zl0 w B l)(hg:w.grownBy w' (some B)){p:Addr}{v:Value}(h:w.cell? p=some v):w'.cell? p=some v:=
 hg.cell h (fun e=>zV4 hS h (by simpa using e))
theorem za3.grownM{w w':zg}{B:Nat}{l:List Int}{a:Option Addr}{zs:List Int}(h:za3 w a zs)(hS:zl0 w B l)(hg:w.grownBy w' (Option.some B)):za3 w' a zs:=fun j hj=>by
 obtain⟨b,off,e,hc⟩:=h j hj;exact⟨b,off,e,z91 hS hg hc⟩
theorem za9.grownM{w w':zg}{B:Nat}{l:List Int}{ra:Option Addr}{R:List RT}(h:za9 w ra R)(hS:zl0 w B l)(hg:w.grownBy w' (some B)):za9 w' ra R:=fun j hj=>by
 obtain⟨b,off,e,h1,h2,h3⟩:=h j hj;exact⟨b,off,e,z91 hS hg h1,z91 hS hg h2,h3.grownM hS hg⟩
theorem zz5{w w':zg}{B k:Nat}{l:List Int}{cs:Array Value}{T:TypeId}{q:Nat×Nat}(hS:zl0 w B l)(hg:w.grownBy w' (some B))(h:w.heap[k]? =some (.cells cs T q)):w'.heap[k]? =some (.cells cs T q):=by
 obtain⟨es,cl,hb,_⟩:=hS;rw[hg.block k (za2 h) (fun e=>by simp at e;rw[e,hb]at h;cases h)];exact h
theorem zS6(ad:Option Addr)(c B:Nat)(L l:List Int)(w:zg)(hI:za3 w ad L)(hS:zl0 w B l)(hL:L.length<=1048576)(hw:∀x∈L,(zB zb x).wf=true):
 Calls ze 165 #[za ad L.length c,.func (.func 138) #[.map (some B)] #[]] w fun e w'=>w.grownBy w' none/\((e=.returned (.int zb (-1))/\∀x∈L,x∉l)∨(∃k:Nat,e=.returned (.int zb k)/\¬∀x∈L,x∉l)):=by
 have HI:Hid _:=hI;have HS:Hid _:=hS;have HW:Hid _:=hw;clear hI hS hw;obtain⟨n,HN⟩:=nmd L.length;rw[HN.X]at hL⊢;go_enter Tryz.func165,Tryz.ntmps165
 go_wp2_with fail
 go_loopw[8] (fun t wr=>∃k:Nat,k<=n/\t=.int zb k/\(∀j,j<k->L.getD j 0∉l)/\w.grownBy wr none) (fun t _=>n - (intOf t).toNat)
 case atStart=>exact⟨0,yZ _,rfl,fun j hj=>by omega,xT _ _⟩
 case round=>
  obtain⟨k,hk,rfl,hno,hg⟩:=hrel;have HNO:Hid _:=hno;have HG:Hid _:=hg;clear hno hg;by_cases hlt:k<n
  ·have hkl:k<L.length:=by have:=HN.X;omega
   obtain⟨b,off,rfl,hc⟩:=HI.X k hkl;have ct:=HG.cell hc (by simp);have hx:L.getD k 0∈L:=by rw[zM,zO hkl];simp
   have HX:Hid _:=hx;have HWX:Hid _:=HW.X _ hx;have HSR:Hid (zl0 wr B l):=World.ownsMap.kept HS.X HG.X (by simp);clear hc hx hkl;obtain⟨id,HID⟩:=nmd (L.getD k 0);rw[HID.X]at ct HX HWX;by_cases hm:id∈l
   ·have HM:Hid _:=hm
    have HF:Hid _:=zS hm;clear hm
    go_wp2_with(go_at_call 138;refine(zu6 B l id _ HSR.X HWX.X).mono ?_;rintro e w1 ⟨rfl,rfl⟩;rw[HF.X])
    go_ret;exact⟨HG.trans (xS _ _ _),.inr ⟨k,rfl,fun h=>h id HX.X HM.X⟩⟩
   ·have HF:Hid _:=zU hm
    have HS1:Hid (∀j,j<k+1->L.getD j 0∉l):=fun j hj=>by
     by_cases e:j=k
     ·rw[e,HID.X];exact hm
     ·exact HNO.X j (by omega)
    clear hm
    go_wp2_with(go_at_call 138;refine(zu6 B l id _ HSR.X HWX.X).mono ?_;rintro e w1 ⟨rfl,rfl⟩;rw[HF.X])
    first
     |exact⟨⟨k+1,by omega,by go_num,HS1.X,HG.trans (xS _ _ _)⟩,by simp[intOf];omega⟩
     |(go_roundw
       case rel=>exact⟨k+1,by omega,by go_num,HS1.X,HG.trans (xS _ _ _)⟩
       case measure=>simp[intOf];omega)
  ·have hkn:k=n:=by omega
   have HALL:Hid (∀x∈L,x∉l):=fun x hx=>by
    obtain⟨j,hj,e⟩:=xK hx;have:=HNO.X j (by rw[hkn,<-HN.X];exact hj);rw[zM,zO hj]at this;rw[<-e];exact this
   clear hkn;go_wp2;go_ret;exact⟨HG.X,.inl ⟨rfl,HALL.X⟩⟩
theorem zB6(ad:Option Addr)(c B:Nat)(L l:List Int)(w:zg)(hI:za3 w ad L)(hS:zl0 w B l)(hL:L.length<=1048576)(hw:∀x∈L,(zB zb x).wf=true):
 Calls ze 137 #[za ad L.length c,.func (.func 138) #[.map (some B)] #[]] w fun e w'=>w.grownBy w' none/\((e=.returned (.bool false)/\∀x∈L,x∉l)∨(e=.returned (.bool true)/\¬∀x∈L,x∉l)):=by
 have HC:=zS6 ad c B L l w hI hS hL hw;clear hI hS hw;go_enter Tryz.func137,Tryz.ntmps137
 go_wp2_with fail
 refine HC.mono ?_;rintro e w1 ⟨hg,⟨rfl,h⟩|⟨k,rfl,h⟩⟩
 ·have HG:Hid _:=hg
  have H:Hid _:=h;clear hg h;go_wp2;go_ret;exact⟨HG.X,.inl ⟨rfl,H.X⟩⟩
 ·have HG:Hid _:=hg
  have H:Hid _:=h;clear hg h;have h0:(0:Int)<=(k:Int):=by omega
  go_wp2;go_ret;exact⟨HG.X,.inr ⟨by first|rfl|simp,H.X⟩⟩
theorem zA1{R:List RT}:∀{k m:Nat},k<=m->m<=R.length->za8 R k <+: za8 R m
 |k,0,h,_=>by have:k=0:=by omega
              subst this;exact List.prefix_refl _
 |k,m+1,h,hm=>by
  by_cases e:k=m+1
  ·rw[e];exact List.prefix_refl _
  ·rw[zf4 (by omega)]
   exact(zA1 (k:=k) (m:=m) (by omega) (by omega)).trans (List.prefix_append _ _)
theorem z28{R:List RT}{k j:Nat}(hk:k<R.length):za8 R k++(R.getD k rt0).ids.take j <+: za8 R R.length:=by
 refine List.IsPrefix.trans ?_ (zA1 (k:=k+1) (by omega) (zQ _));rw[zf4 hk];exact(List.prefix_append_right_inj _).2 (List.take_prefix _ _)
theorem zH7{R:List RT}{k j:Nat}(hj:j<(R.getD k rt0).ids.length):za8 R k++(R.getD k rt0).ids.take (j+1)=(za8 R k++(R.getD k rt0).ids.take j)++[(R.getD k rt0).ids.getD j 0]:=by
 rw[zg0 _ _ hj,z7]
theorem y83{R:List RT}{k j:Nat}(hk:k<R.length)(hj:j<(R.getD k rt0).ids.length):(R.getD k rt0).ids.getD j 0∈za8 R R.length:=by
 have:=(z28 (R:=R) (j:=j+1) hk).sublist.subset;rw[zH7 hj]at this;exact this (by simp)
theorem yq7{R:List RT}{k j:Nat}(hk:k<R.length)(hj:j<(R.getD k rt0).ids.length)(h:(R.getD k rt0).ids.getD j 0∈za8 R k++(R.getD k rt0).ids.take j)(L:List Int):¬yh5 (za8 R R.length) L:=fun ho=>by
 have:=ho.1.sublist (z28 (R:=R) (j:=j+1) hk).sublist;rw[zH7 hj]at this;exact((z00 _ _).1 this).2 h
theorem y31{R:List RT}{k:Nat}(hk:k<R.length):za8 R k++(R.getD k rt0).ids.take (R.getD k rt0).ids.length=za8 R (k+1):=by
 rw[yc,zf4 hk]
theorem zR6(B:Nat)(ra la:Option Addr)(rc lc:Nat)(R:List RT)(L:List Int)(w:zg)(hA:za9 w ra R)(hL:za3 w la L)(hS:zl0 w B [])(hn:R.length<=1048576)(hi:∀r∈R,r.ids.length<=1048576)(hll:L.length<=1048576)(hal:(za8 R R.length).length<=1048576)(hwa:∀x∈za8 R R.length,(zB zb x).wf=true)(hwl:∀x∈L,(zB zb x).wf=true):
 Calls ze 100 #[.map (some B),.agg #[za ra R.length rc,za la L.length lc]] w fun e w'=>w.grownBy w' (some B)/\((e=.returned (.bool true)/\yh5 (za8 R R.length) L/\zl0 w' B (za8 R R.length))∨(e=.returned (.bool false)/\¬yh5 (za8 R R.length) L)):=by
 have HA:=za4 hA;have HL:=za4 hL;have HS:=za4 hS;have HI:Hid _:=hi;have HWA:Hid _:=hwa;have HWL:Hid _:=hwl;have HAL:Hid _:=hal;have HLL:Hid _:=hll;clear hA hL hS hi hwa hwl hal hll;obtain⟨n,HN⟩:=nmd R.length;obtain⟨m,HM⟩:=nmd L.length;rw[HN.X]at hn⊢;rw[HM.X];have hnn:=HN.X;have G0:Hid ((w.alloc (zd #[za ra n rc,za la m lc] 33)).heap[w.heap.size]? =_):=zN _ _;have B0:Hid (w.grownBy (w.alloc (zd #[za ra n rc,za la m lc] 33)) (some B)):=xS _ _ _;have S0:Hid (zl0 (w.alloc (zd #[za ra n rc,za la m lc] 33)) B []):=World.ownsMap.alloc HS.X _;go_enter Tryz.func100,Tryz.ntmps100;obtain⟨c0,c1⟩:=za1 G0.X
 go_wp2_with fail
 clear c0 c1;generalize(w.alloc (zd #[za ra n rc,za la m lc] 33))=W0 at*;go_loopw[12] (fun t wr=>∃k:Nat,k<=n/\t=.int zb k/\w.grownBy wr (some B)/\zl0 wr B (za8 R k)/\(za8 R k).Nodup/\wr.heap[w.heap.size]? =some (zd #[za ra n rc,za la m lc] 33 (0,0))) (fun t _=>n - (intOf t).toNat)
 case atStart=>exact⟨0,yZ _,rfl,B0.X,by rw[zi4];exact S0.X,by rw[zi4];exact List.nodup_nil,G0.X⟩
 case round=>
  clear B0 S0 G0;obtain⟨k,hk,rfl,hg,hs,hd,hp⟩:=hrel;have BG:Hid _:=hg;have SR:=za4 hs;have DR:=za4 hd;have PR:=za4 hp;clear hg hs hd hp;by_cases hlt:k<n
  ·have hkl:k<R.length:=by omega
   obtain⟨b,off,rfl,h1,h2,h3⟩:=(HA.grownM HS.X BG.X) k hkl;have hml:(R.getD k rt0).ids.length<=1048576:=HI.X _ (by rw[zM,zO hkl];simp);obtain⟨r,HRT⟩:=nmd (R.getD k rt0);rw[HRT.X]at h1 h2 h3 hml;have IR:=za4 h3;clear h3;obtain⟨q,HQ⟩:=nmd r.ids.length;rw[HQ.X]at h2 hml;have hq:=HQ.X
   go_wp2_with fail
   clear h1 h2;generalize hZ:(wr.alloc (zd #[Value.int zb r.v,za r.a q r.c] 80))=W1 at*;have BG1:Hid _:=hZ▸BG.trans (xS _ _ _);have IR1:Hid (za3 W1 r.a r.ids):=hZ▸IR.below (zK _);have SR1:Hid (zl0 W1 B (za8 R k)):=hZ▸World.ownsMap.alloc SR.X _;have PR1:Hid _:=hZ▸(zz5 SR.X (xS _ _ _) PR.X);clear hZ BG IR SR PR;go_loopw[19] (fun t wr=>∃j:Nat,j<=q/\t=.int zb j/\W1.grownBy wr (some B)/\zl0 wr B (za8 R k++r.ids.take j)/\(za8 R k++r.ids.take j).Nodup) (fun t _=>q - (intOf t).toNat)
   case atStart=>exact⟨0,yZ _,rfl,xT _ _,by rw[xR,xJ];exact SR1.X,by rw[xR,xJ];exact DR.X⟩
   case round=>
    obtain⟨j,hj,rfl,hg,hs,hd⟩:=hrel;have BG2:Hid _:=hg;have SR2:=za4 hs;have DR2:=za4 hd;clear hg hs hd;by_cases hjq:j<q
    ·have hjl:j<r.ids.length:=by omega
     obtain⟨b2,off2,ea,hc⟩:=(IR1.grownM SR1.X BG2.X) j hjl;have HE:Hid _:=ea;have hjR:j<(R.getD k rt0).ids.length:=by rw[HRT.X];exact hjl
     have HMEM:Hid (r.ids.getD j 0∈za8 R R.length):=by have:=y83 hkl hjR;rw[HRT.X]at this;exact this
     have HPRE:Hid ((za8 R k++r.ids.take j).length<=1048576):=by
      have:=(z28 (R:=R) (j:=j) hkl).length_le;rw[HRT.X]at this;have h2:=HAL.X;show _<=_;omega
     have HTW:Hid _:=fun h=>yq7 hkl hjR (by rw[HRT.X];exact h) L
     have HSN:Hid (za8 R k++r.ids.take (j+1)=(za8 R k++r.ids.take j)++[r.ids.getD j 0]):=by have:=zH7 (R:=R) (k:=k) hjR;rw[HRT.X]at this;exact this
     clear ea hjl hjR;obtain⟨id,HID⟩:=nmd (r.ids.getD j 0);rw[HID.X]at hc HMEM HTW HSN;have ea:=HE.X
     go_wp2_with(go_at_call 136;refine(zW5 B _ id _ SR2.X (HWA.X _ HMEM.X) HPRE.X).mono ?_)
     clear ea;rintro e w2 ⟨hg,⟨hin,rfl⟩|⟨hin,rfl,hs2⟩⟩
     ·have BG3:Hid _:=(BG1.trans BG2.X).trans hg
      have HNOT:Hid _:=HTW.X hin;clear hg hin hc;go_wp2;go_ret;exact⟨BG3.X,.inr ⟨rfl,HN.X▸HNOT.X⟩⟩
     ·have BG3:Hid _:=BG2.trans hg
      have SR3:Hid (zl0 w2 B (za8 R k++r.ids.take (j+1))):=by rw[HSN.X];exact hs2
      have DR3:Hid ((za8 R k++r.ids.take (j+1)).Nodup):=by rw[HSN.X];exact(z00 _ _).2 ⟨DR2.X,hin⟩
      clear hg hs2 hin hc;go_wp2
      first
       |exact⟨⟨j+1,by omega,by go_num,BG3.X,SR3.X,DR3.X⟩,by simp[intOf];omega⟩
       |(go_roundw
         case rel=>exact⟨j+1,by omega,by go_num,BG3.X,SR3.X,DR3.X⟩
         case measure=>simp[intOf];omega)
    ·have hjq2:j=q:=by omega
     have HA2:Hid (za8 R k++r.ids.take j=za8 R (k+1)):=by
      have:=y31 (R:=R) hkl;rw[HRT.X,HQ.X]at this;rw[hjq2];exact this
     have SR3:Hid (zl0 wr B (za8 R (k+1))):=HA2.X▸SR2.X;have DR3:Hid ((za8 R (k+1)).Nodup):=HA2.X▸DR2.X;have BG3:Hid _:=BG1.trans BG2.X;have PR3:Hid _:=zz5 SR1.X BG2.X PR1.X;clear hjq2;go_wp2
     first
      |exact⟨⟨k+1,by omega,by go_num,BG3.X,SR3.X,DR3.X,PR3.X⟩,by simp[intOf];omega⟩
      |(go_roundw
        case rel=>exact⟨k+1,by omega,by go_num,BG3.X,SR3.X,DR3.X,PR3.X⟩
        case measure=>simp[intOf];omega)
  ·have hkn:k=n:=by omega
   have SR3:Hid (zl0 wr B (za8 R n)):=hkn▸SR.X;have DR3:Hid ((za8 R n).Nodup):=hkn▸DR.X;obtain⟨c0,c1⟩:=za1 PR.X;clear hkn;have HC:=zB6 la lc B L _ wr (HL.grownM HS.X BG.X) SR3.X HLL.X HWL.X;rw[HM.X]at HC
   go_wp2_with(go_at_call 137;refine HC.mono ?_)
   clear c0 c1;rintro e w2 ⟨hg,⟨rfl,hin⟩|⟨rfl,hin⟩⟩
   ·have BG3:Hid _:=BG.trans ⟨hg.os,hg.tape,hg.output,hg.size,fun i hi _=>hg.block i hi (by simp)⟩
    have SR4:Hid (zl0 w2 B (za8 R n)):=World.ownsMap.kept SR3.X hg (by simp);have HIN:Hid _:=hin;clear hg hin;go_wp2;go_ret;exact⟨BG3.X,.inl ⟨rfl,⟨DR3.X,HIN.X⟩,SR4.X⟩⟩
   ·have BG3:Hid _:=BG.trans ⟨hg.os,hg.tape,hg.output,hg.size,fun i hi _=>hg.block i hi (by simp)⟩
    have HIN:Hid _:=hin;clear hg hin;go_wp2;go_ret;exact⟨BG3.X,.inr ⟨rfl,fun h=>HIN.X h.2⟩⟩
theorem y44{n:Int}{zs os vs:List Int}{ko kv:Nat}{fine:Int}{L:List Int}{k m:Nat}(hc:zc8 n zs os vs ko kv fine=true)(hk:k<m)(h:¬yo9 L k<L.getD k 0):¬zg4 os ko L m:=fun H=>
 h ((yl6 hc (H k hk).1).1 (H k hk).2)
theorem yp5(n fine:Int)(a ao av la:Option Addr)(cap ko co kv cv lc B:Nat)(zs os vs L l:List Int)(w:zg)(hO:za3 w ao os)(hL:za3 w la L)(hS:zl0 w B l)(hd:l.Nodup)(hlo:os.length=ko*6)(hko:ko<=9223372036854775807)(hll:L.length<=1048576)(hsl:l.length<=1048576)(hcB:zc8 n zs os vs ko kv fine=true):
 Calls ze 101 #[.agg #[.int zb n,za a zs.length cap,za ao ko co,za av kv cv,.int zb fine],.map (some B),za la L.length lc] w fun e w'=>Below w.heap.size w w'/\((e=.returned (.bool true)/\zg4 os ko L L.length/\l.length+L.length=ko)∨(e=.returned (.bool false)/\¬(zg4 os ko L L.length/\l.length+L.length=ko))):=by
 have HO:=za4 hO;have HL:=za4 hL;have HS:=za4 hS;have HSZ:Hid _:=zZ3 _ l rfl hd;have HLO:Hid _:=hlo;have HC:Hid _:=hcB;clear hO hL hS hd hlo hcB;obtain⟨m,HN⟩:=nmd L.length;rw[HN.X]at hll⊢;have hnn:=HN.X;obtain⟨s,HSL⟩:=nmd l.length;rw[HSL.X]at hsl HSZ⊢;have B0:Hid (Below w.heap.size w (w.alloc (zd #[.int zb n,za a zs.length cap,za ao ko co,za av kv cv,.int zb fine] 30))):=zK _;have G0:Hid ((w.alloc (zd #[.int zb n,za a zs.length cap,za ao ko co,za av kv cv,.int zb fine] 30)).heap[w.heap.size]? =_):=zN _ _;go_enter Tryz.func101,Tryz.ntmps101
 go_wp2_with fail
 generalize(w.alloc (zd #[.int zb n,za a zs.length cap,za ao ko co,za av kv cv,.int zb fine] 30))=W0 at*;go_loopw[7,14] (fun tl t wr=>∃k:Nat,k<=m/\t=.int zb k/\tl=.int zb (yo9 L k)/\zg4 os ko L k/\Below w.heap.size w wr/\wr.heap[w.heap.size]? =some (zd #[.int zb n,za a zs.length cap,za ao ko co,za av kv cv,.int zb fine] 30 (0,0))) (fun _ t _=>m - (intOf t).toNat)
 case atStart=>exact⟨0,yZ _,rfl,rfl,zg4.zero _ _ _,B0.X,G0.X⟩
 case round=>
  clear B0 G0;obtain⟨k,hk,rfl,rfl,hok,hb,hp⟩:=hrel;have OK:=za4 hok;have B1:Hid _:=hb;have P1:=za4 hp;clear hok hb hp;by_cases hlt:k<m
  ·have hkl:k<L.length:=by omega
   obtain⟨b,off,rfl,hc⟩:=(HL.below B1.X) k hkl;have HLOW:Hid (¬yo9 L k<L.getD k 0->¬(zg4 os ko L m/\s+m=ko)):=fun h H=>y44 HC.X hlt h H.1;have HNO:Hid (zm0 os ko (L.getD k 0)=false->¬(zg4 os ko L m/\s+m=ko)):=fun h H=>by rw[(H.1 k hlt).1]at h;cases h
   have HSTEP:Hid _:=fun h1 h2=>OK.step h2 ((yl6 HC.X h2).2 h1);have HLN:Hid (yo9 L (k+1)=L.getD k 0):=rfl;obtain⟨id,HID⟩:=nmd (L.getD k 0);obtain⟨last,HLA⟩:=nmd (yo9 L k);rw[HID.X]at hc HLOW HNO HSTEP HLN;rw[HLA.X]at HLOW HSTEP;rw[HLA.X];clear hkl;obtain⟨c0,c1,c2,c3,c4⟩:=za7 P1.X;have HF:=z31 n fine id a ao av zs.length cap ko co kv cv os wr (HO.below B1.X) HLO.X hko
   go_wp2_with fail
   clear c0 c1 c2 c3 c4 hc;refine HF.mono ?_;clear HF;rintro e w2 ⟨rfl,hb⟩;have B2:Hid _:=B1.trans (hb.mono B1.size);have P2:=za4 (za0 hb (za2 P1.X) P1.X);clear hb B1 P1;generalize hZ:(w2.alloc (zd #[.int zb (zd0 os ko id 0),.int zb (zd0 os ko id 1),.int zb (zd0 os ko id 2),.int zb (zd0 os ko id 3),.int zb (zd0 os ko id 4),.int zb (zd0 os ko id 5)] 103))=W3;have BZ:Hid _:=hZ▸zK _;have B3:Hid _:=B2.trans (BZ.mono B2.size);have P3:Hid _:=za0 BZ.X (za2 P2.X) P2.X;by_cases hf:zm0 os ko id=true
   ·rw[hf]
    by_cases hv:last<id
    ·have HST:Hid _:=HSTEP.X hv hf
     have hv1:¬(id<=last):=by omega
     clear hf hv;go_wp2
     first
      |exact⟨⟨k+1,by omega,by go_num,by rw[HLN.X],HST.X,B3.X,P3.X⟩,by simp[intOf];omega⟩
      |(go_roundw
        case rel=>exact⟨k+1,by omega,by go_num,by rw[HLN.X],HST.X,B3.X,P3.X⟩
        case measure=>simp[intOf];omega)
    ·have HNOT:Hid _:=HLOW.X (by first|exact hv|omega)
     have hv1:id<=last:=by omega
     clear hv hf;go_wp2;go_ret;exact⟨by first|exact B3.X|exact hZ▸B3.X,.inr ⟨rfl,HNOT.X⟩⟩
   ·have hf2:zm0 os ko id=false:=by simpa using hf
    have HNOT:Hid _:=HNO.X hf2;rw[hf2];clear hf hf2;go_wp2;go_ret;exact⟨by first|exact B3.X|exact hZ▸B3.X,.inr ⟨rfl,HNOT.X⟩⟩
  ·have hkn:k=m:=by omega
   have HALL:Hid (zg4 os ko L m):=hkn▸OK.X;have HSR:=za4 (HS.below B1.X);clear hkn;obtain⟨c0,c1,c2,c3,c4⟩:=za7 P1.X;have hz:Hid (((s:Int)+(m:Int)==(ko:Int))=decide (s+m=ko)):=by
    show _=_;by_cases e:s+m=ko
    ·rw[zS e,<-e];simp
    ·rw[zU e];simp;omega
   by_cases he:s+m=ko
   ·have he1:((s:Int)+(m:Int)==(ko:Int))=true:=by rw[hz.X];exact zS he
    have he2:((ko:Int)==(ko:Int))=true:=by simp
    have HE:Hid _:=he;clear he
    go_wp2_with(first
     |(at_len;refine wpList_len_own _ rfl _ 146 rfl 2 216 Tryz.underlying146 (unitElem (H:=Unit)) B l.length (yo5 l) rfl HSR.X ?_;rw[HSZ.X])
     |go_in)
    go_ret;exact⟨B1.X,.inl ⟨by first|rfl|(rw[he1])|simp[he1],HALL.X,HE.X⟩⟩
   ·have he1:((s:Int)+(m:Int)==(ko:Int))=false:=by rw[hz.X];exact zU he
    have HE:=za4 he;clear he
    go_wp2_with(first
     |(at_len;refine wpList_len_own _ rfl _ 146 rfl 2 216 Tryz.underlying146 (unitElem (H:=Unit)) B l.length (yo5 l) rfl HSR.X ?_;rw[HSZ.X])
     |go_in)
    go_ret;exact⟨B1.X,.inr ⟨by first|rfl|(rw[he1])|simp[he1],fun h=>HE.X h.2⟩⟩
