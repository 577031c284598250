import Derived.Test.YtjobhigmdaiinaaGreatPack1
import Derived.Test.YtjobhigmdaiinaaGreatPack3
import Derived.Maps.OwnSet
import Derived.Maps.Range
namespace Go.Proofs.YtjobhigmdaiinaaGreat
open Go.RowKit Go.Maps
theorem yl8:Keyed Tryz.prog 2:=int_keyed Tryz.underlying2
theorem yt9(w:World):(zeroValue 173).run Tryz.prog w=.ok (.agg #[]) w:=by kernel_rfl
def zW0(l:List Int):DataW Unit:=setOf (.agg []) (l.map (Lit.int .i64))
theorem zL4(l:List Int)(x:Int):zW0 (l++[x])=(zW0 l).put (.int .i64 x) (.agg []):=by
 unfold zW0;rw[List.map_append];exact setOf_snoc _ _ _
theorem yg1(l:List Int):∀x∈l.map (Lit.int .i64),WideAt.IsKeyLit x:=fun y hy=>by obtain⟨_,_,rfl⟩:=List.mem_map.1 hy;trivial
theorem yg4(x:Int):∀l:List Int,(l.map (Lit.int .i64)).any (fun y=>y.sameKey (.int .i64 x))=decide (x∈l)
 |[]=>by simp
 |a::r=>by
  rw[List.map_cons,List.any_cons,yg4 x r];have:(Lit.int .i64 a).sameKey (.int .i64 x)=decide (a=x):=by
   show decide (IntKind.i64=IntKind.i64/\a=x)=decide (a=x);simp
  rw[this];by_cases e:a=x
  ·subst e;simp
  ·have e':¬x=a:=fun h=>e h.symm
   simp[e,e']
theorem zP9(l:List Int)(x:Int):Maps.has (zW0 l) (.int .i64 x)=decide (x∈l):=by
 unfold zW0;rw[has_setOf _ _ _ (yg1 l)];exact yg4 x l
theorem yd7(l:List Int)(x:Int)(h:x∉l):Maps.size (zW0 (l++[x]))=Maps.size (zW0 l)+1:=by
 rw[zL4,size_put (show Tidy (zW0 l)from tidy_setOf _ _ (yg1 l)),zP9,decide_eq_false h];rfl
theorem zH6:∀(n:Nat) (l:List Int),l.length=n->l.Nodup->Maps.size (zW0 l)=n
 |0,l,h,_=>by rw[List.eq_nil_of_length_eq_zero h];rfl
 |n+1,l,h,hd=>by
  have hne:l≠[]:=fun e=>by rw[e]at h;cases h
  have e:=List.dropLast_concat_getLast hne;rw[<-e]at hd;have hd2:=(zt5 _ _).1 hd;rw[<-e,yd7 _ _ hd2.2,zH6 n _ (by rw[List.length_dropLast];omega) hd2.1]
def zf9(w:World)(B:Nat)(l:List Int):Prop:=w.ownsMap Tryz.prog 2 (unitElem (H:=Unit)) B l.length (zW0 l)
theorem zf9.made(w:World):zf9 (w.alloc (.map #[] 0)) w.heap.size []:=World.ownsMap_made _ _ _ _
theorem zf9.below{w w':World}{B:Nat}{l:List Int}(h:zf9 w B l)(hb:Below w.heap.size w w'):zf9 w' B l:=by
 have hlt:=World.ownsMap.lt h;unfold zf9 World.ownsMap at*;rw[hb.block B hlt];exact h
set_option maxRecDepth 100000 in
set_option maxHeartbeats 400000 in
theorem zo7(B:Nat)(l:List Int)(id:Int)(w:World)(hS:zf9 w B l)(hid:(Lit.int .i64 id).wf=true):
 Calls Tryz.prog 113 #[.map (some B),.int .i64 id] w fun e w'=>e=.returned (.bool (decide (id∈l)))/\w'=w.alloc (.cells #[] 173):=by
 have hkey:keyOf Tryz.prog 2 (.int .i64 id)=some (.int .i64 id):=keyOf_int_mk Tryz.underlying2 hid;have HE:Hid _:=zP9 l id;obtain⟨r,HR⟩:=nmd (decide (id∈l));rw[HR.out]at HE⊢;have HS:Hid _:=hS;clear hS;go_enter Tryz.func113,Tryz.ntmps113
 go_wp2_with(first
  |(at_lookup;refine wpList_lookup_own_unit _ rfl _ _ 111 rfl 2 173 yl8 Tryz.underlying111 (yt9 _) B l.length (zW0 l) rfl HS.out _ _ rfl hkey ?_;rw[HE.out])
  |go_in)
 go_ret;exact⟨rfl,rfl⟩
set_option maxRecDepth 100000 in
set_option maxHeartbeats 400000 in
theorem zI8(B:Nat)(l:List Int)(id:Int)(w:World)(hS:zf9 w B l)(hid:(Lit.int .i64 id).wf=true)(hl:l.length<=1048576):
 Calls Tryz.prog 111 #[.map (some B),.int .i64 id] w fun e w'=>w.grownBy w' (some B)/\((id∈l/\e=.returned (.bool false))∨(id∉l/\e=.returned (.bool true)/\zf9 w' B (l++[id]))):=by
 have hkey:keyOf Tryz.prog 2 (.int .i64 id)=some (.int .i64 id):=keyOf_int_mk Tryz.underlying2 hid;have HS:Hid _:=hS;have HID:Hid _:=hid;clear hS hid;by_cases hm:id∈l
 ·have HM:Hid _:=hm
  have HF:Hid _:=decide_eq_true hm;clear hm;go_enter Tryz.func111,Tryz.ntmps111
  go_wp2_with(go_at_call 113;refine(zo7 B l id w HS.out HID.out).mono ?_;rintro e w1 ⟨rfl,rfl⟩;rw[HF.out])
  go_ret;exact⟨World.grownBy_alloc _ _ _,.inl ⟨HM.out,rfl⟩⟩
 ·have HM:Hid _:=hm
  have HF:Hid _:=decide_eq_false hm;clear hm;go_enter Tryz.func111,Tryz.ntmps111
  go_wp2_with(first
   |(go_at_call 113;refine(zo7 B l id w HS.out HID.out).mono ?_;rintro e w1 ⟨rfl,rfl⟩;rw[HF.out])
   |(at_mapUpdate;refine wpList_mapUpdate_own _ rfl _ _ _ 111 rfl 2 173 yl8 Tryz.underlying111 (unitElem (H:=Unit)) B l.length _ rfl (World.ownsMap.alloc HS.out _) (by unfold maxLen;omega) _ _ _ rfl rfl hkey _ [] unitElem_mk ?_;intro w1 hown1 hgrow1)
   |go_in)
  go_ret;refine⟨(World.grownBy_alloc _ _ _).trans (by assumption),.inr ⟨HM.out,rfl,?_⟩⟩;unfold zf9;rw[zL4,List.length_append];assumption
theorem zH0{w:World}{B:Nat}{l:List Int}(hS:zf9 w B l){p:Addr}{v:Value}(h:w.cell? p=some v):p.block≠B:=fun e=>by
 obtain⟨es,cl,hb,_⟩:=hS;unfold World.cell? at h;rw[e,hb]at h;cases h
theorem zy9{w w':World}{B:Nat}{l:List Int}(hS:zf9 w B l)(hg:w.grownBy w' (some B)){p:Addr}{v:Value}(h:w.cell? p=some v):w'.cell? p=some v:=
 hg.cell h (fun e=>zH0 hS h (by simpa using e))
theorem za0.grownM{w w':World}{B:Nat}{l:List Int}{a:Option Addr}{zs:List Int}(h:za0 w a zs)(hS:zf9 w B l)(hg:w.grownBy w' (Option.some B)):za0 w' a zs:=fun j hj=>by
 obtain⟨b,off,e,hc⟩:=h j hj;exact⟨b,off,e,zy9 hS hg hc⟩
theorem za6.grownM{w w':World}{B:Nat}{l:List Int}{ra:Option Addr}{R:List RT}(h:za6 w ra R)(hS:zf9 w B l)(hg:w.grownBy w' (some B)):za6 w' ra R:=fun j hj=>by
 obtain⟨b,off,e,h1,h2,h3⟩:=h j hj;exact⟨b,off,e,zy9 hS hg h1,zy9 hS hg h2,h3.grownM hS hg⟩
theorem zt6{w w':World}{B k:Nat}{l:List Int}{cs:Array Value}{T:TypeId}{q:Nat×Nat}(hS:zf9 w B l)(hg:w.grownBy w' (some B))(h:w.heap[k]? =some (.cells cs T q)):w'.heap[k]? =some (.cells cs T q):=by
 obtain⟨es,cl,hb,_⟩:=hS;rw[hg.block k (za3 h) (fun e=>by simp at e;rw[e,hb]at h;cases h)];exact h
set_option maxRecDepth 100000 in
set_option maxHeartbeats 400000 in
theorem zE5(ad:Option Addr)(c B:Nat)(L l:List Int)(w:World)(hI:za0 w ad L)(hS:zf9 w B l)(hL:L.length<=1048576)(hw:∀x∈L,(Lit.int .i64 x).wf=true):
 Calls Tryz.prog 106 #[.slice ad L.length c,.func (.func 113) #[.map (some B)] #[]] w fun e w'=>w.grownBy w' none/\((e=.returned (.int .i64 (-1))/\∀x∈L,x∉l)∨(∃k:Nat,e=.returned (.int .i64 k)/\¬∀x∈L,x∉l)):=by
 have HI:Hid _:=hI;have HS:Hid _:=hS;have HW:Hid _:=hw;clear hI hS hw;obtain⟨n,HN⟩:=nmd L.length;rw[HN.out]at hL⊢;go_enter Tryz.func106,Tryz.ntmps106
 go_wp2_with fail
 go_loopw[8] (fun t wr=>∃k:Nat,k<=n/\t=.int .i64 k/\(∀j,j<k->L.getD j 0∉l)/\w.grownBy wr none) (fun t _=>n - (intOf t).toNat)
 case atStart=>exact⟨0,Nat.zero_le _,rfl,fun j hj=>by omega,World.grownBy.refl _ _⟩
 case round=>
  obtain⟨k,hk,rfl,hno,hg⟩:=hrel;have HNO:Hid _:=hno;have HG:Hid _:=hg;clear hno hg;by_cases hlt:k<n
  ·have hkl:k<L.length:=by have:=HN.out;omega
   obtain⟨b,off,rfl,hc⟩:=HI.out k hkl;have ct:=HG.cell hc (by simp);have hx:L.getD k 0∈L:=by rw[List.getD_eq_getElem?_getD,List.getElem?_eq_getElem hkl];simp
   have HX:Hid _:=hx;have HWX:Hid _:=HW.out _ hx;have HSR:Hid (zf9 wr B l):=World.ownsMap.kept HS.out HG.out (by simp);clear hc hx hkl;obtain⟨id,HID⟩:=nmd (L.getD k 0);rw[HID.out]at ct HX HWX;by_cases hm:id∈l
   ·have HM:Hid _:=hm
    have HF:Hid _:=decide_eq_true hm;clear hm
    go_wp2_with(go_at_call 113;refine(zo7 B l id _ HSR.out HWX.out).mono ?_;rintro e w1 ⟨rfl,rfl⟩;rw[HF.out])
    go_ret;exact⟨HG.trans (World.grownBy_alloc _ _ _),.inr ⟨k,rfl,fun h=>h id HX.out HM.out⟩⟩
   ·have HF:Hid _:=decide_eq_false hm
    have HS1:Hid (∀j,j<k+1->L.getD j 0∉l):=fun j hj=>by
     by_cases e:j=k
     ·rw[e,HID.out];exact hm
     ·exact HNO.out j (by omega)
    clear hm
    go_wp2_with(go_at_call 113;refine(zo7 B l id _ HSR.out HWX.out).mono ?_;rintro e w1 ⟨rfl,rfl⟩;rw[HF.out])
    first
     |exact⟨⟨k+1,by omega,by go_num,HS1.out,HG.trans (World.grownBy_alloc _ _ _)⟩,by simp[intOf];omega⟩
     |(go_roundw
       case rel=>exact⟨k+1,by omega,by go_num,HS1.out,HG.trans (World.grownBy_alloc _ _ _)⟩
       case measure=>simp[intOf];omega)
  ·have hkn:k=n:=by omega
   have HALL:Hid (∀x∈L,x∉l):=fun x hx=>by
    obtain⟨j,hj,e⟩:=List.getElem_of_mem hx;have:=HNO.out j (by rw[hkn,<-HN.out];exact hj);rw[List.getD_eq_getElem?_getD,List.getElem?_eq_getElem hj]at this;rw[<-e];exact this
   clear hkn;go_wp2;go_ret;exact⟨HG.out,.inl ⟨rfl,HALL.out⟩⟩
set_option maxRecDepth 100000 in
theorem z17(ad:Option Addr)(c B:Nat)(L l:List Int)(w:World)(hI:za0 w ad L)(hS:zf9 w B l)(hL:L.length<=1048576)(hw:∀x∈L,(Lit.int .i64 x).wf=true):
 Calls Tryz.prog 112 #[.slice ad L.length c,.func (.func 113) #[.map (some B)] #[]] w fun e w'=>w.grownBy w' none/\((e=.returned (.bool false)/\∀x∈L,x∉l)∨(e=.returned (.bool true)/\¬∀x∈L,x∉l)):=by
 have HC:=zE5 ad c B L l w hI hS hL hw;clear hI hS hw;go_enter Tryz.func112,Tryz.ntmps112
 go_wp2_with fail
 refine HC.mono ?_;rintro e w1 ⟨hg,⟨rfl,h⟩|⟨k,rfl,h⟩⟩
 ·have HG:Hid _:=hg
  have H:Hid _:=h;clear hg h;go_wp2;go_ret;exact⟨HG.out,.inl ⟨rfl,H.out⟩⟩
 ·have HG:Hid _:=hg
  have H:Hid _:=h;clear hg h;have h0:(0:Int)<=(k:Int):=by omega
  go_wp2;go_ret;exact⟨HG.out,.inr ⟨by first|rfl|simp,H.out⟩⟩
theorem z01{R:List RT}:∀{k m:Nat},k<=m->m<=R.length->zb3 R k <+: zb3 R m
 |k,0,h,_=>by have:k=0:=by omega
              subst this;exact List.prefix_refl _
 |k,m+1,h,hm=>by
  by_cases e:k=m+1
  ·rw[e];exact List.prefix_refl _
  ·rw[zg3 (by omega)]
   exact(z01 (k:=k) (m:=m) (by omega) (by omega)).trans (List.prefix_append _ _)
theorem zw0{R:List RT}{k j:Nat}(hk:k<R.length):zb3 R k++(R.getD k rt0).ids.take j <+: zb3 R R.length:=by
 refine List.IsPrefix.trans ?_ (z01 (k:=k+1) (by omega) (Nat.le_refl _));rw[zg3 hk];exact(List.prefix_append_right_inj _).2 (List.take_prefix _ _)
theorem z75{R:List RT}{k j:Nat}(hj:j<(R.getD k rt0).ids.length):zb3 R k++(R.getD k rt0).ids.take (j+1)=(zb3 R k++(R.getD k rt0).ids.take j)++[(R.getD k rt0).ids.getD j 0]:=by
 rw[ze2 _ _ hj,List.append_assoc]
theorem yh4{R:List RT}{k j:Nat}(hk:k<R.length)(hj:j<(R.getD k rt0).ids.length):(R.getD k rt0).ids.getD j 0∈zb3 R R.length:=by
 have:=(zw0 (R:=R) (j:=j+1) hk).sublist.subset;rw[z75 hj]at this;exact this (by simp)
theorem zU6{R:List RT}{k j:Nat}(hk:k<R.length)(hj:j<(R.getD k rt0).ids.length)(h:(R.getD k rt0).ids.getD j 0∈zb3 R k++(R.getD k rt0).ids.take j)(L:List Int):¬zL8 (zb3 R R.length) L:=fun ho=>by
 have:=ho.1.sublist (zw0 (R:=R) (j:=j+1) hk).sublist;rw[z75 hj]at this;exact((zt5 _ _).1 this).2 h
theorem yj3{R:List RT}{k:Nat}(hk:k<R.length):zb3 R k++(R.getD k rt0).ids.take (R.getD k rt0).ids.length=zb3 R (k+1):=by
 rw[List.take_length,zg3 hk]
set_option maxRecDepth 100000 in
set_option maxHeartbeats 2000000 in
theorem zF8(B:Nat)(ra la:Option Addr)(rc lc:Nat)(R:List RT)(L:List Int)(w:World)(hA:za6 w ra R)(hL:za0 w la L)(hS:zf9 w B [])(hn:R.length<=1048576)(hi:∀r∈R,r.ids.length<=1048576)(hll:L.length<=1048576)(hal:(zb3 R R.length).length<=1048576)(hwa:∀x∈zb3 R R.length,(Lit.int .i64 x).wf=true)(hwl:∀x∈L,(Lit.int .i64 x).wf=true):
 Calls Tryz.prog 75 #[.map (some B),.agg #[.slice ra R.length rc,.slice la L.length lc]] w fun e w'=>w.grownBy w' (some B)/\((e=.returned (.bool true)/\zL8 (zb3 R R.length) L/\zf9 w' B (zb3 R R.length))∨(e=.returned (.bool false)/\¬zL8 (zb3 R R.length) L)):=by
 have HA:Hid (za6 w ra R):=hA;have HL:Hid (za0 w la L):=hL;have HS:Hid (zf9 w B []):=hS;have HI:Hid _:=hi;have HWA:Hid _:=hwa;have HWL:Hid _:=hwl;have HAL:Hid _:=hal;have HLL:Hid _:=hll;clear hA hL hS hi hwa hwl hal hll;obtain⟨n,HN⟩:=nmd R.length;obtain⟨m,HM⟩:=nmd L.length;rw[HN.out]at hn⊢;rw[HM.out];have hnn:=HN.out;have G0:Hid ((w.alloc (.cells #[.slice ra n rc,.slice la m lc] 33)).heap[w.heap.size]? =_):=heap_alloc_new _ _;have B0:Hid (w.grownBy (w.alloc (.cells #[.slice ra n rc,.slice la m lc] 33)) (some B)):=World.grownBy_alloc _ _ _;have S0:Hid (zf9 (w.alloc (.cells #[.slice ra n rc,.slice la m lc] 33)) B []):=World.ownsMap.alloc HS.out _;go_enter Tryz.func75,Tryz.ntmps75;obtain⟨c0,c1⟩:=za2 G0.out
 go_wp2_with fail
 clear c0 c1;generalize(w.alloc (.cells #[.slice ra n rc,.slice la m lc] 33))=W0 at*;go_loopw[12] (fun t wr=>∃k:Nat,k<=n/\t=.int .i64 k/\w.grownBy wr (some B)/\zf9 wr B (zb3 R k)/\(zb3 R k).Nodup/\wr.heap[w.heap.size]? =some (.cells #[.slice ra n rc,.slice la m lc] 33 (0,0))) (fun t _=>n - (intOf t).toNat)
 case atStart=>exact⟨0,Nat.zero_le _,rfl,B0.out,by rw[zl6];exact S0.out,by rw[zl6];exact List.nodup_nil,G0.out⟩
 case round=>
  clear B0 S0 G0;obtain⟨k,hk,rfl,hg,hs,hd,hp⟩:=hrel;have BG:Hid _:=hg;have SR:Hid (zf9 wr B (zb3 R k)):=hs;have DR:Hid ((zb3 R k).Nodup):=hd;have PR:Hid (wr.heap[w.heap.size]? =_):=hp;clear hg hs hd hp;by_cases hlt:k<n
  ·have hkl:k<R.length:=by omega
   obtain⟨b,off,rfl,h1,h2,h3⟩:=(HA.grownM HS.out BG.out) k hkl;have hml:(R.getD k rt0).ids.length<=1048576:=HI.out _ (by rw[List.getD_eq_getElem?_getD,List.getElem?_eq_getElem hkl];simp);obtain⟨r,HRT⟩:=nmd (R.getD k rt0);rw[HRT.out]at h1 h2 h3 hml;have IR:Hid (za0 wr r.a r.ids):=h3;clear h3;obtain⟨q,HQ⟩:=nmd r.ids.length;rw[HQ.out]at h2 hml;have hq:=HQ.out
   go_wp2_with fail
   clear h1 h2;generalize hZ:(wr.alloc (.cells #[Value.int .i64 r.v,Value.slice r.a q r.c] 43))=W1 at*;have BG1:Hid _:=hZ▸BG.trans (World.grownBy_alloc _ _ _);have IR1:Hid (za0 W1 r.a r.ids):=hZ▸IR.below ((Below.refl _ _).alloc (Nat.le_refl _) _);have SR1:Hid (zf9 W1 B (zb3 R k)):=hZ▸World.ownsMap.alloc SR.out _;have PR1:Hid _:=hZ▸(zt6 SR.out (World.grownBy_alloc _ _ _) PR.out);clear hZ BG IR SR PR;go_loopw[19] (fun t wr=>∃j:Nat,j<=q/\t=.int .i64 j/\W1.grownBy wr (some B)/\zf9 wr B (zb3 R k++r.ids.take j)/\(zb3 R k++r.ids.take j).Nodup) (fun t _=>q - (intOf t).toNat)
   case atStart=>exact⟨0,Nat.zero_le _,rfl,World.grownBy.refl _ _,by rw[List.take_zero,List.append_nil];exact SR1.out,by rw[List.take_zero,List.append_nil];exact DR.out⟩
   case round=>
    obtain⟨j,hj,rfl,hg,hs,hd⟩:=hrel;have BG2:Hid _:=hg;have SR2:Hid (zf9 wr B (zb3 R k++r.ids.take j)):=hs;have DR2:Hid ((zb3 R k++r.ids.take j).Nodup):=hd;clear hg hs hd;by_cases hjq:j<q
    ·have hjl:j<r.ids.length:=by omega
     obtain⟨b2,off2,ea,hc⟩:=(IR1.grownM SR1.out BG2.out) j hjl;have HE:Hid _:=ea;have hjR:j<(R.getD k rt0).ids.length:=by rw[HRT.out];exact hjl
     have HMEM:Hid (r.ids.getD j 0∈zb3 R R.length):=by have:=yh4 hkl hjR;rw[HRT.out]at this;exact this
     have HPRE:Hid ((zb3 R k++r.ids.take j).length<=1048576):=by
      have:=(zw0 (R:=R) (j:=j) hkl).length_le;rw[HRT.out]at this;have h2:=HAL.out;show _<=_;omega
     have HTW:Hid _:=fun h=>zU6 hkl hjR (by rw[HRT.out];exact h) L
     have HSN:Hid (zb3 R k++r.ids.take (j+1)=(zb3 R k++r.ids.take j)++[r.ids.getD j 0]):=by have:=z75 (R:=R) (k:=k) hjR;rw[HRT.out]at this;exact this
     clear ea hjl hjR;obtain⟨id,HID⟩:=nmd (r.ids.getD j 0);rw[HID.out]at hc HMEM HTW HSN;have ea:=HE.out
     go_wp2_with(go_at_call 111;refine(zI8 B _ id _ SR2.out (HWA.out _ HMEM.out) HPRE.out).mono ?_)
     clear ea;rintro e w2 ⟨hg,⟨hin,rfl⟩|⟨hin,rfl,hs2⟩⟩
     ·have BG3:Hid _:=(BG1.trans BG2.out).trans hg
      have HNOT:Hid _:=HTW.out hin;clear hg hin hc;go_wp2;go_ret;exact⟨BG3.out,.inr ⟨rfl,HN.out▸HNOT.out⟩⟩
     ·have BG3:Hid _:=BG2.trans hg
      have SR3:Hid (zf9 w2 B (zb3 R k++r.ids.take (j+1))):=by rw[HSN.out];exact hs2
      have DR3:Hid ((zb3 R k++r.ids.take (j+1)).Nodup):=by rw[HSN.out];exact(zt5 _ _).2 ⟨DR2.out,hin⟩
      clear hg hs2 hin hc;go_wp2
      first
       |exact⟨⟨j+1,by omega,by go_num,BG3.out,SR3.out,DR3.out⟩,by simp[intOf];omega⟩
       |(go_roundw
         case rel=>exact⟨j+1,by omega,by go_num,BG3.out,SR3.out,DR3.out⟩
         case measure=>simp[intOf];omega)
    ·have hjq2:j=q:=by omega
     have HA2:Hid (zb3 R k++r.ids.take j=zb3 R (k+1)):=by
      have:=yj3 (R:=R) hkl;rw[HRT.out,HQ.out]at this;rw[hjq2];exact this
     have SR3:Hid (zf9 wr B (zb3 R (k+1))):=HA2.out▸SR2.out;have DR3:Hid ((zb3 R (k+1)).Nodup):=HA2.out▸DR2.out;have BG3:Hid _:=BG1.trans BG2.out;have PR3:Hid _:=zt6 SR1.out BG2.out PR1.out;clear hjq2;go_wp2
     first
      |exact⟨⟨k+1,by omega,by go_num,BG3.out,SR3.out,DR3.out,PR3.out⟩,by simp[intOf];omega⟩
      |(go_roundw
        case rel=>exact⟨k+1,by omega,by go_num,BG3.out,SR3.out,DR3.out,PR3.out⟩
        case measure=>simp[intOf];omega)
  ·have hkn:k=n:=by omega
   have SR3:Hid (zf9 wr B (zb3 R n)):=hkn▸SR.out;have DR3:Hid ((zb3 R n).Nodup):=hkn▸DR.out;obtain⟨c0,c1⟩:=za2 PR.out;clear hkn;have HC:=z17 la lc B L _ wr (HL.grownM HS.out BG.out) SR3.out HLL.out HWL.out;rw[HM.out]at HC
   go_wp2_with(go_at_call 112;refine HC.mono ?_)
   clear c0 c1;rintro e w2 ⟨hg,⟨rfl,hin⟩|⟨rfl,hin⟩⟩
   ·have BG3:Hid _:=BG.trans ⟨hg.os,hg.tape,hg.output,hg.size,fun i hi _=>hg.block i hi (by simp)⟩
    have SR4:Hid (zf9 w2 B (zb3 R n)):=World.ownsMap.kept SR3.out hg (by simp);have HIN:Hid _:=hin;clear hg hin;go_wp2;go_ret;exact⟨BG3.out,.inl ⟨rfl,⟨DR3.out,HIN.out⟩,SR4.out⟩⟩
   ·have BG3:Hid _:=BG.trans ⟨hg.os,hg.tape,hg.output,hg.size,fun i hi _=>hg.block i hi (by simp)⟩
    have HIN:Hid _:=hin;clear hg hin;go_wp2;go_ret;exact⟨BG3.out,.inr ⟨rfl,fun h=>HIN.out h.2⟩⟩
theorem yk7{n:Int}{zs os vs:List Int}{ko kv:Nat}{fine:Int}{L:List Int}{k m:Nat}(hc:zb8 n zs os vs ko kv fine=true)(hk:k<m)(h:¬zX1 L k<L.getD k 0):¬ze3 os ko L m:=fun H=>
 h ((zR5 hc (H k hk).1).1 (H k hk).2)
set_option maxRecDepth 100000 in
set_option maxHeartbeats 2000000 in
theorem zT9(n fine:Int)(a ao av la:Option Addr)(cap ko co kv cv lc B:Nat)(zs os vs L l:List Int)(w:World)(hO:za0 w ao os)(hL:za0 w la L)(hS:zf9 w B l)(hd:l.Nodup)(hlo:os.length=ko*6)(hko:ko<=9223372036854775807)(hll:L.length<=1048576)(hsl:l.length<=1048576)(hcB:zb8 n zs os vs ko kv fine=true):
 Calls Tryz.prog 76 #[.agg #[.int .i64 n,.slice a zs.length cap,.slice ao ko co,.slice av kv cv,.int .i64 fine],.map (some B),.slice la L.length lc] w fun e w'=>Below w.heap.size w w'/\((e=.returned (.bool true)/\ze3 os ko L L.length/\l.length+L.length=ko)∨(e=.returned (.bool false)/\¬(ze3 os ko L L.length/\l.length+L.length=ko))):=by
 have HO:Hid (za0 w ao os):=hO;have HL:Hid (za0 w la L):=hL;have HS:Hid (zf9 w B l):=hS;have HSZ:Hid _:=zH6 _ l rfl hd;have HLO:Hid _:=hlo;have HC:Hid _:=hcB;clear hO hL hS hd hlo hcB;obtain⟨m,HN⟩:=nmd L.length;rw[HN.out]at hll⊢;have hnn:=HN.out;obtain⟨s,HSL⟩:=nmd l.length;rw[HSL.out]at hsl HSZ⊢;have B0:Hid (Below w.heap.size w (w.alloc (.cells #[.int .i64 n,.slice a zs.length cap,.slice ao ko co,.slice av kv cv,.int .i64 fine] 30))):=(Below.refl _ _).alloc (Nat.le_refl _) _;have G0:Hid ((w.alloc (.cells #[.int .i64 n,.slice a zs.length cap,.slice ao ko co,.slice av kv cv,.int .i64 fine] 30)).heap[w.heap.size]? =_):=heap_alloc_new _ _;go_enter Tryz.func76,Tryz.ntmps76
 go_wp2_with fail
 generalize(w.alloc (.cells #[.int .i64 n,.slice a zs.length cap,.slice ao ko co,.slice av kv cv,.int .i64 fine] 30))=W0 at*;go_loopw[7,14] (fun tl t wr=>∃k:Nat,k<=m/\t=.int .i64 k/\tl=.int .i64 (zX1 L k)/\ze3 os ko L k/\Below w.heap.size w wr/\wr.heap[w.heap.size]? =some (.cells #[.int .i64 n,.slice a zs.length cap,.slice ao ko co,.slice av kv cv,.int .i64 fine] 30 (0,0))) (fun _ t _=>m - (intOf t).toNat)
 case atStart=>exact⟨0,Nat.zero_le _,rfl,rfl,ze3.zero _ _ _,B0.out,G0.out⟩
 case round=>
  clear B0 G0;obtain⟨k,hk,rfl,rfl,hok,hb,hp⟩:=hrel;have OK:Hid (ze3 os ko L k):=hok;have B1:Hid _:=hb;have P1:Hid (wr.heap[w.heap.size]? =_):=hp;clear hok hb hp;by_cases hlt:k<m
  ·have hkl:k<L.length:=by omega
   obtain⟨b,off,rfl,hc⟩:=(HL.below B1.out) k hkl;have HLOW:Hid (¬zX1 L k<L.getD k 0->¬(ze3 os ko L m/\s+m=ko)):=fun h H=>yk7 HC.out hlt h H.1;have HNO:Hid (zi8 os ko (L.getD k 0)=false->¬(ze3 os ko L m/\s+m=ko)):=fun h H=>by rw[(H.1 k hlt).1]at h;cases h
   have HSTEP:Hid _:=fun h1 h2=>OK.step h2 ((zR5 HC.out h2).2 h1);have HLN:Hid (zX1 L (k+1)=L.getD k 0):=rfl;obtain⟨id,HID⟩:=nmd (L.getD k 0);obtain⟨last,HLA⟩:=nmd (zX1 L k);rw[HID.out]at hc HLOW HNO HSTEP HLN;rw[HLA.out]at HLOW HSTEP;rw[HLA.out];clear hkl;obtain⟨c0,c1,c2,c3,c4⟩:=za8 P1.out;have HF:=zw3 n fine id a ao av zs.length cap ko co kv cv os wr (HO.below B1.out) HLO.out hko
   go_wp2_with fail
   clear c0 c1 c2 c3 c4 hc;refine HF.mono ?_;clear HF;rintro e w2 ⟨rfl,hb⟩;have B2:Hid _:=B1.trans (hb.mono B1.size);have P2:Hid (w2.heap[w.heap.size]? =_):=za1 hb (za3 P1.out) P1.out;clear hb B1 P1;generalize hZ:(w2.alloc (.cells #[.int .i64 (zc3 os ko id 0),.int .i64 (zc3 os ko id 1),.int .i64 (zc3 os ko id 2),.int .i64 (zc3 os ko id 3),.int .i64 (zc3 os ko id 4),.int .i64 (zc3 os ko id 5)] 95))=W3;have BZ:Hid _:=hZ▸(Below.refl _ _).alloc (Nat.le_refl _) _;have B3:Hid _:=B2.trans (BZ.mono B2.size);have P3:Hid _:=za1 BZ.out (za3 P2.out) P2.out;by_cases hf:zi8 os ko id=true
   ·rw[hf]
    by_cases hv:last<id
    ·have HST:Hid _:=HSTEP.out hv hf
     have hv1:¬(id<=last):=by omega
     clear hf hv;go_wp2
     first
      |exact⟨⟨k+1,by omega,by go_num,by rw[HLN.out],HST.out,B3.out,P3.out⟩,by simp[intOf];omega⟩
      |(go_roundw
        case rel=>exact⟨k+1,by omega,by go_num,by rw[HLN.out],HST.out,B3.out,P3.out⟩
        case measure=>simp[intOf];omega)
    ·have HNOT:Hid _:=HLOW.out (by first|exact hv|omega)
     have hv1:id<=last:=by omega
     clear hv hf;go_wp2;go_ret;exact⟨by first|exact B3.out|exact hZ▸B3.out,.inr ⟨rfl,HNOT.out⟩⟩
   ·have hf2:zi8 os ko id=false:=by simpa using hf
    have HNOT:Hid _:=HNO.out hf2;rw[hf2];clear hf hf2;go_wp2;go_ret;exact⟨by first|exact B3.out|exact hZ▸B3.out,.inr ⟨rfl,HNOT.out⟩⟩
  ·have hkn:k=m:=by omega
   have HALL:Hid (ze3 os ko L m):=hkn▸OK.out;have HSR:Hid (zf9 wr B l):=HS.below B1.out;clear hkn;obtain⟨c0,c1,c2,c3,c4⟩:=za8 P1.out;have hz:Hid (((s:Int)+(m:Int)==(ko:Int))=decide (s+m=ko)):=by
    show _=_;by_cases e:s+m=ko
    ·rw[decide_eq_true e,<-e];simp
    ·rw[decide_eq_false e];simp;omega
   by_cases he:s+m=ko
   ·have he1:((s:Int)+(m:Int)==(ko:Int))=true:=by rw[hz.out];exact decide_eq_true he
    have he2:((ko:Int)==(ko:Int))=true:=by simp
    have HE:Hid _:=he;clear he
    go_wp2_with(first
     |(at_len;refine wpList_len_own _ rfl _ 111 rfl 2 173 Tryz.underlying111 (unitElem (H:=Unit)) B l.length (zW0 l) rfl HSR.out ?_;rw[HSZ.out])
     |go_in)
    go_ret;exact⟨B1.out,.inl ⟨by first|rfl|(rw[he1])|simp[he1],HALL.out,HE.out⟩⟩
   ·have he1:((s:Int)+(m:Int)==(ko:Int))=false:=by rw[hz.out];exact decide_eq_false he
    have HE:Hid (¬s+m=ko):=he;clear he
    go_wp2_with(first
     |(at_len;refine wpList_len_own _ rfl _ 111 rfl 2 173 Tryz.underlying111 (unitElem (H:=Unit)) B l.length (zW0 l) rfl HSR.out ?_;rw[HSZ.out])
     |go_in)
    go_ret;exact⟨B1.out,.inr ⟨by first|rfl|(rw[he1])|simp[he1],fun h=>HE.out h.2⟩⟩
end Go.Proofs.YtjobhigmdaiinaaGreat
