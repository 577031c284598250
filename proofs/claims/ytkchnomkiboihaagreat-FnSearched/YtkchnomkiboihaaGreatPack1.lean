import Derived.Test.YtkchnomkiboihaaGreatPack0
import Derived.Test.YtkchnomkiboihaaGreatRows
import Derived.WalkLawsBesides
import Derived.BigQuiet
import Derived.Deep.RegionHeld3
set_option linter.unusedSimpArgs false
set_option maxHeartbeats 2000000
namespace Go.Proofs.YtkchnomkiboihaaGreat
open Q
theorem yZ:type_of% @Go.frozen_of_row:=@Go.frozen_of_row
theorem y5:type_of% @Go.RowKit.Below.refl:=@Go.RowKit.Below.refl
theorem y8:type_of% @Nat.ne_of_lt:=@Nat.ne_of_lt
theorem xb:type_of% @Go.heap_setCell_same:=@Go.heap_setCell_same
theorem xe:type_of% @Go.bodyPost_ret:=@Go.bodyPost_ret
theorem xg:type_of% @Go.heap_alloc_old:=@Go.heap_alloc_old
theorem xh:type_of% @Go.heap_alloc2_new:=@Go.heap_alloc2_new
theorem xi:type_of% @Nat.zero_le:=@Nat.zero_le
theorem xj:type_of% @Nat.le_trans:=@Nat.le_trans
theorem xm:type_of% @Go.heap_alloc2_old:=@Go.heap_alloc2_old
theorem xp:type_of% @Int.eq_ofNat_of_zero_le:=@Int.eq_ofNat_of_zero_le
theorem xq:type_of% @Go.RowKit.Below.setCell:=@Go.RowKit.Below.setCell
theorem xr:type_of% @And.intro:=@And.intro
theorem xu:type_of% @Go.IntKind.wrap_i64:=@Go.IntKind.wrap_i64
theorem xw:type_of% @Nat.lt_of_lt_of_le:=@Nat.lt_of_lt_of_le
theorem xy:type_of% @Go.heap_setCell_other:=@Go.heap_setCell_other
theorem xz:type_of% @Go.IntWalk.i64_in:=@Go.IntWalk.i64_in
theorem xA:type_of% @Go.wpQuiet_nil:=@Go.wpQuiet_nil
theorem xB:type_of% @Go.IntWalk.wrap64_in:=@Go.IntWalk.wrap64_in
theorem xC:type_of% @Go.below_drewN:=@Go.below_drewN
theorem xD:type_of% @Int.natCast_mul:=@Int.natCast_mul
theorem xE:type_of% @List.eq_nil_of_length_eq_zero:=@List.eq_nil_of_length_eq_zero
theorem xF:type_of% @List.take_of_length_le:=@List.take_of_length_le
theorem xG:type_of% @Go.RowKit.Below.alloc:=@Go.RowKit.Below.alloc
theorem xH:type_of% @List.map_cons:=@List.map_cons
theorem xI:type_of% @Go.run_underlying:=@Go.run_underlying
theorem xJ:type_of% @Go.wpList_store_row:=@Go.wpList_store_row
theorem xK:type_of% @List.map_nil:=@List.map_nil
end Go.Proofs.YtkchnomkiboihaaGreat
namespace Go.Proofs.YtkchnomkiboihaaGreat
open RowKit renaming Below→Za,Hid→Zb
open Go renaming Calls→Zc,Addr→Zd
open Value renaming slice→za,int→ze
open IntKind renaming i64→zd
open Obj renaming cells→zg
open Proofs.Tryz renaming prog→zh
open Go renaming World→zi
open World renaming setCell→zj
open List renaming range→zt
open Builtin renaming append_→zu
open Go.RowKit
open Q
theorem hdn{p:Prop}(h:p):Zb p:=h
theorem za1{w:zi}{k:Nat}{c0 c1:Value}{T:TypeId}(r:w.heap[k]? =some (zg #[c0,c1] T (0,0))):
 w.cell? ⟨k,0,none⟩=some c0/\w.cell? ⟨k,1,none⟩=some c1:=by
 refine⟨?_,?_⟩
 ·rw[zU _ _ 0 _ _ _ r];simp
 ·rw[zU _ _ 1 _ _ _ r];simp
def Kin(wr:zi):Type:={x:zi // Za wr.heap.size wr x}
def Kin.w{wr:zi}(s:Kin wr):zi:=s.1
theorem Kin.there(wr:zi):Nonempty (Kin wr):=⟨⟨wr,y5 _ _⟩⟩
theorem Kin.below{wr:zi}(s:Kin wr):Za wr.heap.size wr s.w:=s.2
theorem Kin.cell{wr:zi}(s:Kin wr){b o:Nat}{v:Value}(h:wr.cell? ⟨b,o,none⟩=some v):s.w.cell? ⟨b,o,none⟩=some v:=by
 rw[s.below.cell (p:=⟨b,o,none⟩) (zV h)];exact h
theorem zb1{P:Program}{id:Nat}{Q:Exit->Act->zi->Prop}{a:Act}{w:zi}{l:List Oper}(hm:P.follows .mixedOrders=true)(hB:Region.lexB .any l.toArray=true)
 (h:wpQuiet P l.toArray (fun w'=>∃s:Kin w,w'=s.w) (fun a'=>∀w',(∃s:Kin w,w'=s.w)->Q .normal a' w') l a):(Code.region id l.toArray true).wp P Q a w:=
 wp_region_quiet (C:=fun w'=>∃s:Kin w,w'=s.w) hm hB ⟨⟨_,(y5 _ _).drew⟩,rfl⟩ (by simpa using h)
theorem Kin.call{P:Program}{f:FuncId}{args:Array Value}{wr:zi}{s:Kin wr}{v:Value}
 (h:Zc P f args s.w fun e w'=>e=.returned v/\Za s.w.heap.size s.w w'):Zc P f args s.w fun e Hc=>e=.returned v/\∃s':Kin wr,Hc=s'.w:=
 h.mono fun _ w' ⟨he,hb⟩=>⟨he,⟨w',s.below.trans (hb.mono s.below.size)⟩,rfl⟩
theorem Kin.call_same{P:Program}{f:FuncId}{args:Array Value}{wr:zi}{s:Kin wr}{v:Value}
 (h:Zc P f args s.w fun e w'=>e=.returned v/\w'=s.w):Zc P f args s.w fun e Hc=>e=.returned v/\∃s':Kin wr,Hc=s'.w:=
 h.mono fun _ _ ⟨he,hb⟩=>⟨he,s,hb⟩
theorem Tryz.info2:(Tryz.prog.info? 2).map (fun i=>(i.zero,i.size,i.bytes))=some (some (ze zd 0),1,8):=by kernel_rfl
theorem zI0{w w':zi}{base size n:Nat}{e:TypeId}{v:Value}{xs:List Value}(h:w.ownsRow base e size v n xs)(hb:Za w.heap.size w w'):w'.ownsRow base e size v n xs:=by
 obtain⟨h1,h2|⟨g,ac,az,h2,h3,h4,h5⟩⟩:=h
 ·exact⟨h1,.inl h2⟩
 ·exact⟨h1,.inr ⟨g,ac,az,h2,h3,za0 hb (za2 h4) h4,h5⟩⟩
theorem yc3{w:zi}{base b0 k:Nat}{v:Value}{e:TypeId}{size:Nat}{xs:List Value}(h:w.ownsRow base e size v k xs)(hb:b0<=base):w.ownsRow b0 e size v k xs:=by
 obtain⟨h0,h1|⟨g,ac,az,h2,h3,h4⟩⟩:=h
 ·exact⟨h0,.inl h1⟩
 ·exact⟨h0,.inr ⟨g,ac,az,h2,xj hb h3,h4⟩⟩
theorem zy6{w:zi}{base k g c:Nat}{e:TypeId}{size:Nat}{xs:List Value}(h:w.ownsRow base e size (za (some ⟨g,0,none⟩) k c) k xs):k<=c:=by
 obtain⟨_,⟨h1,_⟩|⟨g',ac,az,h2,_,_,h3,_⟩⟩:=h
 ·cases h1
 ·injection h2 with e1 e2 e3
  omega
theorem zM2{P:Program}(w:zi)(base:Nat)(t ty e:TypeId)(i:TypeInfo)(z:Value)(size bytes:Nat)(ht:P.underlying t=some (.slice e))(hi:P.info? e=some i)(hz:i.zero=some z)
 (mF:i.size=size) (Bk:i.bytes=bytes) (v:Value) (n:Nat) (xs:List Value) (ae:w.ownsRow base e size v n xs)
 (a:Zd) (m c:Nat) (bP:List Value) (hl:bP.length=m*size) (bN:∀j u,bP[j]? =some u->w.cell? (a.add j)=some u) (h1:∀u∈bP,u.oneCell'=true)
 (v7:n+m<=maxLen) (cH:(n+m)*bytes<=140737488355328) {v':Value} {w':zi} (aQ:(zu #[t,t] ty #[v,za (some a) m c]).run P w=.ok v' w'):v'.ownBlock=v.ownBlock∨v'.ownBlock=some w.heap.size:=by
 subst mF;subst Bk;have sL:n+m<=9223372036854775807:=by simp only[maxLen]at v7;omega
 rcases ae.2 with⟨rfl,rfl⟩|⟨g,ac,az,rfl,dW,hg,jE,iF,aJ,htake⟩
 ·by_cases hm:m=0
  ·subst hm
   have hn:bP=[]:=xE (by simpa using hl);subst hn;simp[zu,xI ht,sizeOf,typeInfo,hi,Builtin.lenOf,Builtin.firstCells,loadCells,loadCellsFrom]at aQ;rw[<-aQ.1];exact .inl rfl
  ·have hr:=run_append_nil (P:=P) w t ty e i z ht hi hz a m c bP hl bN (by omega) (by omega) (by have hb:=cH;simp only[yb]at hb;omega)
   rw[hr]at aQ
   injection aQ with e1 e2
   rw[<-e1];exact .inr rfl
 ·by_cases bE:n+m<=ac
  ·have t_:n*i.size+bP.length<=az.size:=by rw[hl,aJ,<-yT];exact yK _ bE
   have hr:=run_append_room (P:=P) w t ty e i ht hi g n ac az hg a m c bP hl bN h1 bE t_;rw[hr]at aQ
   injection aQ with e1 e2
   rw[<-e1];exact .inl rfl
  ·have m3:=ae.cells (g:=g) rfl
   have hr:=run_append_grow (P:=P) w t ty e i z ht hi hz ⟨g,0,none⟩ n ac xs ae.1 m3 a m c bP hl bN (by omega) (by omega) (growslice_fits (by omega) cH);rw[hr]at aQ
   injection aQ with e1 e2
   rw[<-e1];exact .inr rfl
theorem y77{P:Program}{o:Oper}{a:Act}{w w':zi}{v:Value}(s x:Operand)(t:TypeId)(vs vx:Value)(ho:o.op=.call {callee:=.builtin .append,args:=#[s,x],argTypes:=#[t,t]})
 (hs:a.eval s=vs) (hx:a.eval x=vx) (hr:(zu #[t,t] o.type #[vs,vx]).run P w=.ok v w'):(execOp a.eval o).run P w=.ok (.value v) w':=by
 unfold execOp;simp only[ho,resolve,invoke,builtin,Sem.run_bind,Sem.run_pure,Result.andThen_ok,List.map_toArray,xH,xK,hs,hx,hr]
theorem zh0{w:zi}{base n g c k size m:Nat}{e:TypeId}{xs:List Value}{x:Value}(h:w.ownsRow base e size (za (some ⟨g,0,none⟩) m c) n xs)(hk:xs[k]? =some x):w.cell? ⟨g,k,none⟩=some x/\w.frozen? ⟨g,k,none⟩=false:=by
 refine⟨?_,?_⟩
 ·have:=h.cells (g:=g) rfl k x hk
  have dI:(⟨g,0,none⟩:Zd).add k=⟨g,k,none⟩:=by unfold Addr.add;split<;>simp_all
  rw[dI]at this;exact this
 ·obtain⟨h0,⟨h1,_⟩|⟨g',ac,az,h2,h3,h4,h5⟩⟩:=h
  ·cases h1
  ·simp at h2
   obtain⟨rfl,rfl,rfl⟩:=h2;exact yZ _ _ k _ _ h4
theorem own_kinds{w:zi}{base n size:Nat}{e:TypeId}{v:Value}{xs:List Value}(h:w.ownsRow base e size v n xs):(v=za none 0 0/\n=0)∨∃g c,v=za (some ⟨g,0,none⟩) n c/\base<=g/\g<w.heap.size:=by
 obtain⟨_,⟨h1,h2⟩|⟨g,ac,az,h2,h3,h4,_⟩⟩:=h
 ·exact .inl ⟨h1,h2⟩
 ·exact .inr ⟨g,ac,h2,h3,za2 h4⟩
theorem zb3(W:zi)(g i:Nat)(v:Value):W.grownBy (W.setCell ⟨g,i,none⟩ v) (some g):=
 ⟨rfl,rfl,rfl,by simp[zj],fun b _ aq=>xy W ⟨g,i,none⟩ b v (fun e=>aq (by rw[e]))⟩
theorem zb4{w w1 w2:zi}{g:Nat}(h1:w.grownBy w1 (some g))(h2:w1.grownBy w2 (some g)):w.grownBy w2 (some g):=
 ⟨h2.os.trans h1.os,h2.tape.trans h1.tape,h2.output.trans h1.output,xj h1.size h2.size,fun b hb aq=>(h2.block b (xw hb h1.size) aq).trans (h1.block b hb aq)⟩
theorem zt1(w:zi)(g:Nat):w.grownBy w (some g):=⟨rfl,rfl,rfl,zT _,fun _ _ _=>rfl⟩
theorem zW9{zs:List Int}{id:Int}{k:Nat}(h:∀j,j<k->og6 zs j 0≠id)(hk:og6 zs k 0≠id):∀j,j<k+1->og6 zs j 0≠id:=by
 intro j hj;by_cases e:j=k
 ·rw[e];exact hk
 ·exact h j (by omega)
theorem zr6(n fine id:Int)(a ao av:Option Zd)(lt ac ko co kv cv:Nat)(zs:List Int)(w:zi)(hA:za3 w ao zs)(hl:zs.length=ko*6)(aL:ko<=9223372036854775807):
 Zc zh 88 #[.agg #[ze zd n,za a lt ac,za ao ko co,za av kv cv,ze zd fine],ze zd id] w fun e w'=>e=.returned (.tuple #[.agg #[ze zd (zd1 zs ko id 0),ze zd (zd1 zs ko id 1),ze zd (zd1 zs ko id 2),ze zd (zd1 zs ko id 3),ze zd (zd1 zs ko id 4),ze zd (zd1 zs ko id 5)],.bool (zl8 zs ko id)])/\Za w.heap.size w w':=by
 have aU:Zb (Za w.heap.size w ((w.alloc (zg #[ze zd n,za a lt ac,za ao ko co,za av kv cv,ze zd fine] 30)).alloc (zg #[ze zd 0,ze zd 0,ze zd 0,ze zd 0,ze zd 0,ze zd 0] 103))):=(zP _).alloc (by simp) _;have HA:Zb _:=hA;have HL:Zb _:=hl;clear hA hl;go_enter Tryz.func88,Tryz.ntmps88
 go_wp2_with fail
 have P0:Zb (((w.alloc (zg #[ze zd n,za a lt ac,za ao ko co,za av kv cv,ze zd fine] 30)).alloc (zg #[ze zd 0,ze zd 0,ze zd 0,ze zd 0,ze zd 0,ze zd 0] 103)).heap[w.heap.size]? =_):=xm _ _ _;have Q0:Zb (((w.alloc (zg #[ze zd n,za a lt ac,za ao ko co,za av kv cv,ze zd fine] 30)).alloc (zg #[ze zd 0,ze zd 0,ze zd 0,ze zd 0,ze zd 0,ze zd 0] 103)).heap[w.heap.size+1]? =_):=xh _ _ _;generalize(w.alloc _).alloc _=W at*;obtain⟨c0,c1,c2,c3,c4⟩:=za7 P0.X;obtain⟨q0,q1,q2,q3,q4,q5⟩:=zi0 Q0.X;have f0:=fun i=>yZ _ _ i _ _ Q0.X
 go_loop [6] (fun t=>∃k:Nat,k<=ko/\t=ze zd k/\∀j,j<k->og6 zs j 0≠id) (fun t=>ko - (intOf t).toNat)
 case atStart=>exact⟨0,xi _,rfl,fun j hj=>by omega⟩
 case round=>
  obtain⟨k,hk,rfl,a_⟩:=hrel;have HN:Zb _:=a_;clear a_;by_cases ah:k<ko
  ·obtain⟨b,off,rfl,aJ⟩:=za3.some (za3.below HA.X aU.X) (j:=k*6) (by rw[HL.X];omega)
   obtain⟨r0,r1,r2,r3,r4,r5⟩:=zu5 aJ HL.X k ah;clear aJ;obtain⟨o0,H0⟩:=nmd (og6 zs k 0);obtain⟨o1,H1⟩:=nmd (og6 zs k 1);obtain⟨o2,H2⟩:=nmd (og6 zs k 2);obtain⟨o3,H3⟩:=nmd (og6 zs k 3);obtain⟨o4,H4⟩:=nmd (og6 zs k 4);obtain⟨o5,H5⟩:=nmd (og6 zs k 5);rw[H0.X]at r0;rw[H1.X]at r1;rw[H2.X]at r2;rw[H3.X]at r3;rw[H4.X]at r4;rw[H5.X]at r5;by_cases he:o0=id
   ·have mu:(o0==id)=true:=by simp[he]
    have HF:Zb _:=yw9 ah (by rw[H0.X];exact he) HN.X;clear he;go_wp2;refine xe (v:=.tuple #[.agg #[ze zd o0,ze zd o1,ze zd o2,ze zd o3,ze zd o4,ze zd o5],.bool true]) (by simp[results,Tryz.results88,go_sem,q0,q1,q2,q3,q4,q5]) rfl ⟨?_,?_⟩
    ·rw[yl8 HF.X];simp only[yl4 HF.X,H0.X,H1.X,H2.X,H3.X,H4.X,H5.X]
    ·repeat(first|with_reducible exact aU.X|refine xq ?_ (by simp<;>omega) _)
   ·have mu:(o0==id)=false:=by simp[he]
    have HS:Zb _:=zW9 HN.X (by rw[H0.X];exact he);clear he;go_wp2;refine⟨⟨k+1,by omega,by go_num,HS.X⟩,by simp[intOf];omega⟩
  ·have dw:k=ko:=by omega
   have HF:Zb _:=zZ7 (dw▸HN.X);clear dw;go_wp2;refine xe (v:=.tuple #[.agg #[ze zd 0,ze zd 0,ze zd 0,ze zd 0,ze zd 0,ze zd 0],.bool false]) (by simp[results,Tryz.results88,go_sem,q0,q1,q2,q3,q4,q5]) rfl ⟨?_,?_⟩
   ·rw[zN4 HF.X];simp only[zN3 HF.X]
   ·repeat(first|with_reducible exact aU.X|refine xq ?_ (by simp<;>omega) _)
theorem zU7{zs:List Int}{id:Int}{k:Nat}(h:∀j,j<k->og5 zs j 0≠id)(hk:og5 zs k 0≠id):∀j,j<k+1->og5 zs j 0≠id:=by
 intro j hj;by_cases e:j=k
 ·rw[e];exact hk
 ·exact h j (by omega)
theorem zI9(n fine id:Int)(a ao av:Option Zd)(lt ac ko co kv cv:Nat)(zs:List Int)(w:zi)(hA:za3 w av zs)(hl:zs.length=kv*5)(aL:kv<=9223372036854775807):
 Zc zh 129 #[.agg #[ze zd n,za a lt ac,za ao ko co,za av kv cv,ze zd fine],ze zd id] w fun e w'=>e=.returned (.tuple #[.agg #[ze zd (zc4 zs kv id 0),ze zd (zc4 zs kv id 1),ze zd (zc4 zs kv id 2),ze zd (zc4 zs kv id 3),ze zd (zc4 zs kv id 4)],.bool (fnd5T zs kv id)])/\Za w.heap.size w w':=by
 have aU:Zb (Za w.heap.size w ((w.alloc (zg #[ze zd n,za a lt ac,za ao ko co,za av kv cv,ze zd fine] 30)).alloc (zg #[ze zd 0,ze zd 0,ze zd 0,ze zd 0,ze zd 0] 107))):=(zP _).alloc (by simp) _;have HA:Zb _:=hA;have HL:Zb _:=hl;clear hA hl;go_enter Tryz.func129,Tryz.ntmps129
 go_wp2_with fail
 have P0:Zb (((w.alloc (zg #[ze zd n,za a lt ac,za ao ko co,za av kv cv,ze zd fine] 30)).alloc (zg #[ze zd 0,ze zd 0,ze zd 0,ze zd 0,ze zd 0] 107)).heap[w.heap.size]? =_):=xm _ _ _;have Q0:Zb (((w.alloc (zg #[ze zd n,za a lt ac,za ao ko co,za av kv cv,ze zd fine] 30)).alloc (zg #[ze zd 0,ze zd 0,ze zd 0,ze zd 0,ze zd 0] 107)).heap[w.heap.size+1]? =_):=xh _ _ _;generalize(w.alloc _).alloc _=W at*;obtain⟨c0,c1,c2,c3,c4⟩:=za7 P0.X;obtain⟨q0,q1,q2,q3,q4⟩:=za7 Q0.X;have f0:=fun i=>yZ _ _ i _ _ Q0.X
 go_loop [6] (fun t=>∃k:Nat,k<=kv/\t=ze zd k/\∀j,j<k->og5 zs j 0≠id) (fun t=>kv - (intOf t).toNat)
 case atStart=>exact⟨0,xi _,rfl,fun j hj=>by omega⟩
 case round=>
  obtain⟨k,hk,rfl,a_⟩:=hrel;have HN:Zb _:=a_;clear a_;by_cases ah:k<kv
  ·obtain⟨b,off,rfl,aJ⟩:=za3.some (za3.below HA.X aU.X) (j:=k*5) (by rw[HL.X];omega)
   obtain⟨r0,r1,r2,r3,r4⟩:=zI1 aJ HL.X k ah;clear aJ;obtain⟨o0,H0⟩:=nmd (og5 zs k 0);obtain⟨o1,H1⟩:=nmd (og5 zs k 1);obtain⟨o2,H2⟩:=nmd (og5 zs k 2);obtain⟨o3,H3⟩:=nmd (og5 zs k 3);obtain⟨o4,H4⟩:=nmd (og5 zs k 4);rw[H0.X]at r0;rw[H1.X]at r1;rw[H2.X]at r2;rw[H3.X]at r3;rw[H4.X]at r4;by_cases he:o0=id
   ·have mu:(o0==id)=true:=by simp[he]
    have HF:Zb _:=yw7 ah (by rw[H0.X];exact he) HN.X;clear he;go_wp2;refine xe (v:=.tuple #[.agg #[ze zd o0,ze zd o1,ze zd o2,ze zd o3,ze zd o4],.bool true]) (by simp[results,Tryz.results129,go_sem,q0,q1,q2,q3,q4]) rfl ⟨?_,?_⟩
    ·rw[yk7 HF.X];simp only[yl1 HF.X,H0.X,H1.X,H2.X,H3.X,H4.X]
    ·repeat(first|with_reducible exact aU.X|refine xq ?_ (by simp<;>omega) _)
   ·have mu:(o0==id)=false:=by simp[he]
    have HS:Zb _:=zU7 HN.X (by rw[H0.X];exact he);clear he;go_wp2;refine⟨⟨k+1,by omega,by go_num,HS.X⟩,by simp[intOf];omega⟩
  ·have dw:k=kv:=by omega
   have HF:Zb _:=zZ8 (dw▸HN.X);clear dw;go_wp2;refine xe (v:=.tuple #[.agg #[ze zd 0,ze zd 0,ze zd 0,ze zd 0,ze zd 0],.bool false]) (by simp[results,Tryz.results129,go_sem,q0,q1,q2,q3,q4]) rfl ⟨?_,?_⟩
   ·rw[zM9 HF.X];simp only[zK7 HF.X]
   ·repeat(first|with_reducible exact aU.X|refine xq ?_ (by simp<;>omega) _)
theorem za5{W:zi}{b o k i:Nat}{v x:Value}(h:W.cell? ⟨b,o,none⟩=some x)(aq:b≠k):(W.setCell ⟨k,i,none⟩ v).cell? ⟨b,o,none⟩=some x:=by
 rw[World.cell?_of_block (w:=W) (xy W ⟨k,i,none⟩ b v aq)];exact h
theorem za8{W:zi}{g k i:Nat}{o:Obj}{v:Value}(h:W.heap[g]? =some o)(aq:g≠k):(W.setCell ⟨k,i,none⟩ v).heap[g]? =some o:=by
 rw[xy _ _ _ _ (by simpa using aq)];exact h
theorem zT2{W:zi}{g:Nat}{z0 z1 z2 z3 z4 z5 o0 o1 o2 o3 o4 o5:Value}{T:TypeId}(h:W.heap[g]? =some (zg #[z0,z1,z2,z3,z4,z5] T (0,0))):
 ((((((W.setCell ⟨g,0,none⟩ o0).setCell ⟨g,1,none⟩ o1).setCell ⟨g,2,none⟩ o2).setCell ⟨g,3,none⟩ o3).setCell ⟨g,4,none⟩ o4).setCell ⟨g,5,none⟩ o5).heap[g]? =some (zg #[o0,o1,o2,o3,o4,o5] T (0,0)):=
 xb _ _ _ _ _ _ (xb _ _ _ _ _ _ (xb _ _ _ _ _ _ (xb _ _ _ _ _ _ (xb _ _ _ _ _ _ (xb _ _ _ _ _ _ h)))))
theorem zt3{w:zi}{b off:Nat}{zs:List Int}(h:za3 w (some ⟨b,off,none⟩) zs){j:Nat}(hj:j<zs.length){v:Int}(hv:zs.getD j 0=v):w.cell? ⟨b,off+j,none⟩=some (ze zd v):=by
 obtain⟨b',aR,e,hc⟩:=h j hj;simp at e;obtain⟨rfl,rfl⟩:=e;rw[hc,hv]
def CR(w W:zi)(cs rs:Array Value):Prop:=Za w.heap.size w W/\W.heap[w.heap.size]? =some (.cells cs 30 (0,0))/\W.heap[w.heap.size+1]? =some (.cells rs 80 (0,0))
theorem CR.new(w:zi)(cs rs:Array Value):CR w ((w.alloc (.cells cs 30)).alloc (.cells rs 80)) cs rs:=
 ⟨(zP _).alloc (by simp) _,xm _ _ _,xh _ _ _⟩
theorem CR.below{w W W':zi}{cs rs:Array Value}(h:CR w W cs rs)(hb:Za W.heap.size W W'):CR w W' cs rs:=
 ⟨h.1.trans (hb.mono h.1.size),za0 hb (za2 h.2.1) h.2.1,za0 hb (za2 h.2.2) h.2.2⟩
theorem CR.drew{w W:zi}{cs rs:Array Value}(h:CR w W cs rs):CR w W.drew cs rs:=h.below (y5 _ _).drew
theorem CR.alloc{w W:zi}{cs rs:Array Value}(h:CR w W cs rs)(o:Obj):CR w (W.alloc o) cs rs:=h.below (zP _)
theorem CR.set{w W:zi}{cs rs:Array Value}(h:CR w W cs rs){k i:Nat}{v:Value}(hk:w.heap.size+1<k):CR w (W.setCell ⟨k,i,none⟩ v) cs rs:=
 ⟨h.1.setCell (by simp;omega) _,za8 h.2.1 (by omega),za8 h.2.2 (by omega)⟩
theorem CR.big{w W:zi}{cs rs:Array Value}(h:CR w W cs rs):w.heap.size+1<W.heap.size:=za2 h.2.2
theorem zc0(n lo hi:Int)(w:zi):
 Zc zh 39 #[ze zd n,ze zd lo,ze zd hi] w fun e w'=>e=.returned (.bool (inB n lo hi))/\w'=w:=by
 by_cases h1:lo<=n
 ·by_cases h2:n<=hi
  ·have h3:=zf0 ⟨h1,h2⟩
   rw[h3];go_enter Tryz.func39,Tryz.ntmps39;go_wp2;go_ret;exact⟨by simp,rfl⟩
  ·have h3:inB n lo hi=false:=zx2 (by omega)
   rw[h3];go_enter Tryz.func39,Tryz.ntmps39;go_wp2;go_ret;exact⟨by simp,rfl⟩
 ·have h3:inB n lo hi=false:=zx2 (by omega)
  rw[h3];go_enter Tryz.func39,Tryz.ntmps39;go_wp2;go_ret;exact⟨by simp,rfl⟩
theorem zv7(n o0 o1 o2 o3 o4 o5:Int)(w:zi)(aZ:1<=n)(cR:n<=16):
 Zc zh 126 #[.agg #[ze zd o0,ze zd o1,ze zd o2,ze zd o3,ze zd o4,ze zd o5],ze zd n] w fun e w'=>e=.returned (.bool (zG3 n o0 o1 o2 o3 o4 o5))/\Za w.heap.size w w':=by
 cases h0:inB o0 1 1000000000
 ·go_enter Tryz.func126,Tryz.ntmps126
  go_wp2_with(first|(go_at_call 39;refine(zc0 _ _ _ _).mono ?_;rintro e w' ⟨rfl,rfl⟩))
  go_ret;exact⟨zb6 (by simp[zG3,zt8,zh9,h0]),zP _⟩
 ·cases h1:inB o1 0 (n - 1)
  ·go_enter Tryz.func126,Tryz.ntmps126
   go_wp2_with(first|(go_at_call 39;refine(zc0 _ _ _ _).mono ?_;rintro e w' ⟨rfl,rfl⟩))
   go_ret;exact⟨zb6 (by simp[zG3,zt8,zh9,h0,h1]),zP _⟩
  ·cases h2:inB o2 0 1000
   ·go_enter Tryz.func126,Tryz.ntmps126
    go_wp2_with(first|(go_at_call 39;refine(zc0 _ _ _ _).mono ?_;rintro e w' ⟨rfl,rfl⟩))
    go_ret;exact⟨zb6 (by simp[zG3,zt8,zh9,h0,h1,h2]),zP _⟩
   ·cases h3:inB o3 0 1000000
    ·go_enter Tryz.func126,Tryz.ntmps126
     go_wp2_with(first|(go_at_call 39;refine(zc0 _ _ _ _).mono ?_;rintro e w' ⟨rfl,rfl⟩))
     go_ret;exact⟨zb6 (by simp[zG3,zt8,zh9,h0,h1,h2,h3]),zP _⟩
    ·cases h4:inB o4 o3 1000000
     ·go_enter Tryz.func126,Tryz.ntmps126
      go_wp2_with(first|(go_at_call 39;refine(zc0 _ _ _ _).mono ?_;rintro e w' ⟨rfl,rfl⟩))
      go_ret;exact⟨zb6 (by simp[zG3,zt8,zh9,h0,h1,h2,h3,h4]),zP _⟩
     ·cases h5:inB o5 0 10000
      ·go_enter Tryz.func126,Tryz.ntmps126
       go_wp2_with(first|(go_at_call 39;refine(zc0 _ _ _ _).mono ?_;rintro e w' ⟨rfl,rfl⟩))
       go_ret;exact⟨zb6 (by simp[zG3,zt8,zh9,h0,h1,h2,h3,h4,h5]),zP _⟩
      ·go_enter Tryz.func126,Tryz.ntmps126
       go_wp2_with(first|(go_at_call 39;refine(zc0 _ _ _ _).mono ?_;rintro e w' ⟨rfl,rfl⟩))
       go_ret;exact⟨zb6 (by simp[zG3,zt8,zh9,h0,h1,h2,h3,h4,h5]),zP _⟩
theorem zp5(n o0 o1 o2 o3 o4:Int)(w:zi)(aZ:1<=n)(cR:n<=16):
 Zc zh 127 #[.agg #[ze zd o0,ze zd o1,ze zd o2,ze zd o3,ze zd o4],ze zd n] w fun e w'=>e=.returned (.bool (zL5 n o0 o1 o2 o3 o4))/\Za w.heap.size w w':=by
 cases h0:inB o0 1 1000000000
 ·go_enter Tryz.func127,Tryz.ntmps127
  go_wp2_with(first|(go_at_call 39;refine(zc0 _ _ _ _).mono ?_;rintro e w' ⟨rfl,rfl⟩))
  go_ret;exact⟨zb6 (by simp[zL5,zx4,zh9,h0]),zP _⟩
 ·cases h1:inB o1 0 (n - 1)
  ·go_enter Tryz.func127,Tryz.ntmps127
   go_wp2_with(first|(go_at_call 39;refine(zc0 _ _ _ _).mono ?_;rintro e w' ⟨rfl,rfl⟩))
   go_ret;exact⟨zb6 (by simp[zL5,zx4,zh9,h0,h1]),zP _⟩
  ·cases h2:inB o2 0 1000
   ·go_enter Tryz.func127,Tryz.ntmps127
    go_wp2_with(first|(go_at_call 39;refine(zc0 _ _ _ _).mono ?_;rintro e w' ⟨rfl,rfl⟩))
    go_ret;exact⟨zb6 (by simp[zL5,zx4,zh9,h0,h1,h2]),zP _⟩
   ·cases h3:inB o3 0 1000000
    ·go_enter Tryz.func127,Tryz.ntmps127
     go_wp2_with(first|(go_at_call 39;refine(zc0 _ _ _ _).mono ?_;rintro e w' ⟨rfl,rfl⟩))
     go_ret;exact⟨zb6 (by simp[zL5,zx4,zh9,h0,h1,h2,h3]),zP _⟩
    ·cases h4:inB o4 o3 1000000
     ·go_enter Tryz.func127,Tryz.ntmps127
      go_wp2_with(first|(go_at_call 39;refine(zc0 _ _ _ _).mono ?_;rintro e w' ⟨rfl,rfl⟩))
      go_ret;exact⟨zb6 (by simp[zL5,zx4,zh9,h0,h1,h2,h3,h4]),zP _⟩
     ·go_enter Tryz.func127,Tryz.ntmps127
      go_wp2_with(first|(go_at_call 39;refine(zc0 _ _ _ _).mono ?_;rintro e w' ⟨rfl,rfl⟩))
      go_ret;exact⟨zb6 (by simp[zL5,zx4,zh9,h0,h1,h2,h3,h4]),zP _⟩
theorem zY4(n:Nat)(a:Option Zd)(ac:Nat)(zs:List Int)(w:zi)(h1:1<=n)(h2:n<=16)(hl:zs.length=n*n)(hA:za3 w a zs):
 Zc zh 125 #[.agg #[ze zd n,za a zs.length ac]] w fun e w'=>e=.returned (.bool (zq9 n zs))/\Za w.heap.size w w':=by
 have e_:=z03 n n h2 h2;have jT:inB (n:Int) 1 16=true:=zf0 (by omega);have lL:wrap64 ((n:Int)*(n:Int))=(n:Int)*(n:Int):=xB _ (by rw[<-xD];omega);have Cn:¬n=0:=by omega
 have HA:Zb _:=hA;clear hA;rw[hl];have HL:Zb _:=hl;clear hl;go_enter Tryz.func125,Tryz.ntmps125
 go_wp2_with(go_at_call 39;refine(zc0 _ _ _ _).mono ?_;rintro e w' ⟨rfl,rfl⟩)
 go_loopw[3] (fun t wr=>∃k:Nat,k<=n*n/\t=ze zd k/\Za w.heap.size w wr/\wr.heap[w.heap.size]? =some (zg #[ze zd n,za a (n*n) ac] 26 (0,0))/\(∀i,i<k->0<=zs.getD i 0/\zs.getD i 0<=10000/\(i / n=i % n->zs.getD i 0=0))) (fun t _=>n*n - (intOf t).toNat)
 case atStart=>exact⟨0,xi _,rfl,zP _,zS _ _,fun i hi=>by omega⟩
 case round=>
  obtain⟨k,hk,rfl,hb,g3,aP⟩:=hrel;have c0:=zU _ _ 0 _ _ _ g3;have c1:=zU _ _ 1 _ _ _ g3;simp at c0 c1;have HO:Zb _:=aP;have G3:Zb _:=g3;have HB:Zb _:=hb;clear aP;by_cases ah:k<n*n
  ·obtain⟨bb,off,rfl,aJ⟩:=za3.some (za3.below HA.X hb) (j:=k) (by rw[HL.X];exact ah)
   have ct:=aJ k (by rw[HL.X];exact ah);clear aJ;generalize htt:zs.getD k 0=t at ct;have HT:Zb _:=htt;clear htt g3 hb;have iR:IntKind.i64.wrap ((k:Int) / (n:Int))=(k:Int) / (n:Int):=by
    rw[xu,<-Int.natCast_ediv];have hq:=Nat.div_le_self k n;generalize k / n=q at hq;omega
   have dX:(k:Int).tmod (n:Int)=(k:Int) % (n:Int):=Int.tmod_eq_emod_of_nonneg (by omega);have ng:(k:Int)<(n:Int)*(n:Int):=by rw[<-xD];omega
   by_cases hv:0<=t/\t<=10000
   ·have DP:=zf0 hv
    by_cases hq:k / n=k % n
    ·have rF:((k:Int) / (n:Int)==(k:Int) % (n:Int))=true:=by simp;omega
     by_cases rT:t=0
     ·have H_:(t !=0)=false:=by simp[rT]
      have HS:Zb (∀i,i<k+1->0<=zs.getD i 0/\zs.getD i 0<=10000/\(i / n=i % n->zs.getD i 0=0)):=by
       intro i hi;by_cases e:i=k
       ·rw[e,HT.X];exact⟨hv.1,hv.2,fun _=>rT⟩
       ·exact HO.X i (by omega)
      clear HO hq rT;go_wp2
      go_quiet ((go_at_call 39;exact Calls.quiet_of_same (zc0 _ _ _ _)))
      go_wp2;refine⟨⟨k+1,by omega,by go_num,xC HB.X _,G3.X,HS.X⟩,by simp[intOf];omega⟩
     ·have H_:(t !=0)=true:=by simp[rT]
      have HN:Zb _:=yt3 n zs HL.X k ah (by rw[HT.X];exact fun h=>rT (h.2.2 hq));clear HO hq rT;go_wp2
      go_quiet ((go_at_call 39;exact Calls.quiet_of_same (zc0 _ _ _ _)))
      go_wp2;go_ret;exact⟨zb6 HN.symm,xC HB.X _⟩
    ·have rF:((k:Int) / (n:Int)==(k:Int) % (n:Int))=false:=by simp;omega
     have HS:Zb (∀i,i<k+1->0<=zs.getD i 0/\zs.getD i 0<=10000/\(i / n=i % n->zs.getD i 0=0)):=by
      intro i hi;by_cases e:i=k
      ·rw[e,HT.X];exact⟨hv.1,hv.2,fun h=>absurd h hq⟩
      ·exact HO.X i (by omega)
     clear HO hq;go_wp2
     go_quiet ((go_at_call 39;exact Calls.quiet_of_same (zc0 _ _ _ _)))
     go_wp2;refine⟨⟨k+1,by omega,by go_num,xC HB.X _,G3.X,HS.X⟩,by simp[intOf];omega⟩
   ·have DP:=zx2 hv
    have HN:Zb _:=yt3 n zs HL.X k ah (by rw[HT.X];exact fun h=>hv ⟨h.1,h.2.1⟩);clear HO hv;go_wp2
    go_quiet ((go_at_call 39;exact Calls.quiet_of_same (zc0 _ _ _ _)))
    go_wp2;go_ret;exact⟨zb6 HN.symm,xC HB.X _⟩
  ·have Ob:(n:Int)*(n:Int)<=(k:Int):=by rw[<-xD];omega
   have HN:Zb _:=y78 n zs h1 h2 HL.X (fun i hi=>HO.X i (by omega));clear HO g3;go_wp2;go_ret;exact⟨zb6 HN.symm,HB.X⟩
theorem yp0(n:Int)(a:Option Zd)(dH ac:Nat)(w:zi)(h:¬(1<=n/\n<=16/\(dH:Int)=n*n)):
 Zc zh 125 #[.agg #[ze zd n,za a dH ac]] w fun e w'=>e=.returned (.bool false)/\Za w.heap.size w w':=by
 by_cases hn:1<=n/\n<=16
 ·obtain⟨m,rfl⟩:=xp (show 0<=n by omega)
  have e_:m*m<=256:=z03 m m (by omega) (by omega);have jT:=zf0 hn;have lL:wrap64 ((m:Int)*(m:Int))=(m:Int)*(m:Int):=xB _ (by rw[<-xD];omega);have aq:((dH:Int)!=(m:Int)*(m:Int))=true:=by
   rw[bne_iff_ne];exact fun e=>h ⟨hn.1,hn.2,e⟩
  clear h;go_enter Tryz.func125,Tryz.ntmps125
  go_wp2_with(go_at_call 39;refine(zc0 _ _ _ _).mono ?_;rintro e w' ⟨rfl,rfl⟩)
  go_ret;exact⟨rfl,zP _⟩
 ·have jT:=zx2 hn
  clear h hn;go_enter Tryz.func125,Tryz.ntmps125
  go_wp2_with(go_at_call 39;refine(zc0 _ _ _ _).mono ?_;rintro e w' ⟨rfl,rfl⟩)
  go_ret;exact⟨rfl,zP _⟩
theorem zn6(n:Int)(a:Option Zd)(ac:Nat)(zs:List Int)(w:zi)(hA:za3 w a zs):
 Zc zh 125 #[.agg #[ze zd n,za a zs.length ac]] w fun e w'=>e=.returned (.bool (zq9 n zs))/\Za w.heap.size w w':=by
 by_cases h:1<=n/\n<=16/\(zs.length:Int)=n*n
 ·obtain⟨m,rfl⟩:=xp (show 0<=n by omega)
  exact zY4 m a ac zs w (by omega) (by omega) (by have:=h.2.2;rw[<-xD]at this;omega) hA
 ·have hm:=z65 fun k=>h ⟨k.1,k.2.1,k.2.2.1⟩
  rw[hm];exact yp0 n a _ ac w h
theorem ye3(n fine:Int)(a ao av:Option Zd)(ac ko co kv cv:Nat)(zs os vs:List Int)(w:zi)(hA:za3 w a zs)(aA:ko<=9223372036854775807)(aB:kv<=9223372036854775807)(h:¬(zq9 n zs=true/\ko<=12/\kv<=5/\inB fine 0 1000000=true)):
 Zc zh 85 #[.agg #[ze zd n,za a zs.length ac,za ao ko co,za av kv cv,ze zd fine]] w fun e w'=>e=.returned (.bool (zd0 n zs os vs ko kv fine))/\Za w.heap.size w w':=by
 have aU:Zb (Za w.heap.size w (w.alloc (zg #[ze zd n,za a zs.length ac,za ao ko co,za av kv cv,ze zd fine] 30))):=zP _;have HA:=za4 hA;clear hA
 have HC:Zb (zd0 n zs os vs ko kv fine=false):=by
  show _=_;unfold zd0;cases h1:zq9 n zs
  ·rfl
  ·cases h2:zs7 n os ko
   ·rfl
   ·cases h3:zx9 n vs kv
    ·rfl
    ·cases h4:inB fine 0 1000000
     ·rfl
     ·exact absurd ⟨h1,(zd9 h2).1,(zf2 h3).1,h4⟩ h
 cases h1:zq9 n zs
 ·have HM:Zb _:=h1
  clear h1 h;go_enter Tryz.func85,Tryz.ntmps85
  go_wp2_with fail
  refine(zn6 n a ac zs _ (HA.below aU.X)).mono ?_;rintro e w1 ⟨rfl,hb⟩;rw[HM.X];obtain⟨b1,r1⟩:=y90 hb;obtain⟨c0,c1,c2,c3,c4⟩:=za7 r1;have B1:Zb _:=b1;have R1:Zb _:=r1;clear hb b1 r1
  go_wp2_with(first|(go_at_call 39;refine(zc0 _ _ _ _).mono ?_;rintro e w' ⟨rfl,rfl⟩))
  go_ret;exact⟨zb6 HC.symm,B1.X⟩
 ·have HM:Zb _:=h1
  by_cases h2:ko<=12
  ·by_cases h3:kv<=5
   ·have h4:inB fine 0 1000000=false:=by
     cases h4:inB fine 0 1000000
     ·rfl
     ·exact absurd ⟨h1,h2,h3,h4⟩ h
    clear h1 h;go_enter Tryz.func85,Tryz.ntmps85
    go_wp2_with fail
    refine(zn6 n a ac zs _ (HA.below aU.X)).mono ?_;rintro e w1 ⟨rfl,hb⟩;rw[HM.X];obtain⟨b1,r1⟩:=y90 hb;obtain⟨c0,c1,c2,c3,c4⟩:=za7 r1;have B1:Zb _:=b1;have R1:Zb _:=r1;clear hb b1 r1
    go_wp2_with(first|(go_at_call 39;refine(zc0 _ _ _ _).mono ?_;rintro e w' ⟨rfl,rfl⟩))
    go_ret;exact⟨zb6 HC.symm,B1.X⟩
   ·clear h1 h
    go_enter Tryz.func85,Tryz.ntmps85
    go_wp2_with fail
    refine(zn6 n a ac zs _ (HA.below aU.X)).mono ?_;rintro e w1 ⟨rfl,hb⟩;rw[HM.X];obtain⟨b1,r1⟩:=y90 hb;obtain⟨c0,c1,c2,c3,c4⟩:=za7 r1;have B1:Zb _:=b1;have R1:Zb _:=r1;clear hb b1 r1
    go_wp2_with(first|(go_at_call 39;refine(zc0 _ _ _ _).mono ?_;rintro e w' ⟨rfl,rfl⟩))
    go_ret;exact⟨zb6 HC.symm,B1.X⟩
  ·clear h1 h
   go_enter Tryz.func85,Tryz.ntmps85
   go_wp2_with fail
   refine(zn6 n a ac zs _ (HA.below aU.X)).mono ?_;rintro e w1 ⟨rfl,hb⟩;rw[HM.X];obtain⟨b1,r1⟩:=y90 hb;obtain⟨c0,c1,c2,c3,c4⟩:=za7 r1;have B1:Zb _:=b1;have R1:Zb _:=r1;clear hb b1 r1
   go_wp2_with(first|(go_at_call 39;refine(zc0 _ _ _ _).mono ?_;rintro e w' ⟨rfl,rfl⟩))
   go_ret;exact⟨zb6 HC.symm,B1.X⟩
theorem zy3(n:Int)(zs os vs:List Int)(ko kv:Nat)(fine:Int):zd0 n zs os vs ko kv fine=(zq9 n zs&&zs7 n os ko&&zx9 n vs kv&&inB fine 0 1000000):=rfl
theorem zS5(n fine:Int)(a ao av:Option Zd)(ac ko co kv cv:Nat)(zs os vs:List Int)(w:zi)(hA:za3 w a zs)(hO:za3 w ao os)(hV:za3 w av vs)(an:os.length=ko*6)(au:vs.length=kv*5)(hm:zq9 n zs=true)(aA:ko<=12)(aB:kv<=5)(hf:inB fine 0 1000000=true):
 Zc zh 85 #[.agg #[ze zd n,za a zs.length ac,za ao ko co,za av kv cv,ze zd fine]] w fun e w'=>e=.returned (.bool (zd0 n zs os vs ko kv fine))/\Za w.heap.size w w':=by
 have aU:Zb (Za w.heap.size w (w.alloc (zg #[ze zd n,za a zs.length ac,za ao ko co,za av kv cv,ze zd fine] 30))):=zP _;have HA:=za4 hA;have mh:=za4 hO;have Du:=za4 hV;have sG:Zb _:=an;have uM:Zb _:=au;have HM:Zb _:=hm;obtain⟨aZ,cR,_,_⟩:=zm1 hm;have Qk:decide ((12:Int)<(ko:Int))=false:=by simp;omega
 have ke:decide ((5:Int)<(kv:Int))=false:=by simp;omega
 clear hA hO hV an au hm;go_enter Tryz.func85,Tryz.ntmps85
 go_wp2_with fail
 refine(zn6 n a ac zs _ (HA.below aU.X)).mono ?_;rintro e w1 ⟨rfl,hb⟩;rw[HM.X];obtain⟨b1,r1⟩:=y90 hb;obtain⟨c0,c1,c2,c3,c4⟩:=za7 r1;have B1:Zb _:=b1;have R1:Zb _:=r1;clear hb b1 r1
 go_wp2_with(first|(go_at_call 39;refine(zc0 _ _ _ _).mono ?_;rintro e w' ⟨rfl,rfl⟩))
 clear c0 c1 c2 c3 c4;go_loopw[3] (fun t wr=>∃k:Nat,k<=ko/\t=ze zd k/\zw2 n os k/\Za w.heap.size w wr/\wr.heap[w.heap.size]? =some (zg #[ze zd n,za a zs.length ac,za ao ko co,za av kv cv,ze zd fine] 30 (0,0))) (fun t _=>ko - (intOf t).toNat)
 case atStart=>exact⟨0,xi _,rfl,zG9 _ _,B1.X,R1.X⟩
 case round=>
  clear B1 R1;obtain⟨k,hk,rfl,ht,hb,g3⟩:=hrel;have HT:Zb _:=ht;have G3:Zb _:=g3;have HB:Zb _:=hb;obtain⟨c0,c1,c2,c3,c4⟩:=za7 g3;clear ht;by_cases ah:k<ko
  ·obtain⟨b,off,rfl,aJ⟩:=za3.some (za3.below mh.X hb) (j:=k*6) (by rw[sG.X];omega)
   obtain⟨r0,r1,r2,r3,r4,r5⟩:=zu5 aJ sG.X k ah;have EG:Zb _:=aJ;clear aJ g3 hb;obtain⟨o0,H0⟩:=nmd (og6 os k 0);obtain⟨o1,H1⟩:=nmd (og6 os k 1);obtain⟨o2,H2⟩:=nmd (og6 os k 2);obtain⟨o3,H3⟩:=nmd (og6 os k 3);obtain⟨o4,H4⟩:=nmd (og6 os k 4);obtain⟨o5,H5⟩:=nmd (og6 os k 5);rw[H0.X]at r0;rw[H1.X]at r1;rw[H2.X]at r2;rw[H3.X]at r3;rw[H4.X]at r4;rw[H5.X]at r5;have s0:=fun s:Kin wr=>s.cell c0;have s1:=fun s:Kin wr=>s.cell c2;have t0:=fun s:Kin wr=>s.cell r0;have t1:=fun s:Kin wr=>s.cell r1;have t2:=fun s:Kin wr=>s.cell r2;have t3:=fun s:Kin wr=>s.cell r3;have t4:=fun s:Kin wr=>s.cell r4;have t5:=fun s:Kin wr=>s.cell r5;cases h1:zG3 n o0 o1 o2 o3 o4 o5
   ·have HN:Zb _:=z62 ah (by rw[H0.X,H1.X,H2.X,H3.X,H4.X,H5.X,h1];simp)
    go_wp2_with fail
    have aV:=Kin.there wr;refine zb1 (by kernel_rfl) (by kernel_rfl) ?_
    repeat(go_big_quiet_step ((go_at_call 126;exact Kin.call (zv7 n _ _ _ _ _ _ _ aZ cR))))
    refine xA ?_;rintro _ ⟨s,rfl⟩;have d5:=HB.trans (s.below.mono HB.size);have R2:=za0 s.below (za2 G3.X) G3.X;generalize s.w=w2 at*;go_wp2;go_ret;exact⟨zb6 (by simp[zy3,HN.X]),d5⟩
   ·by_cases eC:k=0
    ·have HS:Zb (zw2 n os (k+1)):=z21 HT.X (by rw[H0.X,H1.X,H2.X,H3.X,H4.X,H5.X];exact h1) (fun h=>by omega)
     have vk:(decide (0<k))=false:=by simp;omega
     have eA:k<=0:=by omega
     clear eC
     go_wp2_with fail
     have aV:=Kin.there wr;refine zb1 (by kernel_rfl) (by kernel_rfl) ?_
     repeat(go_big_quiet_step ((go_at_call 126;exact Kin.call (zv7 n _ _ _ _ _ _ _ aZ cR))))
     refine xA ?_;rintro _ ⟨s,rfl⟩;have d5:=HB.trans (s.below.mono HB.size);have R2:=za0 s.below (za2 G3.X) G3.X;generalize s.w=w2 at*;go_wp2;refine⟨⟨k+1,by omega,by go_num,HS.X,d5,R2⟩,by simp[intOf];omega⟩
    ·have eA:0<k:=by omega
     obtain⟨rp,_⟩:=zu5 EG.X sG.X (k - 1) (by omega);obtain⟨p,HP⟩:=nmd (og6 os (k - 1) 0);rw[HP.X]at rp;have tp:=fun s:Kin wr=>s.cell rp;have iH:k - 1<ko:=by omega
     have iR:IntKind.i64.wrap ((k:Int) - 1)=((k - 1:Nat):Int):=by
      rw[xu];omega
     clear eC;by_cases hp:p<o0
     ·have HS:Zb (zw2 n os (k+1)):=z21 HT.X (by rw[H0.X,H1.X,H2.X,H3.X,H4.X,H5.X];exact h1) (fun _=>by rw[HP.X,H0.X];exact hp)
      go_wp2_with fail
      have aV:=Kin.there wr;refine zb1 (by kernel_rfl) (by kernel_rfl) ?_
      repeat(go_big_quiet_step ((go_at_call 126;exact Kin.call (zv7 n _ _ _ _ _ _ _ aZ cR))))
      refine xA ?_;rintro _ ⟨s,rfl⟩;have d5:=HB.trans (s.below.mono HB.size);have R2:=za0 s.below (za2 G3.X) G3.X;generalize s.w=w2 at*;go_wp2;refine⟨⟨k+1,by omega,by go_num,HS.X,d5,R2⟩,by simp[intOf];omega⟩
     ·have HN:Zb (zs7 n os ko=false):=z62 ah (fun h=>hp (by have:=h.2 eA;rw[HP.X,H0.X]at this;exact this))
      go_wp2_with fail
      have aV:=Kin.there wr;refine zb1 (by kernel_rfl) (by kernel_rfl) ?_
      repeat(go_big_quiet_step ((go_at_call 126;exact Kin.call (zv7 n _ _ _ _ _ _ _ aZ cR))))
      refine xA ?_;rintro _ ⟨s,rfl⟩;have d5:=HB.trans (s.below.mono HB.size);have R2:=za0 s.below (za2 G3.X) G3.X;generalize s.w=w2 at*;go_wp2;go_ret;exact⟨zb6 (by simp[zy3,HN.X]),d5⟩
  ·have dw:k=ko:=by omega
   have HN:Zb _:=zV4 (by omega) (dw▸HT.X);clear dw g3 hb
   go_wp2_with fail
   clear c0 c1 c2 c3 c4;have ee:Zb _:=HN.X;go_loopw[4] (fun t wr=>∃k:Nat,k<=kv/\t=ze zd k/\zw1 n vs k/\Za w.heap.size w wr/\wr.heap[w.heap.size]? =some (zg #[ze zd n,za a zs.length ac,za ao ko co,za av kv cv,ze zd fine] 30 (0,0))) (fun t _=>kv - (intOf t).toNat)
   case atStart=>exact⟨0,xi _,rfl,zF0 _ _,HB.X,G3.X⟩
   case round=>
    clear HT G3 HB HN;obtain⟨k,hk,rfl,ht,hb,g3⟩:=hrel;have HT:Zb _:=ht;have G3:Zb _:=g3;have HB:Zb _:=hb;obtain⟨c0,c1,c2,c3,c4⟩:=za7 g3;clear ht;by_cases ah:k<kv
    ·obtain⟨b,off,rfl,aJ⟩:=za3.some (za3.below Du.X hb) (j:=k*5) (by rw[uM.X];omega)
     obtain⟨r0,r1,r2,r3,r4⟩:=zI1 aJ uM.X k ah;have EG:Zb _:=aJ;clear aJ g3 hb;obtain⟨o0,H0⟩:=nmd (og5 vs k 0);obtain⟨o1,H1⟩:=nmd (og5 vs k 1);obtain⟨o2,H2⟩:=nmd (og5 vs k 2);obtain⟨o3,H3⟩:=nmd (og5 vs k 3);obtain⟨o4,H4⟩:=nmd (og5 vs k 4);rw[H0.X]at r0;rw[H1.X]at r1;rw[H2.X]at r2;rw[H3.X]at r3;rw[H4.X]at r4;have s0:=fun s:Kin wr=>s.cell c0;have s1:=fun s:Kin wr=>s.cell c3;have t0:=fun s:Kin wr=>s.cell r0;have t1:=fun s:Kin wr=>s.cell r1;have t2:=fun s:Kin wr=>s.cell r2;have t3:=fun s:Kin wr=>s.cell r3;have t4:=fun s:Kin wr=>s.cell r4;cases h1:zL5 n o0 o1 o2 o3 o4
     ·have HN:Zb _:=z53 ah (by rw[H0.X,H1.X,H2.X,H3.X,H4.X,h1];simp)
      go_wp2_with fail
      have aV:=Kin.there wr;refine zb1 (by kernel_rfl) (by kernel_rfl) ?_
      repeat(go_big_quiet_step ((go_at_call 127;exact Kin.call (zp5 n _ _ _ _ _ _ aZ cR))))
      refine xA ?_;rintro _ ⟨s,rfl⟩;have d5:=HB.trans (s.below.mono HB.size);have R2:=za0 s.below (za2 G3.X) G3.X;generalize s.w=w2 at*;go_wp2;go_ret;exact⟨zb6 (by simp[zy3,HN.X]),d5⟩
     ·by_cases eC:k=0
      ·have HS:Zb (zw1 n vs (k+1)):=z15 HT.X (by rw[H0.X,H1.X,H2.X,H3.X,H4.X];exact h1) (fun h=>by omega)
       have vk:(decide (0<k))=false:=by simp;omega
       have eA:k<=0:=by omega
       clear eC
       go_wp2_with fail
       have aV:=Kin.there wr;refine zb1 (by kernel_rfl) (by kernel_rfl) ?_
       repeat(go_big_quiet_step ((go_at_call 127;exact Kin.call (zp5 n _ _ _ _ _ _ aZ cR))))
       refine xA ?_;rintro _ ⟨s,rfl⟩;have d5:=HB.trans (s.below.mono HB.size);have R2:=za0 s.below (za2 G3.X) G3.X;generalize s.w=w2 at*;go_wp2;refine⟨⟨k+1,by omega,by go_num,HS.X,d5,R2⟩,by simp[intOf];omega⟩
      ·have eA:0<k:=by omega
       obtain⟨rp,_⟩:=zI1 EG.X uM.X (k - 1) (by omega);obtain⟨p,HP⟩:=nmd (og5 vs (k - 1) 0);rw[HP.X]at rp;have tp:=fun s:Kin wr=>s.cell rp;have iH:k - 1<kv:=by omega
       have iR:IntKind.i64.wrap ((k:Int) - 1)=((k - 1:Nat):Int):=by
        rw[xu];omega
       clear eC;by_cases hp:p<o0
       ·have HS:Zb (zw1 n vs (k+1)):=z15 HT.X (by rw[H0.X,H1.X,H2.X,H3.X,H4.X];exact h1) (fun _=>by rw[HP.X,H0.X];exact hp)
        go_wp2_with fail
        have aV:=Kin.there wr;refine zb1 (by kernel_rfl) (by kernel_rfl) ?_
        repeat(go_big_quiet_step ((go_at_call 127;exact Kin.call (zp5 n _ _ _ _ _ _ aZ cR))))
        refine xA ?_;rintro _ ⟨s,rfl⟩;have d5:=HB.trans (s.below.mono HB.size);have R2:=za0 s.below (za2 G3.X) G3.X;generalize s.w=w2 at*;go_wp2;refine⟨⟨k+1,by omega,by go_num,HS.X,d5,R2⟩,by simp[intOf];omega⟩
       ·have HN:Zb (zx9 n vs kv=false):=z53 ah (fun h=>hp (by have:=h.2 eA;rw[HP.X,H0.X]at this;exact this))
        go_wp2_with fail
        have aV:=Kin.there wr;refine zb1 (by kernel_rfl) (by kernel_rfl) ?_
        repeat(go_big_quiet_step ((go_at_call 127;exact Kin.call (zp5 n _ _ _ _ _ _ aZ cR))))
        refine xA ?_;rintro _ ⟨s,rfl⟩;have d5:=HB.trans (s.below.mono HB.size);have R2:=za0 s.below (za2 G3.X) G3.X;generalize s.w=w2 at*;go_wp2;go_ret;exact⟨zb6 (by simp[zy3,HN.X]),d5⟩
    ·have dw:k=kv:=by omega
     have HN:Zb _:=yb1 (by omega) (dw▸HT.X);clear dw g3 hb;go_wp2;go_ret;exact⟨zb6 (by rw[zy3,HM.X,ee.X,HN.X,hf];rfl),HB.X⟩
theorem zx5(n fine:Int)(a ao av:Option Zd)(ac ko co kv cv:Nat)(zs os vs:List Int)(w:zi)(hA:za3 w a zs)(hO:za3 w ao os)(hV:za3 w av vs)(an:os.length=ko*6)(au:vs.length=kv*5)(aA:ko<=9223372036854775807)(aB:kv<=9223372036854775807):
 Zc zh 85 #[.agg #[ze zd n,za a zs.length ac,za ao ko co,za av kv cv,ze zd fine]] w fun e w'=>e=.returned (.bool (zd0 n zs os vs ko kv fine))/\Za w.heap.size w w':=by
 by_cases h:zq9 n zs=true/\ko<=12/\kv<=5/\inB fine 0 1000000=true
 ·exact zS5 n fine a ao av ac ko co kv cv zs os vs w hA hO hV an au h.1 h.2.1 h.2.2.1 h.2.2.2
 ·exact ye3 n fine a ao av ac ko co kv cv zs os vs w hA aA aB h
theorem ya9{zs:List Int}{id:Int}{k:Nat}(h:∀j,j<k->zs.getD j 0≠id)(hk:zs.getD k 0≠id):∀j,j<k+1->zs.getD j 0≠id:=by
 intro j hj;by_cases e:j=k
 ·rw[e];exact hk
 ·exact h j (by omega)
theorem zx0(a:Option Zd)(m ac:Nat)(id:Int)(zs:List Int)(w:zi)(hA:za3 w a zs)(hm:m<=zs.length)(aL:m<=9223372036854775807):
 Zc zh 87 #[za a m ac,ze zd id] w fun e w'=>e=.returned (.bool (z02 zs m id))/\w'=w:=by
 have HA:Zb _:=hA;clear hA;obtain⟨r,HR⟩:=nmd (z02 zs m id);rw[HR.X];go_enter Tryz.func87,Tryz.ntmps87
 go_wp2_with fail
 go_loop [5] (fun t=>∃k:Nat,k<=m/\t=ze zd k/\∀j,j<k->zs.getD j 0≠id) (fun t=>m - (intOf t).toNat)
 case atStart=>exact⟨0,xi _,rfl,fun j hj=>by omega⟩
 case round=>
  obtain⟨k,hk,rfl,a_⟩:=hrel;have HN:Zb _:=a_;clear a_;by_cases ah:k<m
  ·obtain⟨b,off,rfl,aJ⟩:=za3.some HA.X (j:=k) (by omega)
   have ct:=aJ k (by omega);clear aJ;obtain⟨t,HT⟩:=nmd (zs.getD k 0);rw[HT.X]at ct;by_cases he:t=id
   ·have mu:(t==id)=true:=by simp[he]
    have HV:Zb _:=HR.symm.trans (zF9 ah (HT.trans he));clear he;go_wp2;go_ret;exact⟨zb6 HV.symm,rfl⟩
   ·have mu:(t==id)=false:=by simp[he]
    have HS:Zb _:=ya9 HN.X (by rw[HT.X];exact he);clear he;go_wp2;exact⟨⟨k+1,by omega,by go_num,HS.X⟩,by simp[intOf];omega⟩
  ·have bz:k=m:=by omega
   have HV:Zb _:=HR.symm.trans (zD8 (bz▸HN.X));clear bz;go_wp2;go_ret;exact⟨zb6 HV.symm,rfl⟩
theorem z41(a:Option Zd)(m ac:Nat)(id:Int)(zs:List Int)(w:zi)(v:Bool)(hv:z02 zs m id=v)(hA:za3 w a zs)(hm:m<=zs.length)(aL:m<=9223372036854775807):
 Zc zh 87 #[za a m ac,ze zd id] w fun e w'=>e=.returned (.bool v)/\w'=w:=hv▸zx0 a m ac id zs w hA hm aL
def zC0(zs:List Int)(m:Nat)(id:Int):Int:=match (zt m).find? (fun i=>zs.getD i 0==id)with
 |some i=>i
 |none=> -1
theorem zP5{zs:List Int}{m:Nat}{id:Int}{i:Nat}(hi:i<m)(h:zs.getD i 0=id)(a_:∀j,j<i->zs.getD j 0≠id):zC0 zs m id=i:=by
 have:(zt m).find? (fun i=>zs.getD i 0==id)=some i:=by
  rw[yA];exact⟨by rw[h];simp,by simpa using hi,fun j hj=>by have:=a_ j hj;simpa using this⟩
 unfold zC0;rw[this]
theorem zE5{zs:List Int}{m:Nat}{id:Int}(a_:∀j,j<m->zs.getD j 0≠id):zC0 zs m id= -1:=by
 have:(zt m).find? (fun i=>zs.getD i 0==id)=none:=by
  rw[yV];intro j hj;have:=a_ j (by simpa using hj);simpa using this
 unfold zC0;rw[this]
theorem y74(zs:List Int)(m:Nat)(id:Int):decide (0<=zC0 zs m id)=z02 zs m id:=by
 unfold zC0;cases hf:(zt m).find? (fun i=>zs.getD i 0==id)with
 |none=>
  rw[yV]at hf;rw[zD8 (fun j hj=>by have:=hf j (by simpa using hj);simpa using this)];rfl
 |some i=>
  rw[yA]at hf;rw[zF9 (by simpa using hf.2.1) (by simpa using hf.1)];simp
theorem yo5(n fine ab:Int)(a ao av bi:Option Zd)(ac ko co kv cv c2:Nat)(zs os vs ids:List Int)(w:zi)(hA:za3 w a zs)(hO:za3 w ao os)(hV:za3 w av vs)(hI:za3 w bi ids)(an:os.length=ko*6)(au:vs.length=kv*5)(aA:ko<=9223372036854775807)(aB:kv<=9223372036854775807)(eX:ids.length<=9223372036854775807)(cw:ids.length<=c2):
 Zc zh 162 #[.agg #[ze zd n,za a zs.length ac,za ao ko co,za av kv cv,ze zd fine],.agg #[ze zd ab,za bi ids.length c2]] w fun e w'=>e=.returned (ze zd (zm7 (zd0 n zs os vs ko kv fine) vs os kv ko ab ids))/\Za w.heap.size w w':=by
 have HA:=za4 hA;have HO:=za4 hO;have HV:=za4 hV;have HI:=za4 hI;have aF:Zb _:=an;have aE:Zb _:=au;clear hA hO hV hI an au;have bt:Zb (CR w ((w.alloc (zg #[ze zd n,za a zs.length ac,za ao ko co,za av kv cv,ze zd fine] 30)).alloc (zg #[ze zd ab,za bi ids.length c2] 80)) _ _):=CR.new w _ _;obtain⟨r,HR⟩:=nmd (zm7 (zd0 n zs os vs ko kv fine) vs os kv ko ab ids);rw[HR.X];go_enter Tryz.func162,Tryz.ntmps162
 go_wp2_with fail
 refine(zx5 n fine a ao av ac ko co kv cv zs os vs _ (HA.below bt.1) (HO.below bt.1) (HV.below bt.1) aF.X aE.X aA aB).mono ?_;rintro e w1 ⟨rfl,hb⟩;have C1:=za4 (bt.below hb);clear hb bt;cases hc:zd0 n zs os vs ko kv fine
 ·have cm:Zb _:=HR.symm.trans (yD6 hc)
  go_wp2;go_ret;exact⟨zl1 cm.symm,C1.1⟩
 ·have HC:Zb _:=hc
  clear hc;obtain⟨c0,c1,bZ,c3,c4⟩:=za7 C1.2.1;obtain⟨d0,d1⟩:=za1 C1.2.2
  go_wp2_with fail
  refine(zI9 n fine ab a ao av _ ac ko co kv cv vs _ (HV.below C1.1) aE.X aB).mono ?_;rintro e w2 ⟨rfl,hb⟩;obtain⟨v0,G0⟩:=nmd (zc4 vs kv ab 0);obtain⟨v1,G1⟩:=nmd (zc4 vs kv ab 1);obtain⟨v2,G2⟩:=nmd (zc4 vs kv ab 2);obtain⟨v3,G3⟩:=nmd (zc4 vs kv ab 3);obtain⟨v4,G4⟩:=nmd (zc4 vs kv ab 4);rw[G0.X,G1.X,G2.X,G3.X,G4.X];have C2:=za4 (C1.below hb);clear hb C1 c0 c1 bZ c3 c4 d0 d1;cases ht:fnd5T vs kv ab
  ·have cm:Zb _:=HR.symm.trans (yx7 HC.X ht)
   go_wp2;go_ret;exact⟨zl1 cm.symm,(CR.alloc C2.X _).1⟩
  ·have m':Zb _:=ht
   clear ht;have C3:Zb (CR w (w2.alloc (zg #[ze zd v0,ze zd v1,ze zd v2,ze zd v3,ze zd v4] 107)) _ _):=CR.alloc C2.X _;have fE:Zb ((w2.alloc (zg #[ze zd v0,ze zd v1,ze zd v2,ze zd v3,ze zd v4] 107)).heap[w2.heap.size]? =_):=zS _ _;obtain⟨c0,c1,bZ,c3,c4⟩:=za7 C3.2.1;obtain⟨d0,d1⟩:=za1 C3.2.2;clear C2;by_cases bJ:ids.length<=12
   ·go_wp2_with fail
    clear c0 c1 bZ c3 c4 d0 d1;generalize w2.alloc _=W2 at*;generalize w2.heap.size=gv at*;have nV:Zb _:=zM4 HC.X;go_loopw[7,8] (fun sm t wr=>∃k:Nat,k<=ids.length/\t=ze zd k/\sm=ze zd (zn0 os ko ids k)/\zu4 os ko ids k/\CR w wr #[ze zd n,za a zs.length ac,za ao ko co,za av kv cv,ze zd fine] #[ze zd ab,za bi ids.length c2]/\wr.heap[gv]? =some (zg #[ze zd v0,ze zd v1,ze zd v2,ze zd v3,ze zd v4] 107 (0,0))) (fun _ t _=>ids.length - (intOf t).toNat)
    case atStart=>exact⟨0,xi _,rfl,rfl,zA2 _ _ _,C3.X,fE.X⟩
    case round=>
     clear C3 fE;obtain⟨k,hk,rfl,rfl,Br,hb,jz⟩:=hrel;have dm:=zI7 nV.X ids k;have HT:=za4 Br;have HB:=za4 hb;have bC:=za4 jz;obtain⟨c0,c1,bZ,c3,c4⟩:=za7 hb.2.1;obtain⟨d0,d1⟩:=za1 hb.2.2;obtain⟨s0,gO⟩:=nmd (zn0 os ko ids k);rw[gO.X]at dm⊢;clear Br hb jz;by_cases ah:k<ids.length
     ·obtain⟨b,off,rfl,aJ⟩:=za3.some (za3.below HI.X HB.1) ah
      have ct:=aJ k ah;clear aJ;obtain⟨id,bH⟩:=nmd (ids.getD k 0);rw[bH.X]at ct;have f_:=z92 nV.X id;obtain⟨o0,H0⟩:=nmd (zd1 os ko id 0);obtain⟨o1,H1⟩:=nmd (zd1 os ko id 1);obtain⟨o2,H2⟩:=nmd (zd1 os ko id 2);obtain⟨o3,H3⟩:=nmd (zd1 os ko id 3);obtain⟨o4,H4⟩:=nmd (zd1 os ko id 4);obtain⟨o5,H5⟩:=nmd (zd1 os ko id 5);rw[H2.X]at f_;have lm:Zb (zn0 os ko ids (k+1)=s0+o2):=by
       show _=_;unfold zn0;rw[gO.X,bH.X,H2.X]
      obtain⟨tt,eO⟩:=nmd (zl8 os ko id)
      go_wp2_with fail
      have ig:=za4 ct;have il:Zb ((wr.alloc (zg #[ze zd 0,ze zd 0,ze zd 0,ze zd 0,ze zd 0,ze zd 0] 103)).cell? ⟨b,off+k,none⟩=_):=(((y5 wr.heap.size wr).alloc (zT _) _).cell (p:=⟨b,off+k,none⟩) (zV ct)).trans ct;have kX:Zb ((wr.alloc (zg #[ze zd 0,ze zd 0,ze zd 0,ze zd 0,ze zd 0,ze zd 0] 103)).heap[gv]? =_):=(xg _ _ (za2 bC.X)).trans bC.X;have cM:=zV ct;simp at cM;have aD:=za2 HB.2.1;have dU:=za2 HB.2.2
      go_region_held3 (fun W=>W.cell? ⟨w.heap.size,0,none⟩=some (ze zd n)/\W.cell? ⟨w.heap.size,1,none⟩=some (za a zs.length ac)/\W.cell? ⟨w.heap.size,2,none⟩=some (za ao ko co)/\W.cell? ⟨w.heap.size,3,none⟩=some (za av kv cv)/\W.cell? ⟨w.heap.size,4,none⟩=some (ze zd fine)/\W.cell? ⟨w.heap.size+1,1,none⟩=some (za (some ⟨b,off,none⟩) ids.length c2)/\W.cell? ⟨b,off+k,none⟩=some (ze zd id)) (first|with_reducible exact kS|with_reducible exact⟨(za5 (za5 (za5 (za5 (za5 (za5 kS.1 (y8 aD)) (y8 aD)) (y8 aD)) (y8 aD)) (y8 aD)) (y8 aD)),(za5 (za5 (za5 (za5 (za5 (za5 kS.2.1 (y8 aD)) (y8 aD)) (y8 aD)) (y8 aD)) (y8 aD)) (y8 aD)),(za5 (za5 (za5 (za5 (za5 (za5 kS.2.2.1 (y8 aD)) (y8 aD)) (y8 aD)) (y8 aD)) (y8 aD)) (y8 aD)),(za5 (za5 (za5 (za5 (za5 (za5 kS.2.2.2.1 (y8 aD)) (y8 aD)) (y8 aD)) (y8 aD)) (y8 aD)) (y8 aD)),(za5 (za5 (za5 (za5 (za5 (za5 kS.2.2.2.2.1 (y8 aD)) (y8 aD)) (y8 aD)) (y8 aD)) (y8 aD)) (y8 aD)),(za5 (za5 (za5 (za5 (za5 (za5 kS.2.2.2.2.2.1 (y8 dU)) (y8 dU)) (y8 dU)) (y8 dU)) (y8 dU)) (y8 dU)),(za5 (za5 (za5 (za5 (za5 (za5 kS.2.2.2.2.2.2 (y8 cM)) (y8 cM)) (y8 cM)) (y8 cM)) (y8 cM)) (y8 cM))⟩|go_keep) ((first
       |(go_at_call 88
         with_reducible refine(zr6 n fine id a ao av _ ac ko co kv cv os wr.drew ?_ aF.X aA).mono ?_
         ·exact HO.below HB.1.drew
         rintro e w2 ⟨rfl,aC⟩;rw[H0.X,H1.X,H2.X,H3.X,H4.X,H5.X,eO.X];have aS:=CR.below (CR.drew HB.X) aC;obtain⟨k0,k1,k2,k3,k4⟩:=za7 aS.2.1;have k5:=(za1 aS.2.2).2;have k6:=(aC.cell (p:=⟨b,off+k,none⟩) (zV ig.X)).trans ig.X;have kS:=xr k0 (xr k1 (xr k2 (xr k3 (xr k4 (xr k5 k6)))));have fD:=za4 aS;have fu:=za4 (za0 aC (za2 bC.X) bC.X);clear aC aS k0 k1 k2 k3 k4 k5 k6)
       |(go_at_call 88
         with_reducible refine(zr6 n fine id a ao av _ ac ko co kv cv os (wr.alloc (zg #[ze zd 0,ze zd 0,ze zd 0,ze zd 0,ze zd 0,ze zd 0] 103)).drew ?_ aF.X aA).mono ?_
         ·exact HO.below (CR.alloc HB.X (zg #[ze zd 0,ze zd 0,ze zd 0,ze zd 0,ze zd 0,ze zd 0] 103)).1.drew
         rintro e w2 ⟨rfl,aC⟩;rw[H0.X,H1.X,H2.X,H3.X,H4.X,H5.X,eO.X];have aS:=CR.below (CR.drew (CR.alloc HB.X (zg #[ze zd 0,ze zd 0,ze zd 0,ze zd 0,ze zd 0,ze zd 0] 103))) aC;obtain⟨k0,k1,k2,k3,k4⟩:=za7 aS.2.1;have k5:=(za1 aS.2.2).2;have k6:=(aC.cell (p:=⟨b,off+k,none⟩) (zV il.X)).trans il.X;have kS:=xr k0 (xr k1 (xr k2 (xr k3 (xr k4 (xr k5 k6)))));have fD:=za4 aS;have fu:=za4 (za0 aC (za2 kX.X) kX.X);obtain⟨z0,z1,z2,z3,z4,z5⟩:=zi0 (za0 aC (k:=wr.heap.size) (by simp) (zS wr (zg #[ze zd 0,ze zd 0,ze zd 0,ze zd 0,ze zd 0,ze zd 0] 103)));have zf:=fun i=>yZ _ _ i _ _ (za0 aC (k:=wr.heap.size) (by simp) (zS wr (zg #[ze zd 0,ze zd 0,ze zd 0,ze zd 0,ze zd 0,ze zd 0] 103)))
         have lU:Zb (w2.heap[wr.heap.size]? =_):=za0 aC (k:=wr.heap.size) (by simp) (zS wr (zg #[ze zd 0,ze zd 0,ze zd 0,ze zd 0,ze zd 0,ze zd 0] 103));clear aC aS k0 k1 k2 k3 k4 k5 k6)))
      all_goals(first
       |(have eh:Zb (CR w (zj (zj (zj (zj (zj (zj w2 ⟨wr.heap.size,0,none⟩ (ze zd o0)) ⟨wr.heap.size,1,none⟩ (ze zd o1)) ⟨wr.heap.size,2,none⟩ (ze zd o2)) ⟨wr.heap.size,3,none⟩ (ze zd o3)) ⟨wr.heap.size,4,none⟩ (ze zd o4)) ⟨wr.heap.size,5,none⟩ (ze zd o5)) _ _):=CR.set (CR.set (CR.set (CR.set (CR.set (CR.set fD.X HB.big) HB.big) HB.big) HB.big) HB.big) HB.big
         have k_:Zb ((zj (zj (zj (zj (zj (zj w2 ⟨wr.heap.size,0,none⟩ (ze zd o0)) ⟨wr.heap.size,1,none⟩ (ze zd o1)) ⟨wr.heap.size,2,none⟩ (ze zd o2)) ⟨wr.heap.size,3,none⟩ (ze zd o3)) ⟨wr.heap.size,4,none⟩ (ze zd o4)) ⟨wr.heap.size,5,none⟩ (ze zd o5)).heap[gv]? =_):=za8 (za8 (za8 (za8 (za8 (za8 fu.X (y8 (za2 bC.X))) (y8 (za2 bC.X))) (y8 (za2 bC.X))) (y8 (za2 bC.X))) (y8 (za2 bC.X))) (y8 (za2 bC.X));have bF:Zb ((zj (zj (zj (zj (zj (zj w2 ⟨wr.heap.size,0,none⟩ (ze zd o0)) ⟨wr.heap.size,1,none⟩ (ze zd o1)) ⟨wr.heap.size,2,none⟩ (ze zd o2)) ⟨wr.heap.size,3,none⟩ (ze zd o3)) ⟨wr.heap.size,4,none⟩ (ze zd o4)) ⟨wr.heap.size,5,none⟩ (ze zd o5)).heap[wr.heap.size]? =_):=zT2 lU.X;clear kS fD fu lU ig il kX ct z0 z1 z2 z3 z4 z5 zf;generalize(zj (zj (zj (zj (zj (zj w2 ⟨wr.heap.size,0,none⟩ (ze zd o0)) ⟨wr.heap.size,1,none⟩ (ze zd o1)) ⟨wr.heap.size,2,none⟩ (ze zd o2)) ⟨wr.heap.size,3,none⟩ (ze zd o3)) ⟨wr.heap.size,4,none⟩ (ze zd o4)) ⟨wr.heap.size,5,none⟩ (ze zd o5))=W at*;generalize wr.heap.size=g at*)
       |(have eh:Zb (CR w (w2.alloc (zg #[ze zd o0,ze zd o1,ze zd o2,ze zd o3,ze zd o4,ze zd o5] 103)) _ _):=CR.alloc fD.X _
         have k_:Zb ((w2.alloc (zg #[ze zd o0,ze zd o1,ze zd o2,ze zd o3,ze zd o4,ze zd o5] 103)).heap[gv]? =_):=(xg _ _ (za2 fu.X)).trans fu.X;have bF:Zb ((w2.alloc (zg #[ze zd o0,ze zd o1,ze zd o2,ze zd o3,ze zd o4,ze zd o5] 103)).heap[w2.heap.size]? =_):=zS _ _;clear kS fD fu ig il kX ct;generalize w2.alloc _=W at*;generalize w2.heap.size=g at*))
      all_goals
       clear c0 c1 bZ c3 c4 d0 d1 aD dU cM;have oR:k<=c2:=by omega
       have q1:=(za1 eh.2.2).2;have C6:=zt3 (HI.below eh.1) ah bH.X;have t0:=fun s:Kin W=>s.cell q1;have t1:=fun s:Kin W=>s.cell C6;cases tt
       ·have cm:Zb _:=HR.symm.trans (zT9 HC.X m'.X (zz6 ah (zz7 bH.X eO.X rfl)))
        go_wp2_with fail
        have aV:=Kin.there W;refine zb1 (by kernel_rfl) (by kernel_rfl) ?_
        repeat(go_big_quiet_step ((fail)))
        refine xA ?_;rintro _ ⟨s,rfl⟩;have d5:=za4 (eh.below s.below);generalize s.w=w3 at*;go_wp2;go_ret;exact⟨zl1 cm.symm,d5.1⟩
       ·obtain⟨hh,HH⟩:=nmd (z02 ids k id)
        cases hh
        ·have d_:Zb (zu4 os ko ids (k+1)):=zA1 HT.X (zz7 bH.X eO.X HH.X)
         go_wp2_with fail
         have aV:=Kin.there W;refine zb1 (by kernel_rfl) (by kernel_rfl) ?_
         repeat(go_big_quiet_step ((go_at_call 87;exact Kin.call_same (z41 _ k _ id ids _ false HH.X ((HI.below eh.1).below (Kin.below _)) hk (by omega)))))
         refine xA ?_;rintro _ ⟨s,rfl⟩;have d5:=za4 (eh.below s.below);have tF:=za4 (za0 s.below (za2 k_.X) k_.X);obtain⟨p0,p1,p2,p3,p4,p5⟩:=zi0 (za0 s.below (za2 bF.X) bF.X);clear q1 C6 t0 t1 eh k_ bF;generalize s.w=w3 at*;go_wp2;exact⟨⟨k+1,by omega,by go_num,by rw[lm.X],d_.X,d5.X,tF.X⟩,by simp[intOf];omega⟩
        ·have cm:Zb _:=HR.symm.trans (zT9 HC.X m'.X (zz6 ah (zz7 bH.X eO.X HH.X)))
         go_wp2_with fail
         have aV:=Kin.there W;refine zb1 (by kernel_rfl) (by kernel_rfl) ?_
         repeat(go_big_quiet_step ((go_at_call 87;exact Kin.call_same (z41 _ k _ id ids _ true HH.X ((HI.below eh.1).below (Kin.below _)) hk (by omega)))))
         refine xA ?_;rintro _ ⟨s,rfl⟩;have d5:=za4 (eh.below s.below);generalize s.w=w3 at*;go_wp2;go_ret;exact⟨zl1 cm.symm,d5.1⟩
     ·have bz:k=ids.length:=by omega
      have oL:Zb _:=z71 bJ (bz▸HT.X);have nG:Zb _:=bz▸gO.X;obtain⟨q0,q1,q2,q3,q4⟩:=za7 bC.X;clear bz;by_cases bE:v2<s0
      ·have cm:Zb _:=HR.symm.trans (y22 HC.X m'.X oL.X (by rw[nG.X,G2.X];exact bE))
       go_wp2;go_ret;exact⟨zl1 cm.symm,HB.1⟩
      ·have cm:Zb _:=HR.symm.trans (yt9 HC.X m'.X oL.X (by rw[nG.X,G2.X];exact bE))
       go_wp2;go_ret;exact⟨zl1 cm.symm,HB.1⟩
   ·have cm:Zb _:=HR.symm.trans (zT9 HC.X m'.X (zF4 bJ))
    go_wp2;go_ret;exact⟨zl1 cm.symm,C3.1⟩
theorem z74(n x y:Nat)(a:Option Zd)(dH ac:Nat)(zs:List Int)(w:zi)(hn:n<=16)(hx:x<n)(hy:y<n)(hl:zs.length=n*n)(aL:dH=n*n)(hA:za3 w a zs):
 Zc zh 109 #[.agg #[ze zd n,za a dH ac],ze zd x,ze zd y] w fun e w'=>e=.returned (ze zd (zs.getD (x*n+y) 0))/\Za w.heap.size w w':=by
 subst aL;have e_:=z03 n n hn hn;have fZ:x*n+y<n*n:=by
  have:=yK n (show x+1<=n by omega);rw[yT]at this;omega
 obtain⟨bb,off,rfl,aJ⟩:=hA.some (j:=x*n+y) (by omega);have ct:=aJ (x*n+y) (by omega);have ah:=zV ct;clear aJ hA;generalize zs.getD (x*n+y) 0=t at ct;have C5:wrap64 ((x:Int)*(n:Int))=(x:Int)*(n:Int):=xB _ (by rw[<-xD];omega);simp at ah;clear hl;go_enter Tryz.func109,Tryz.ntmps109;go_wp2;go_ret;exact⟨rfl,zP _⟩
theorem y43(n x y:Int)(a:Option Zd)(ac:Nat)(zs:List Int)(w:zi)(hm:zq9 n zs=true)(hx:0<=x/\x<n)(hy:0<=y/\y<n)(hA:za3 w a zs):
 Zc zh 109 #[.agg #[ze zd n,za a zs.length ac],ze zd x,ze zd y] w fun e w'=>e=.returned (ze zd (tmI n zs x y))/\Za w.heap.size w w':=by
 obtain⟨h1,h2,h3,_⟩:=zm1 hm;obtain⟨N,rfl⟩:∃N:Nat,n=N:=⟨n.toNat,by omega⟩;obtain⟨X,rfl⟩:∃X:Nat,x=X:=⟨x.toNat,by omega⟩;obtain⟨Y,rfl⟩:∃Y:Nat,y=Y:=⟨y.toNat,by omega⟩;have hl:zs.length=N*N:=by rw[<-xD]at h3;omega
 exact z74 N X Y a zs.length ac zs w (by omega) (by omega) (by omega) hl hl hA
theorem zP0{zs:List Int}{id:Int}{k:Nat}(h:∀j,j<k->og6 zs j 0≠id)(hk:og6 zs k 0≠id):∀j,j<k+1->og6 zs j 0≠id:=by
 intro j hj;by_cases e:j=k
 ·rw[e];exact hk
 ·exact h j (by omega)
theorem zR7{zs:List Int}{id:Int}{k:Nat}(h:∀j,j<k->og5 zs j 0≠id)(hk:og5 zs k 0≠id):∀j,j<k+1->og5 zs j 0≠id:=by
 intro j hj;by_cases e:j=k
 ·rw[e];exact hk
 ·exact h j (by omega)
theorem zc2(n lo hi:Int)(w:zi):
 Zc zh 32 #[ze zd n,ze zd lo,ze zd hi] w fun e w'=>e=.returned (.bool (inB n lo hi))/\w'=w:=by
 by_cases h1:lo<=n
 ·by_cases h2:n<=hi
  ·have h3:=zf0 ⟨h1,h2⟩
   rw[h3];go_enter Tryz.func32,Tryz.ntmps32;go_wp2;go_ret;exact⟨by simp,rfl⟩
  ·have h3:inB n lo hi=false:=zx2 (by omega)
   rw[h3];go_enter Tryz.func32,Tryz.ntmps32;go_wp2;go_ret;exact⟨by simp,rfl⟩
 ·have h3:inB n lo hi=false:=zx2 (by omega)
  rw[h3];go_enter Tryz.func32,Tryz.ntmps32;go_wp2;go_ret;exact⟨by simp,rfl⟩
def zT1(w:zi)(q:Nat)(a:Option Zd)(bs:List Int):Prop:=
 ∀j,j<bs.length->∃b off,a=some ⟨b,off,none⟩/\b≠q/\w.cell? ⟨b,off+j,none⟩=some (.int .u8 (bs.getD j 0))/\0<=bs.getD j 0/\bs.getD j 0<256
def RD(w:zi)(q:Nat)(a:Option Zd)(bs:List Int)(c p:Nat):Prop:=
 w.heap[q]? =some (zg #[za a bs.length c,ze zd p] 100 (0,0))/\p<=bs.length/\zT1 w q a bs/\bs.length<=1048576
theorem zT1.grown{w w':zi}{q:Nat}{a:Option Zd}{bs:List Int}(h:zT1 w q a bs)(hg:w.grownBy w' (some q)):zT1 w' q a bs:=by
 intro j hj;obtain⟨b,off,e,aq,hc,hv⟩:=h j hj;refine⟨b,off,e,aq,?_,hv⟩;have ah:=zV hc;rw[World.cell?_of_block (hg.block b ah (fun e=>aq (by simpa using e)))];exact hc
theorem RD.below{w w':zi}{q:Nat}{a:Option Zd}{bs:List Int}{c p:Nat}(h:RD w q a bs c p)(hb:Za w.heap.size w w'):RD w' q a bs c p:=by
 refine⟨za0 hb (za2 h.1) h.1,h.2.1,fun j hj=> ?_,h.2.2.2⟩;obtain⟨b,off,e,aq,hc,hv⟩:=h.2.2.1 j hj;exact⟨b,off,e,aq,(hb.cell (p:=⟨b,off+j,none⟩) (zV hc)).trans hc,hv⟩
theorem RD.put{w:zi}{q:Nat}{a:Option Zd}{bs:List Int}{c p p':Nat}(h:RD w q a bs c p)(hp:p'<=bs.length):RD (w.setCell ⟨q,1,none⟩ (ze zd p')) q a bs c p':=by
 refine⟨?_,hp,h.2.2.1.grown (zb3 w q 1 _),h.2.2.2⟩;have:=xb w q 1 _ _ (ze zd p') h.1;simpa using this
def yB5(w:zi)(q:Nat)(a:Option Zd)(bs:List Int)(c:Nat)(lo hi:Int)(e:Ending)(w':zi):Prop:=
 ∃(v:Int) (p':Nat),e=.returned (ze zd v)/\lo<=v/\v<hi/\RD w' q a bs c p'/\w.grownBy w' (some q)
theorem zs6{w w':zi}{q:Nat}(h:w.grownBy w' (some q)):w.grownBy w'.drew (some q):=⟨h.os,h.tape,h.output,h.size,h.block⟩
theorem zD1(q p c:Nat)(a:Option Zd)(bs:List Int)(w:zi)(h:RD w q a bs c p):
 Zc zh 76 #[.pointer (some ⟨q,0,none⟩)] w (yB5 w q a bs c 0 256):=by
 have H:=za4 h;obtain⟨c0,c1⟩:=za1 h.1;have hp:=h.2.1;have QU:=h.2.2.2;clear h;by_cases ah:p<bs.length
 ·obtain⟨b,off,rfl,aq,hc,h1,h2⟩:=H.2.2.1 p ah
  obtain⟨v,HV⟩:=nmd (bs.getD p 0);rw[HV.X]at hc h1 h2;have P_:¬((bs.length:Int)<=(p:Int)):=by omega
  have Np:IntKind.i64.wrap ((p:Int)+1)=((p+1:Nat):Int):=by rw[xz _ (by omega)];omega
  have cf:=fun i=>yZ _ _ i _ _ H.1;go_enter Tryz.func76,Tryz.ntmps76
  go_wp2_with fail
  go_region
  all_goals
   have aX:¬bs.length<=p:=by omega
   go_wp2_with fail
   have r1:=(H.put (p':=p+1) (by omega)).below (y5 _ _).drew;have g1:=zs6 (zb3 w q 1 (ze zd ((p+1:Nat):Int)));rw[show((p+1:Nat):Int)=(p:Int)+1 by omega]at r1 g1;generalize(w.setCell ⟨q,1,none⟩ _).drew=W1 at*;have R1:=za4 r1;have G1:Zb _:=g1;clear c0 c1 hc cf r1 g1;obtain⟨c0,c1⟩:=za1 R1.1;obtain⟨b2,cW,e2,_,hc,_⟩:=R1.2.2.1 p ah;simp at e2;obtain⟨rfl,rfl⟩:=e2;rw[HV.X]at hc;rw[show((p+1:Nat):Int)=(p:Int)+1 by omega]at c1;have dX:IntKind.i64.wrap ((p:Int)+1 - 1)=(p:Int):=by rw[xz _ (by omega)];omega
   have QM:(0:Int)<=(p:Int):=by omega
   have oM:IntKind.i64.wrap v=v:=xz _ (by omega);go_region
   all_goals
    go_wp2;go_ret;exact⟨v,p+1,rfl,h1,h2,R1.below (y5 _ _).drew,zs6 G1.X⟩
 ·have dF:(bs.length:Int)<=(p:Int):=by omega
  have aX:bs.length<=p:=by omega
  go_enter Tryz.func76,Tryz.ntmps76
  go_wp2_with fail
  go_region
  all_goals
   go_wp2;go_ret;exact⟨0,p,rfl,by omega,by omega,H.below (y5 _ _).drew,zs6 (zt1 w q)⟩
theorem zc5(q p c:Nat)(n:Int)(a:Option Zd)(bs:List Int)(w:zi)(h:RD w q a bs c p)(hn:n<=65536):
 Zc zh 31 #[.pointer (some ⟨q,0,none⟩),ze zd n] w (yB5 w q a bs c 0 (max n 1)):=by
 have H:=za4 h;clear h;by_cases h1:n<=1
 ·go_enter Tryz.func31,Tryz.ntmps31
  go_wp2;go_ret;exact⟨0,p,rfl,by omega,by omega,H.X,zt1 w q⟩
 ·by_cases h2:n<=256
  ·have Cn:¬n=0:=by omega
   go_enter Tryz.func31,Tryz.ntmps31
   go_wp2_with fail
   refine(zD1 q p c a bs w H.X).mono ?_;rintro e w1 ⟨v,p1,rfl,lY,jK,hr,hg⟩;have R1:=za4 hr;have G1:Zb _:=hg;clear hr hg;go_wp2;go_ret;exact⟨v % n,p1,rfl,Int.emod_nonneg _ (by omega),by have:=Int.emod_lt_of_pos v (show 0<n by omega);omega,R1.X,G1.X⟩
  ·have Cn:¬n=0:=by omega
   go_enter Tryz.func31,Tryz.ntmps31
   go_wp2_with fail
   refine(zD1 q p c a bs w H.X).mono ?_;rintro e w1 ⟨v,p1,rfl,lY,jK,hr,hg⟩;have R1:=za4 hr;have G1:Zb _:=hg;clear hr hg;obtain⟨x,hx⟩:∃x,v*256=x:=⟨_,rfl⟩;have Gb:IntKind.i64.wrap (v*256)=x:=by rw[xz _ (by omega)];exact hx
   have dp:0<=x/\x<=65280:=by omega
   go_wp2_with fail
   refine(zD1 q p1 c a bs w1 R1.X).mono ?_;rintro e w2 ⟨u,p2,rfl,Pw,Of,hr,hg⟩;have R2:=za4 hr;have G2:Zb _:=hg;clear hr hg;obtain⟨y,hy⟩:∃y,x+u=y:=⟨_,rfl⟩;have QX:IntKind.i64.wrap (x+u)=y:=by rw[xz _ (by omega)];exact hy
   have bX:0<=y/\y<=65535:=by omega
   clear Gb lY jK Pw Of;go_wp2;go_ret;exact⟨y % n,p2,by first|rfl|(subst hy;subst hx;rfl),Int.emod_nonneg _ (by omega),by have:=Int.emod_lt_of_pos y (show 0<n by omega);omega,R2.X,zb4 G1.X G2.X⟩
theorem zk6(q p c:Nat)(n:Int)(a:Option Zd)(bs:List Int)(w:zi)(h:RD w q a bs c p)(h1:0<=n)(hn:n<=65536):
 Zc zh 29 #[.pointer (some ⟨q,0,none⟩),ze zd n] w fun e w'=>∃(v:Bool) (p':Nat),e=.returned (.bool v)/\RD w' q a bs c p'/\w.grownBy w' (some q):=by
 have H:Zb _:=h;clear h;have iR:IntKind.i64.wrap (n - 1)=n - 1:=xz _ (by omega);go_enter Tryz.func29,Tryz.ntmps29
 go_wp2_with fail
 refine(zc5 q p c n a bs w H.X hn).mono ?_;rintro e w1 ⟨v,p1,rfl,lY,jK,hr,hg⟩;have R1:Zb _:=hr;have G1:Zb _:=hg;clear hr hg lY jK;go_wp2;go_ret;exact⟨_,p1,rfl,R1.X,G1.X⟩
theorem yK7(x y:Int):0<=bits BinOp.or IntKind.u64 x y/\bits BinOp.or IntKind.u64 x y<18446744073709551616:=by
 unfold bits;rw[IntKind.wrap_u64];omega
def yK4(w:zi)(q:Nat)(a:Option Zd)(bs:List Int)(c:Nat)(e:Ending)(w':zi):Prop:=
 ∃(v:Int) (p':Nat),e=.returned (.int .u64 v)/\0<=v/\v<18446744073709551616/\RD w' q a bs c p'/\w.grownBy w' (some q)
theorem y38(q p c:Nat)(a:Option Zd)(bs:List Int)(w:zi)(h:RD w q a bs c p):
 Zc zh 111 #[.pointer (some ⟨q,0,none⟩)] w (yK4 w q a bs c):=by
 have H:Zb _:=h;clear h;go_enter Tryz.func111,Tryz.ntmps111
 go_wp2_with fail
 go_loopw[3,4] (fun tx t wr=>∃(k p':Nat) (x:Int),k<=8/\t=ze zd k/\tx=.int .u64 x/\0<=x/\x<18446744073709551616/\RD wr q a bs c p'/\w.grownBy wr (some q)) (fun _ t _=>8 - (intOf t).toNat)
 case atStart=>exact⟨0,p,0,by omega,rfl,rfl,by omega,by omega,H.X,zt1 w q⟩
 case round=>
  obtain⟨k,p1,x,hk,rfl,rfl,dp,ci,hr,hg⟩:=hrel;have R1:Zb _:=hr;have G1:Zb _:=hg;clear hr hg;by_cases ah:k<8
  ·have ng:(k:Int)<8:=by omega
   have vl:IntKind.i64.wrap ((k:Int)+1)=((k+1:Nat):Int):=by rw[xz _ (by omega)];omega
   go_wp2_with fail
   refine(zD1 q p1 c a bs wr R1.X).mono ?_;rintro e w2 ⟨v,p2,rfl,lY,jK,hr,hg⟩;have R2:Zb _:=hr;have G2:Zb _:=zb4 G1.X hg;clear hr hg;go_wp2;go_roundw
   case rel=>
    obtain⟨b1,b2⟩:=yK7 (IntKind.u64.wrap (x*256)) v;exact⟨k+1,p2,_,by omega,by first|rfl|go_num,rfl,b1,b2,R2.X,G2.X⟩
   case measure=>simp[intOf];omega
  ·have cV:k=8:=by omega
   subst cV;go_wp2;go_ret;exact⟨x,p1,rfl,dp,ci,R1.X,G1.X⟩
theorem zq8(w:zi)(o:Obj)(q:Nat):w.grownBy (w.alloc o) (some q):=⟨rfl,rfl,rfl,by simp,fun k hk _=>xg _ _ hk⟩
theorem ya5(n:Int): -9223372036854775808<=wrap64 n/\wrap64 n<9223372036854775808:=by
 unfold wrap64;omega
def yG9(w:zi)(q:Nat)(a:Option Zd)(bs:List Int)(c:Nat)(e:Ending)(w':zi):Prop:=
 ∃(v:Int) (p':Nat),e=.returned (ze zd v)/\ -9223372036854775808<=v/\v<9223372036854775808/\RD w' q a bs c p'/\w.grownBy w' (some q)
def yM4(w:zi)(q:Nat)(a:Option Zd)(bs:List Int)(c:Nat)(e:Ending)(w':zi):Prop:=yG9 w q a bs c e w'
theorem yJ9{lo hi:Int}(Dr: -3000000000<=lo)(mv:lo<=3000000000)(AD: -9223372036854775808<=hi)(CZ:hi<9223372036854775808)(h:lo<=hi):¬IntKind.u64.wrap (IntKind.i64.wrap (IntKind.i64.wrap (hi - lo)+1))=0/\0<IntKind.u64.wrap (IntKind.i64.wrap (IntKind.i64.wrap (hi - lo)+1))/\IntKind.u64.wrap (IntKind.i64.wrap (IntKind.i64.wrap (hi - lo)+1))<18446744073709551616:=by
 rw[IntKind.wrap_u64,xu,xu];omega
theorem y68(q p c:Nat)(lo hi:Int)(a:Option Zd)(bs:List Int)(w:zi)(h:RD w q a bs c p)(Dr: -3000000000<=lo)(mv:lo<=3000000000)(AD: -9223372036854775808<=hi)(CZ:hi<9223372036854775808):
 Zc zh 75 #[.pointer (some ⟨q,0,none⟩),ze zd lo,ze zd hi] w (yG9 w q a bs c):=by
 have H:=za4 h;clear h;go_enter Tryz.func75,Tryz.ntmps75
 go_wp2_with fail
 refine(zc5 q p c 8 a bs w H.X (by omega)).mono ?_;rintro e w1 ⟨v,p1,rfl,lY,jK,hr,hg⟩;have R1:=za4 hr;have G1:Zb _:=hg;clear hr hg;rcases(show v=0∨v=1∨(¬v=0/\¬v=1)from by omega)with rfl|rfl|⟨h0,h1⟩
 ·go_wp2
  go_ret;exact⟨lo,p1,rfl,by omega,by omega,R1.X,G1.X⟩
 ·go_wp2
  go_ret;exact⟨hi,p1,rfl,by omega,by omega,R1.X,G1.X⟩
 ·have e0:(v==0)=false:=by simpa using h0
  have e1:(v==1)=false:=by simpa using h1
  by_cases ah:hi<lo
  ·go_wp2
   go_ret;exact⟨lo,p1,rfl,by omega,by omega,R1.X,G1.X⟩
  ·obtain⟨pC,jT,vt⟩:=yJ9 Dr mv AD CZ (by omega)
   obtain⟨x1,jw⟩:∃x,IntKind.i64.wrap (hi - lo)=x:=⟨_,rfl⟩;rw[jw]at pC jT vt;obtain⟨x2,g_⟩:∃x,IntKind.i64.wrap (x1+1)=x:=⟨_,rfl⟩;rw[g_]at pC jT vt;obtain⟨d,HD⟩:∃x,IntKind.u64.wrap x2=x:=⟨_,rfl⟩;rw[HD]at pC jT vt;have Mm:wrap64 (hi - lo)=x1:=by rw[<-jw,xu];unfold wrap64;rfl
   have NG:wrap64 (x1+1)=x2:=by rw[<-g_,xu];unfold wrap64;rfl
   clear lY jK
   go_wp2_with fail
   refine(y38 q p1 c a bs w1 R1.X).mono ?_;rintro e w2 ⟨x,p2,rfl,dp,ci,hr,hg⟩;have R2:=za4 hr;have G2:Zb _:=zb4 G1.X hg;clear hr hg;have hdn:¬d=0:=pC;go_wp2;go_ret;have hb:=ya5 (lo+wrap64 (x / 2 % d));exact⟨_,p2,rfl,hb.1,hb.2,R2.X,G2.X⟩
theorem zn5(q p c:Nat)(lo hi:Int)(a:Option Zd)(bs:List Int)(w:zi)(h:RD w q a bs c p)(Dr: -3000000000<=lo)(mv:lo<=3000000000)(AD: -9223372036854775808<=hi)(CZ:hi<9223372036854775808):
 Zc zh 30 #[.pointer (some ⟨q,0,none⟩),ze zd lo,ze zd hi] w (yM4 w q a bs c):=by
 have H:=za4 h;clear h;go_enter Tryz.func30,Tryz.ntmps30
 go_wp2_with fail
 refine(zk6 q p c 24 a bs w H.X (by omega) (by omega)).mono ?_;rintro e w1 ⟨v,p1,rfl,hr,hg⟩;have R1:=za4 hr;have G1:Zb _:=hg;clear hr hg;cases v
 ·go_wp2_with fail
  refine(y68 q p1 c lo hi a bs w1 R1.X Dr mv AD CZ).mono ?_;rintro e w2 ⟨x,p2,rfl,dp,ci,hr,hg⟩;have R2:=za4 hr;have G2:Zb _:=zb4 G1.X hg;clear hr hg;go_wp2;go_ret;exact⟨x,p2,rfl,dp,ci,R2.X,G2.X⟩
 ·have iR:IntKind.i64.wrap (lo - 1)=lo - 1:=xz _ (by omega)
  obtain⟨h2,Ms⟩:∃x,IntKind.i64.wrap (hi+1)=x:=⟨_,rfl⟩;have E_:wrap64 (hi+1)=h2:=by rw[<-Ms,xu];unfold wrap64;rfl
  have Qt: -9223372036854775808<=h2/\h2<9223372036854775808:=by rw[<-E_];exact ya5 _
  go_wp2_with fail
  have RA:Zb (RD (w1.alloc (zg #[ze zd (lo - 1),ze zd h2,ze zd (-9223372036854775808),ze zd 9223372036854775807] 2)) q a bs c p1):=R1.below (zP _);have NA:Zb ((w1.alloc (zg #[ze zd (lo - 1),ze zd h2,ze zd (-9223372036854775808),ze zd 9223372036854775807] 2)).heap[w1.heap.size]? =_):=zS _ _;have HQ:Zb _:=za2 R1.1;refine(zc5 q p1 c 4 a bs _ RA.X (by omega)).mono ?_;rintro e w2 ⟨x,p2,rfl,dp,ci,hr,hg⟩;have R2:=za4 hr;have G2:Zb _:=zb4 (zb4 G1.X (zq8 w1 _ q)) hg;have N2:=(hg.block _ (za2 NA.X) (fun e=>by have:=HQ.X;simp at e;omega)).trans NA.X;clear hr hg;have n0:=zU _ _ 0 _ _ _ N2;have n1:=zU _ _ 1 _ _ _ N2;have n2:=zU _ _ 2 _ _ _ N2;have n3:=zU _ _ 3 _ _ _ N2;simp at n0 n1 n2 n3;clear N2;rcases(show x=0∨x=1∨x=2∨x=3 from by omega)with rfl|rfl|rfl|rfl
  all_goals
   go_wp2;go_ret;exact⟨_,p2,rfl,by omega,by omega,R2.X,G2.X⟩
def zO1(w:zi)(a:Option Zd)(bs:List Int):Prop:=
 ∀j,j<bs.length->∃b off,a=some ⟨b,off,none⟩/\w.cell? ⟨b,off+j,none⟩=some (.int .u8 (bs.getD j 0))/\0<=bs.getD j 0/\bs.getD j 0<256
theorem yn0(a:Option Zd)(c:Nat)(bs:List Int)(w:zi)(h:zO1 w a bs)(hl:bs.length<=1048576):
 Zc zh 25 #[za a bs.length c] w fun e w'=>e=.returned (.pointer (some ⟨w.heap.size,0,none⟩))/\Za w.heap.size w w'/\RD w' w.heap.size a bs c 0:=by
 have H:Zb _:=h;clear h;go_enter Tryz.func25,Tryz.ntmps25;go_wp2;go_ret;refine⟨rfl,zP _,zS _ _,xi _,fun j hj=> ?_,hl⟩;obtain⟨b,off,e,hc,hv⟩:=H.X j hj;have ah:=zV hc;simp at ah;exact⟨b,off,e,by omega,(((y5 w.heap.size w).alloc (zT _) _).cell (p:=⟨b,off+j,none⟩) ah).trans hc,hv⟩
theorem zu7{w w1 w2:zi}{q:Nat}(hb:Za w.heap.size w w1)(hq:w.heap.size<=q)(hg:w1.grownBy w2 (some q)):Za w.heap.size w w2:=hb.grown hg hb.size (fun k e=>by injection e with e;omega)
end Go.Proofs.YtkchnomkiboihaaGreat
namespace Go.Proofs.YtkchnomkiboihaaGreat
open Q
end Go.Proofs.YtkchnomkiboihaaGreat
namespace Go.Proofs.YtkchnomkiboihaaGreat
open RowKit renaming Below→Za,Hid→Zb
open Go renaming Calls→Zc,Addr→Zd
open Value renaming slice→za,int→ze
open IntKind renaming i64→zd
open Obj renaming cells→zg
open Proofs.Tryz renaming prog→zh
open Go renaming World→zi
open World renaming setCell→zj
open Go.RowKit
open Q
theorem z76{n y:Nat}(hy:y<n)(P:Nat->Prop)(h:P (y+1)):
 (∃k,k<=n/\ze zd ((y:Int)+1)=ze zd (k:Int)/\P k)/\n - (intOf (ze zd ((y:Int)+1))).toNat<n - (intOf (ze zd (y:Int))).toNat:=by
 have e:((y:Int)+1)=((y+1:Nat):Int):=by simp
 rw[e];refine⟨⟨y+1,hy,rfl,h⟩,?_⟩;simp[intOf];omega
theorem y41(q p c:Nat)(a:Option Zd)(bs:List Int)(w:zi)(h:RD w q a bs c p):
 Zc zh 28 #[.pointer (some ⟨q,0,none⟩)] w (yG9 w q a bs c):=by
 have H:=za4 h;clear h;go_enter Tryz.func28,Tryz.ntmps28
 go_wp2_with fail
 refine(zk6 q p c 20 a bs w H.X (by omega) (by omega)).mono ?_;rintro e w1 ⟨v,p1,rfl,hr,hg⟩;have R1:=za4 hr;have G1:=za4 hg;clear hr hg;cases v
 ·go_wp2_with fail
  refine(zc5 q p1 c 1000 a bs w1 R1.X (by omega)).mono ?_;rintro e w2 ⟨x,p2,rfl,dp,ci,hr,hg⟩;have R2:=za4 hr;have G2:Zb (w.grownBy w2 (some q)):=zb4 G1.X hg;clear hr hg;go_wp2;go_ret;exact⟨x,p2,rfl,by omega,by omega,R2.X,G2.X⟩
 ·go_wp2_with fail
  refine(zn5 q p1 c 0 2147483647 a bs w1 R1.X (by omega) (by omega) (by omega) (by omega)).mono ?_;rintro e w2 ⟨x,p2,rfl,dp,ci,hr,hg⟩;have R2:=za4 hr;have G2:Zb (w.grownBy w2 (some q)):=zb4 G1.X hg;clear hr hg;go_wp2;go_ret;exact⟨x,p2,rfl,dp,ci,R2.X,G2.X⟩
theorem z35(n fine id:Int)(a ao av:Option Zd)(lt ac ko co kv cv:Nat)(zs:List Int)(w:zi)(hA:za3 w ao zs)(hl:zs.length=ko*6)(aL:ko<=9223372036854775807):
 Zc zh 139 #[.agg #[ze zd n,za a lt ac,za ao ko co,za av kv cv,ze zd fine],ze zd id] w fun e w'=>e=.returned (.tuple #[.agg #[ze zd (zd1 zs ko id 0),ze zd (zd1 zs ko id 1),ze zd (zd1 zs ko id 2),ze zd (zd1 zs ko id 3),ze zd (zd1 zs ko id 4),ze zd (zd1 zs ko id 5)],.bool (zl8 zs ko id)])/\Za w.heap.size w w':=by
 have aU:Zb (Za w.heap.size w ((w.alloc (zg #[ze zd n,za a lt ac,za ao ko co,za av kv cv,ze zd fine] 30)).alloc (zg #[ze zd 0,ze zd 0,ze zd 0,ze zd 0,ze zd 0,ze zd 0] 103))):=(zP _).alloc (by simp) _;have HA:=za4 hA;have HL:Zb _:=hl;clear hA hl;go_enter Tryz.func139,Tryz.ntmps139
 go_wp2_with fail
 have Q0:Zb (((w.alloc (zg #[ze zd n,za a lt ac,za ao ko co,za av kv cv,ze zd fine] 30)).alloc (zg #[ze zd 0,ze zd 0,ze zd 0,ze zd 0,ze zd 0,ze zd 0] 103)).heap[w.heap.size+1]? =_):=xh _ _ _;generalize(w.alloc _).alloc _=W at*;go_loopw[11] (fun t wr=>∃k:Nat,k<=ko/\t=ze zd k/\(∀j,j<k->og6 zs j 0≠id)/\Za w.heap.size w wr/\wr.heap[w.heap.size+1]? =some (zg #[ze zd 0,ze zd 0,ze zd 0,ze zd 0,ze zd 0,ze zd 0] 103 (0,0))) (fun t _=>ko - (intOf t).toNat)
 case atStart=>exact⟨0,xi _,rfl,fun j hj=>by omega,aU.X,Q0.X⟩
 case round=>
  clear aU Q0;obtain⟨k,hk,rfl,a_,hb,hq⟩:=hrel;have HN:Zb _:=a_;have HB:Zb _:=hb;have HQ:Zb _:=hq;obtain⟨q0,q1,q2,q3,q4,q5⟩:=zi0 hq;have f0:=fun i=>yZ _ _ i _ _ hq;have sS:=za2 hq;clear a_ hb hq;by_cases ah:k<ko
  ·obtain⟨b,off,rfl,aJ⟩:=za3.some (za3.below HA.X HB.X) (j:=k*6) (by rw[HL.X];omega)
   obtain⟨r0,r1,r2,r3,r4,r5⟩:=zu5 aJ HL.X k ah;clear aJ;obtain⟨o0,H0⟩:=nmd (og6 zs k 0);obtain⟨o1,H1⟩:=nmd (og6 zs k 1);obtain⟨o2,H2⟩:=nmd (og6 zs k 2);obtain⟨o3,H3⟩:=nmd (og6 zs k 3);obtain⟨o4,H4⟩:=nmd (og6 zs k 4);obtain⟨o5,H5⟩:=nmd (og6 zs k 5);rw[H0.X]at r0;rw[H1.X]at r1;rw[H2.X]at r2;rw[H3.X]at r3;rw[H4.X]at r4;rw[H5.X]at r5;have cM:=zV r0;simp at cM;by_cases he:o0=id
   ·have mu:(o0==id)=true:=by simp[he]
    have HF:Zb _:=yw9 ah (by rw[H0.X];exact he) HN.X;clear he;go_wp2;refine xe (v:=.tuple #[.agg #[ze zd o0,ze zd o1,ze zd o2,ze zd o3,ze zd o4,ze zd o5],.bool true]) (by simp[results,Tryz.results139,go_sem,sS,q0,q1,q2,q3,q4,q5]) rfl ⟨?_,?_⟩
    ·rw[yl8 HF.X];simp only[yl4 HF.X,H0.X,H1.X,H2.X,H3.X,H4.X,H5.X]
    ·repeat(first|with_reducible exact HB.X|with_reducible refine xq ?_ (by simp<;>omega) _|with_reducible refine xG ?_ (by simp[zj];exact HB.X.size) _)
   ·have mu:(o0==id)=false:=by simp[he]
    have HS:Zb _:=zP0 HN.X (by rw[H0.X];exact he);clear he;go_wp2;refine⟨⟨k+1,by omega,by go_num,HS.X,HB.X.alloc HB.X.size _,?_⟩,by simp[intOf];omega⟩;rw[xg _ _ (za2 HQ.X)];exact HQ.X
  ·have dw:k=ko:=by omega
   have HF:Zb _:=zZ7 (dw▸HN.X);clear dw;go_wp2;refine xe (v:=.tuple #[.agg #[ze zd 0,ze zd 0,ze zd 0,ze zd 0,ze zd 0,ze zd 0],.bool false]) (by simp[results,Tryz.results139,go_sem,q0,q1,q2,q3,q4,q5]) rfl ⟨?_,?_⟩
   ·rw[zN4 HF.X];simp only[zN3 HF.X]
   ·repeat(first|with_reducible exact HB.X|with_reducible refine xq ?_ (by simp<;>omega) _)
theorem ya2(a:Option Zd)(m ac:Nat)(id:Int)(zs:List Int)(w:zi)(hA:za3 w a zs)(hm:m<=zs.length)(aL:m<=9223372036854775807):
 Zc zh 168 #[za a m ac,ze zd id] w fun e w'=>e=.returned (ze zd (zC0 zs m id))/\w'=w:=by
 have HA:Zb _:=hA;clear hA;obtain⟨r,HR⟩:=nmd (zC0 zs m id);rw[HR.X];go_enter Tryz.func168,Tryz.ntmps168
 go_wp2_with fail
 go_loop [8] (fun t=>∃k:Nat,k<=m/\t=ze zd k/\∀j,j<k->zs.getD j 0≠id) (fun t=>m - (intOf t).toNat)
 case atStart=>exact⟨0,xi _,rfl,fun j hj=>by omega⟩
 case round=>
  obtain⟨k,hk,rfl,a_⟩:=hrel;have HN:Zb _:=a_;clear a_;by_cases ah:k<m
  ·obtain⟨b,off,rfl,aJ⟩:=za3.some HA.X (j:=k) (by omega)
   have ct:=aJ k (by omega);clear aJ;obtain⟨t,HT⟩:=nmd (zs.getD k 0);rw[HT.X]at ct;by_cases he:id=t
   ·have mu:(id==t)=true:=by simp[he]
    have HV:Zb _:=HR.symm.trans (zP5 ah (HT.trans he.symm) HN.X);clear he;go_wp2;go_ret;exact⟨zl1 HV.symm,rfl⟩
   ·have mu:(id==t)=false:=by simp[he]
    have HS:Zb _:=ya9 HN.X (by rw[HT.X];exact fun x=>he x.symm);clear he;go_wp2;exact⟨⟨k+1,by omega,by go_num,HS.X⟩,by simp[intOf];omega⟩
  ·have bz:k=m:=by omega
   have HV:Zb _:=HR.symm.trans (zE5 (bz▸HN.X));clear bz;go_wp2;go_ret;exact⟨zl1 HV.symm,rfl⟩
theorem zA5(a:Option Zd)(m ac:Nat)(id:Int)(zs:List Int)(w:zi)(hA:za3 w a zs)(hm:m<=zs.length)(aL:m<=9223372036854775807):
 Zc zh 178 #[za a m ac,ze zd id] w fun e w'=>e=.returned (.bool (z02 zs m id))/\w'=w:=by
 have HA:Zb _:=hA;clear hA;rw[<-y74];obtain⟨t,HT⟩:=nmd (zC0 zs m id);rw[HT.X];go_enter Tryz.func178,Tryz.ntmps178
 go_wp2_with fail
 refine(ya2 a m ac id zs w HA.X hm aL).mono ?_;rintro e w1 ⟨rfl,rfl⟩;rw[HT.X];go_wp2;go_ret;exact⟨by simp,rfl⟩
theorem zE2(n fine id:Int)(a ao av:Option Zd)(lt ac ko co kv cv:Nat)(zs:List Int)(w:zi)(hA:za3 w av zs)(hl:zs.length=kv*5)(aL:kv<=9223372036854775807):
 Zc zh 148 #[.agg #[ze zd n,za a lt ac,za ao ko co,za av kv cv,ze zd fine],ze zd id] w fun e w'=>e=.returned (.tuple #[.agg #[ze zd (zc4 zs kv id 0),ze zd (zc4 zs kv id 1),ze zd (zc4 zs kv id 2),ze zd (zc4 zs kv id 3),ze zd (zc4 zs kv id 4)],.bool (fnd5T zs kv id)])/\Za w.heap.size w w':=by
 have aU:Zb (Za w.heap.size w ((w.alloc (zg #[ze zd n,za a lt ac,za ao ko co,za av kv cv,ze zd fine] 30)).alloc (zg #[ze zd 0,ze zd 0,ze zd 0,ze zd 0,ze zd 0] 107))):=(zP _).alloc (by simp) _;have HA:=za4 hA;have HL:Zb _:=hl;clear hA hl;go_enter Tryz.func148,Tryz.ntmps148
 go_wp2_with fail
 have Q0:Zb (((w.alloc (zg #[ze zd n,za a lt ac,za ao ko co,za av kv cv,ze zd fine] 30)).alloc (zg #[ze zd 0,ze zd 0,ze zd 0,ze zd 0,ze zd 0] 107)).heap[w.heap.size+1]? =_):=xh _ _ _;generalize(w.alloc _).alloc _=W at*;go_loopw[11] (fun t wr=>∃k:Nat,k<=kv/\t=ze zd k/\(∀j,j<k->og5 zs j 0≠id)/\Za w.heap.size w wr/\wr.heap[w.heap.size+1]? =some (zg #[ze zd 0,ze zd 0,ze zd 0,ze zd 0,ze zd 0] 107 (0,0))) (fun t _=>kv - (intOf t).toNat)
 case atStart=>exact⟨0,xi _,rfl,fun j hj=>by omega,aU.X,Q0.X⟩
 case round=>
  clear aU Q0;obtain⟨k,hk,rfl,a_,hb,hq⟩:=hrel;have HN:Zb _:=a_;have HB:Zb _:=hb;have HQ:Zb _:=hq;obtain⟨q0,q1,q2,q3,q4⟩:=za7 hq;have f0:=fun i=>yZ _ _ i _ _ hq;have sS:=za2 hq;clear a_ hb hq;by_cases ah:k<kv
  ·obtain⟨b,off,rfl,aJ⟩:=za3.some (za3.below HA.X HB.X) (j:=k*5) (by rw[HL.X];omega)
   obtain⟨r0,r1,r2,r3,r4⟩:=zI1 aJ HL.X k ah;clear aJ;obtain⟨o0,H0⟩:=nmd (og5 zs k 0);obtain⟨o1,H1⟩:=nmd (og5 zs k 1);obtain⟨o2,H2⟩:=nmd (og5 zs k 2);obtain⟨o3,H3⟩:=nmd (og5 zs k 3);obtain⟨o4,H4⟩:=nmd (og5 zs k 4);rw[H0.X]at r0;rw[H1.X]at r1;rw[H2.X]at r2;rw[H3.X]at r3;rw[H4.X]at r4;have cM:=zV r0;simp at cM;by_cases he:o0=id
   ·have mu:(o0==id)=true:=by simp[he]
    have HF:Zb _:=yw7 ah (by rw[H0.X];exact he) HN.X;clear he;go_wp2;refine xe (v:=.tuple #[.agg #[ze zd o0,ze zd o1,ze zd o2,ze zd o3,ze zd o4],.bool true]) (by simp[results,Tryz.results148,go_sem,sS,q0,q1,q2,q3,q4]) rfl ⟨?_,?_⟩
    ·rw[yk7 HF.X];simp only[yl1 HF.X,H0.X,H1.X,H2.X,H3.X,H4.X]
    ·repeat(first|with_reducible exact HB.X|with_reducible refine xq ?_ (by simp<;>omega) _|with_reducible refine xG ?_ (by simp[zj];exact HB.X.size) _)
   ·have mu:(o0==id)=false:=by simp[he]
    have HS:Zb _:=zR7 HN.X (by rw[H0.X];exact he);clear he;go_wp2;refine⟨⟨k+1,by omega,by go_num,HS.X,HB.X.alloc HB.X.size _,?_⟩,by simp[intOf];omega⟩;rw[xg _ _ (za2 HQ.X)];exact HQ.X
  ·have dw:k=kv:=by omega
   have HF:Zb _:=zZ8 (dw▸HN.X);clear dw;go_wp2;refine xe (v:=.tuple #[.agg #[ze zd 0,ze zd 0,ze zd 0,ze zd 0,ze zd 0],.bool false]) (by simp[results,Tryz.results148,go_sem,q0,q1,q2,q3,q4]) rfl ⟨?_,?_⟩
   ·rw[zM9 HF.X];simp only[zK7 HF.X]
   ·repeat(first|with_reducible exact HB.X|with_reducible refine xq ?_ (by simp<;>omega) _)
theorem yv2(n x y:Nat)(v0 v1 v2 v3 v4:Int)(a ar:Option Zd)(dH ac kr cr:Nat)(zs:List Int)(w:zi)(hn:n<=16)(hx:x<n)(hy:y<n)(hl:zs.length=n*n)(aL:dH=n*n)(hA:za3 w a zs):
 Zc zh 118 #[.agg #[ze zd n,za a dH ac,ze zd v0,ze zd v1,ze zd v2,ze zd v3,ze zd v4,za ar kr cr],ze zd x,ze zd y] w fun e w'=>e=.returned (ze zd (zs.getD (x*n+y) 0))/\Za w.heap.size w w':=by
 subst aL;have e_:=z03 n n hn hn;have fZ:x*n+y<n*n:=by
  have:=yK n (show x+1<=n by omega);rw[yT]at this;omega
 obtain⟨bb,off,rfl,aJ⟩:=hA.some (j:=x*n+y) (by omega);have ct:=aJ (x*n+y) (by omega);have ah:=zV ct;clear aJ hA;generalize zs.getD (x*n+y) 0=t at ct;have C5:wrap64 ((x:Int)*(n:Int))=(x:Int)*(n:Int):=xB _ (by rw[<-xD];omega);simp at ah;clear hl;go_enter Tryz.func118,Tryz.ntmps118;go_wp2;go_ret;exact⟨rfl,zP _⟩
theorem yG2(n x y:Int)(v0 v1 v2 v3 v4:Int)(a ar:Option Zd)(ac kr cr:Nat)(zs:List Int)(w:zi)(hm:zq9 n zs=true)(hx:0<=x/\x<n)(hy:0<=y/\y<n)(hA:za3 w a zs):
 Zc zh 118 #[.agg #[ze zd n,za a zs.length ac,ze zd v0,ze zd v1,ze zd v2,ze zd v3,ze zd v4,za ar kr cr],ze zd x,ze zd y] w fun e w'=>e=.returned (ze zd (tmI n zs x y))/\Za w.heap.size w w':=by
 obtain⟨h1,h2,h3,_⟩:=zm1 hm;obtain⟨N,rfl⟩:∃N:Nat,n=N:=⟨n.toNat,by omega⟩;obtain⟨X,rfl⟩:∃X:Nat,x=X:=⟨x.toNat,by omega⟩;obtain⟨Y,rfl⟩:∃Y:Nat,y=Y:=⟨y.toNat,by omega⟩;have hl:zs.length=N*N:=by rw[<-xD]at h3;omega
 exact yv2 N X Y _ _ _ _ _ a ar zs.length ac kr cr zs w (by omega) (by omega) (by omega) hl hl hA
theorem zh2(n p:Int)(s:Value)(w:zi)(h1:1<=n)(h2:n<=16):
 Zc zh 163 #[.agg #[ze zd n,s],ze zd p] w fun e w'=>e=.returned (.bool (inB p 0 (n - 1)))/\Za w.heap.size w w':=by
 go_enter Tryz.func163,Tryz.ntmps163
 go_wp2_with(go_at_call 32;refine(zc2 _ _ _ _).mono ?_;rintro e w' ⟨rfl,rfl⟩)
 go_ret;exact⟨rfl,zP _⟩
theorem zh5(f t:Int)(w:zi):
 Zc zh 164 #[ze zd f,ze zd t] w fun e w'=>e=.returned (.bool (zh9 f t))/\w'=w:=by
 by_cases h1:0<=f
 ·by_cases h2:f<=t
  ·by_cases h3:t<=1000000
   ·rw[ys5 h1 h2 h3]
    go_enter Tryz.func164,Tryz.ntmps164;go_wp2;go_ret;exact⟨by simp,rfl⟩
   ·rw[z68 (by omega)]
    go_enter Tryz.func164,Tryz.ntmps164;go_wp2;go_ret;exact⟨by simp,rfl⟩
  ·rw[z68 (by omega)]
   go_enter Tryz.func164,Tryz.ntmps164;go_wp2;go_ret;exact⟨by simp,rfl⟩
 ·rw[z68 (by omega)]
  go_enter Tryz.func164,Tryz.ntmps164;go_wp2;go_ret;exact⟨by simp,rfl⟩
theorem zI3(n o0 o1 o2 o3 o4 o5:Int)(s:Value)(w:zi)(aZ:1<=n)(cR:n<=16):
 Zc zh 134 #[.agg #[ze zd n,s],.agg #[ze zd o0,ze zd o1,ze zd o2,ze zd o3,ze zd o4,ze zd o5]] w fun e w'=>e=.returned (.bool (zt8 n o1 o2 o3 o4 o5))/\Za w.heap.size w w':=by
 have aU:Zb (Za w.heap.size w ((w.alloc (zg #[ze zd n,s] 26)).alloc (zg #[ze zd o0,ze zd o1,ze zd o2,ze zd o3,ze zd o4,ze zd o5] 103))):=(zP _).alloc (by simp) _;have R0:Zb (((w.alloc (zg #[ze zd n,s] 26)).alloc (zg #[ze zd o0,ze zd o1,ze zd o2,ze zd o3,ze zd o4,ze zd o5] 103)).heap[w.heap.size+1]? =some (zg #[ze zd o0,ze zd o1,ze zd o2,ze zd o3,ze zd o4,ze zd o5] 103 (0,0))):=xh _ _ _;have eM:Zb (w.heap.size+1<((w.alloc (zg #[ze zd n,s] 26)).alloc (zg #[ze zd o0,ze zd o1,ze zd o2,ze zd o3,ze zd o4,ze zd o5] 103)).heap.size):=by
  show _<_;simp
 cases h0:inB o1 0 (n - 1)
 ·go_enter Tryz.func134,Tryz.ntmps134
  go_wp2_with(first
   |(go_at_call 163
     refine(zh2 _ _ _ _ aZ cR).mono ?_;rintro e w2 ⟨rfl,aC⟩;have BL:=aU.trans (aC.mono aU.size);obtain⟨k0,k1,k2,k3,k4,k5⟩:=zi0 (za0 aC eM.X R0.X);clear aC)
   |(go_at_call 32;refine(zc2 _ _ _ _).mono ?_;rintro e w' ⟨rfl,rfl⟩)
   |(go_at_call 164;refine(zh5 _ _ _).mono ?_;rintro e w' ⟨rfl,rfl⟩))
  go_ret;exact⟨zb6 (by simp[zt8,h0]),BL⟩
 ·cases h1:inB o2 0 1000
  ·go_enter Tryz.func134,Tryz.ntmps134
   go_wp2_with(first
    |(go_at_call 163
      refine(zh2 _ _ _ _ aZ cR).mono ?_;rintro e w2 ⟨rfl,aC⟩;have BL:=aU.trans (aC.mono aU.size);obtain⟨k0,k1,k2,k3,k4,k5⟩:=zi0 (za0 aC eM.X R0.X);clear aC)
    |(go_at_call 32;refine(zc2 _ _ _ _).mono ?_;rintro e w' ⟨rfl,rfl⟩)
    |(go_at_call 164;refine(zh5 _ _ _).mono ?_;rintro e w' ⟨rfl,rfl⟩))
   go_ret;exact⟨zb6 (by simp[zt8,h0,h1]),BL⟩
  ·cases h2:zh9 o3 o4
   ·go_enter Tryz.func134,Tryz.ntmps134
    go_wp2_with(first
     |(go_at_call 163
       refine(zh2 _ _ _ _ aZ cR).mono ?_;rintro e w2 ⟨rfl,aC⟩;have BL:=aU.trans (aC.mono aU.size);obtain⟨k0,k1,k2,k3,k4,k5⟩:=zi0 (za0 aC eM.X R0.X);clear aC)
     |(go_at_call 32;refine(zc2 _ _ _ _).mono ?_;rintro e w' ⟨rfl,rfl⟩)
     |(go_at_call 164;refine(zh5 _ _ _).mono ?_;rintro e w' ⟨rfl,rfl⟩))
    go_ret;exact⟨zb6 (by simp[zt8,h0,h1,h2]),BL⟩
   ·cases h3:inB o5 0 10000
    ·go_enter Tryz.func134,Tryz.ntmps134
     go_wp2_with(first
      |(go_at_call 163
        refine(zh2 _ _ _ _ aZ cR).mono ?_;rintro e w2 ⟨rfl,aC⟩;have BL:=aU.trans (aC.mono aU.size);obtain⟨k0,k1,k2,k3,k4,k5⟩:=zi0 (za0 aC eM.X R0.X);clear aC)
      |(go_at_call 32;refine(zc2 _ _ _ _).mono ?_;rintro e w' ⟨rfl,rfl⟩)
      |(go_at_call 164;refine(zh5 _ _ _).mono ?_;rintro e w' ⟨rfl,rfl⟩))
     go_ret;exact⟨zb6 (by simp[zt8,h0,h1,h2,h3]),BL⟩
    ·go_enter Tryz.func134,Tryz.ntmps134
     go_wp2_with(first
      |(go_at_call 163
        refine(zh2 _ _ _ _ aZ cR).mono ?_;rintro e w2 ⟨rfl,aC⟩;have BL:=aU.trans (aC.mono aU.size);obtain⟨k0,k1,k2,k3,k4,k5⟩:=zi0 (za0 aC eM.X R0.X);clear aC)
      |(go_at_call 32;refine(zc2 _ _ _ _).mono ?_;rintro e w' ⟨rfl,rfl⟩)
      |(go_at_call 164;refine(zh5 _ _ _).mono ?_;rintro e w' ⟨rfl,rfl⟩))
     go_ret;exact⟨zb6 (by simp[zt8,h0,h1,h2,h3]),BL⟩
theorem z43(n o0 o1 o2 o3 o4:Int)(s:Value)(w:zi)(aZ:1<=n)(cR:n<=16):
 Zc zh 135 #[.agg #[ze zd n,s],.agg #[ze zd o0,ze zd o1,ze zd o2,ze zd o3,ze zd o4]] w fun e w'=>e=.returned (.bool (zx4 n o1 o2 o3 o4))/\Za w.heap.size w w':=by
 have aU:Zb (Za w.heap.size w ((w.alloc (zg #[ze zd n,s] 26)).alloc (zg #[ze zd o0,ze zd o1,ze zd o2,ze zd o3,ze zd o4] 107))):=(zP _).alloc (by simp) _;have R0:Zb (((w.alloc (zg #[ze zd n,s] 26)).alloc (zg #[ze zd o0,ze zd o1,ze zd o2,ze zd o3,ze zd o4] 107)).heap[w.heap.size+1]? =some (zg #[ze zd o0,ze zd o1,ze zd o2,ze zd o3,ze zd o4] 107 (0,0))):=xh _ _ _;have eM:Zb (w.heap.size+1<((w.alloc (zg #[ze zd n,s] 26)).alloc (zg #[ze zd o0,ze zd o1,ze zd o2,ze zd o3,ze zd o4] 107)).heap.size):=by
  show _<_;simp
 cases h0:inB o1 0 (n - 1)
 ·go_enter Tryz.func135,Tryz.ntmps135
  go_wp2_with(first
   |(go_at_call 163
     refine(zh2 _ _ _ _ aZ cR).mono ?_;rintro e w2 ⟨rfl,aC⟩;have BL:=aU.trans (aC.mono aU.size);obtain⟨k0,k1,k2,k3,k4⟩:=za7 (za0 aC eM.X R0.X);clear aC)
   |(go_at_call 32;refine(zc2 _ _ _ _).mono ?_;rintro e w' ⟨rfl,rfl⟩)
   |(go_at_call 164;refine(zh5 _ _ _).mono ?_;rintro e w' ⟨rfl,rfl⟩))
  go_ret;exact⟨zb6 (by simp[zx4,h0]),BL⟩
 ·cases h1:inB o2 0 1000
  ·go_enter Tryz.func135,Tryz.ntmps135
   go_wp2_with(first
    |(go_at_call 163
      refine(zh2 _ _ _ _ aZ cR).mono ?_;rintro e w2 ⟨rfl,aC⟩;have BL:=aU.trans (aC.mono aU.size);obtain⟨k0,k1,k2,k3,k4⟩:=za7 (za0 aC eM.X R0.X);clear aC)
    |(go_at_call 32;refine(zc2 _ _ _ _).mono ?_;rintro e w' ⟨rfl,rfl⟩)
    |(go_at_call 164;refine(zh5 _ _ _).mono ?_;rintro e w' ⟨rfl,rfl⟩))
   go_ret;exact⟨zb6 (by simp[zx4,h0,h1]),BL⟩
  ·cases h2:zh9 o3 o4
   ·go_enter Tryz.func135,Tryz.ntmps135
    go_wp2_with(first
     |(go_at_call 163
       refine(zh2 _ _ _ _ aZ cR).mono ?_;rintro e w2 ⟨rfl,aC⟩;have BL:=aU.trans (aC.mono aU.size);obtain⟨k0,k1,k2,k3,k4⟩:=za7 (za0 aC eM.X R0.X);clear aC)
     |(go_at_call 32;refine(zc2 _ _ _ _).mono ?_;rintro e w' ⟨rfl,rfl⟩)
     |(go_at_call 164;refine(zh5 _ _ _).mono ?_;rintro e w' ⟨rfl,rfl⟩))
    go_ret;exact⟨zb6 (by simp[zx4,h0,h1,h2]),BL⟩
   ·go_enter Tryz.func135,Tryz.ntmps135
    go_wp2_with(first
     |(go_at_call 163
       refine(zh2 _ _ _ _ aZ cR).mono ?_;rintro e w2 ⟨rfl,aC⟩;have BL:=aU.trans (aC.mono aU.size);obtain⟨k0,k1,k2,k3,k4⟩:=za7 (za0 aC eM.X R0.X);clear aC)
     |(go_at_call 32;refine(zc2 _ _ _ _).mono ?_;rintro e w' ⟨rfl,rfl⟩)
     |(go_at_call 164;refine(zh5 _ _ _).mono ?_;rintro e w' ⟨rfl,rfl⟩))
    go_ret;exact⟨zb6 (by simp[zx4,h0,h1,h2]),BL⟩
theorem zw8(n fine:Int)(a ao av:Option Zd)(lt ac ko co kv cv:Nat)(zs:List Int)(w:zi)(aZ:1<=n)(cR:n<=16)(hA:za3 w ao zs)(hl:zs.length=ko*6)(aL:ko<=9223372036854775807):
 Zc zh 97 #[.agg #[ze zd n,za a lt ac,za ao ko co,za av kv cv,ze zd fine]] w fun e w'=>e=.returned (.bool (zs7 n zs ko))/\Za w.heap.size w w':=by
 have aU:Zb (Za w.heap.size w (w.alloc (zg #[ze zd n,za a lt ac,za ao ko co,za av kv cv,ze zd fine] 30))):=zP _;have HA:Zb _:=hA;have HL:Zb _:=hl;clear hA hl;by_cases hmany:ko<=12
 ·go_enter Tryz.func97,Tryz.ntmps97
  go_wp2_with fail
  go_loopw[3,13] (fun l t wr=>∃k:Nat,k<=ko/\t=ze zd k/\l=ze zd (zo0 zs k)/\zw2 n zs k/\Za w.heap.size w wr/\wr.heap[w.heap.size]? =some (zg #[ze zd n,za a lt ac,za ao ko co,za av kv cv,ze zd fine] 30 (0,0))) (fun _ t _=>ko - (intOf t).toNat)
  case atStart=>exact⟨0,xi _,rfl,rfl,zG9 _ _,aU.X,zS _ _⟩
  case round=>
   obtain⟨k,hk,rfl,rfl,ht,hb,g3⟩:=hrel;have dm:=zI2 ht;have HT:Zb _:=ht;obtain⟨c0,c1,c2,c3,c4⟩:=za7 g3;obtain⟨l0,mt⟩:=nmd (zo0 zs k);rw[mt.X]at dm⊢;have G3:Zb _:=g3;have HB:Zb _:=hb;clear ht;by_cases ah:k<ko
   ·obtain⟨b,off,rfl,aJ⟩:=za3.some (za3.below HA.X hb) (j:=k*6) (by rw[HL.X];omega)
    obtain⟨r0,r1,r2,r3,r4,r5⟩:=zu5 aJ HL.X k ah;clear aJ g3 hb;obtain⟨o0,H0⟩:=nmd (og6 zs k 0);obtain⟨o1,H1⟩:=nmd (og6 zs k 1);obtain⟨o2,H2⟩:=nmd (og6 zs k 2);obtain⟨o3,H3⟩:=nmd (og6 zs k 3);obtain⟨o4,H4⟩:=nmd (og6 zs k 4);obtain⟨o5,H5⟩:=nmd (og6 zs k 5);rw[H0.X]at r0;rw[H1.X]at r1;rw[H2.X]at r2;rw[H3.X]at r3;rw[H4.X]at r4;rw[H5.X]at r5;have cM:=zV r0;simp at cM;have eD:Zb (Za w.heap.size w (wr.alloc (zg #[ze zd o0,ze zd o1,ze zd o2,ze zd o3,ze zd o4,ze zd o5] 103))):=HB.alloc HB.size _;have FP:Zb ((wr.alloc (zg #[ze zd o0,ze zd o1,ze zd o2,ze zd o3,ze zd o4,ze zd o5] 103)).heap[w.heap.size]? =_):=(xg _ _ (za2 G3.X)).trans G3.X;have BJ:Zb ((wr.alloc (zg #[ze zd o0,ze zd o1,ze zd o2,ze zd o3,ze zd o4,ze zd o5] 103)).heap[wr.heap.size]? =_):=zS _ _;have aD:=za2 G3.X;cases h1:inB o0 (l0+1) 1000000000
    ·have HN:Zb (zs7 n zs ko=false):=z62 ah (zL4 (by rw[H0.X,mt.X,h1];simp))
     go_wp2_with(first
      |(go_at_call 32;refine(zc2 _ _ _ _).mono ?_;rintro e w' ⟨rfl,rfl⟩))
     go_ret;exact⟨zb6 HN.symm,eD.X⟩
    ·cases h2:zt8 n o1 o2 o3 o4 o5
     ·have HN:Zb _:=z62 ah (zL4 (by rw[H1.X,H2.X,H3.X,H4.X,H5.X,h2];simp))
      go_wp2_with(first
       |(go_at_call 32;refine(zc2 _ _ _ _).mono ?_;rintro e w' ⟨rfl,rfl⟩)
       |(go_at_call 134;refine(zI3 n _ _ _ _ _ _ _ _ aZ cR).mono ?_;rintro e w2 ⟨rfl,aC⟩))
      go_ret;exact⟨zb6 HN.symm,eD.trans (aC.mono eD.size)⟩
     ·have HS:Zb (zw2 n zs (k+1)):=by
       have:=yC4 HT.X (by rw[H0.X,mt.X];exact h1) (by rw[H1.X,H2.X,H3.X,H4.X,H5.X];exact h2);exact z21 HT.X this.1 this.2
      go_wp2_with(first
       |(go_at_call 32;refine(zc2 _ _ _ _).mono ?_;rintro e w' ⟨rfl,rfl⟩)
       |(go_at_call 134;refine(zI3 n _ _ _ _ _ _ _ _ aZ cR).mono ?_;rintro e w2 ⟨rfl,aC⟩;obtain⟨q0,q1,q2,q3,q4,q5⟩:=zi0 (za0 aC (za2 BJ.X) BJ.X)))
      obtain⟨B2,R2⟩:=z37 aC eD.X FP.X;refine⟨⟨k+1,by omega,by go_num,by show _=ze zd (og6 zs k 0);rw[H0.X],HS.X,B2,R2⟩,by simp[intOf];omega⟩
   ·have dw:k=ko:=by omega
    have HN:Zb _:=zV4 hmany (dw▸HT.X);clear dw g3 hb;go_wp2;go_ret;exact⟨zb6 HN.symm,HB.X⟩
 ·have HN:Zb (zs7 n zs ko=false):=yn4 hmany
  go_enter Tryz.func97,Tryz.ntmps97;go_wp2;go_ret;exact⟨zb6 HN.symm,aU.X⟩
theorem z07(n fine:Int)(a ao av:Option Zd)(lt ac ko co kv cv:Nat)(zs:List Int)(w:zi)(aZ:1<=n)(cR:n<=16)(hA:za3 w av zs)(hl:zs.length=kv*5)(aL:kv<=9223372036854775807):
 Zc zh 98 #[.agg #[ze zd n,za a lt ac,za ao ko co,za av kv cv,ze zd fine]] w fun e w'=>e=.returned (.bool (zx9 n zs kv))/\Za w.heap.size w w':=by
 have aU:Zb (Za w.heap.size w (w.alloc (zg #[ze zd n,za a lt ac,za ao ko co,za av kv cv,ze zd fine] 30))):=zP _;have HA:Zb _:=hA;have HL:Zb _:=hl;clear hA hl;by_cases hmany:kv<=5
 ·go_enter Tryz.func98,Tryz.ntmps98
  go_wp2_with fail
  go_loopw[3,13] (fun l t wr=>∃k:Nat,k<=kv/\t=ze zd k/\l=ze zd (zn9 zs k)/\zw1 n zs k/\Za w.heap.size w wr/\wr.heap[w.heap.size]? =some (zg #[ze zd n,za a lt ac,za ao ko co,za av kv cv,ze zd fine] 30 (0,0))) (fun _ t _=>kv - (intOf t).toNat)
  case atStart=>exact⟨0,xi _,rfl,rfl,zF0 _ _,aU.X,zS _ _⟩
  case round=>
   obtain⟨k,hk,rfl,rfl,ht,hb,g3⟩:=hrel;have dm:=zH1 ht;have HT:Zb _:=ht;obtain⟨c0,c1,c2,c3,c4⟩:=za7 g3;obtain⟨l0,mt⟩:=nmd (zn9 zs k);rw[mt.X]at dm⊢;have G3:Zb _:=g3;have HB:Zb _:=hb;clear ht;by_cases ah:k<kv
   ·obtain⟨b,off,rfl,aJ⟩:=za3.some (za3.below HA.X hb) (j:=k*5) (by rw[HL.X];omega)
    obtain⟨r0,r1,r2,r3,r4⟩:=zI1 aJ HL.X k ah;clear aJ g3 hb;obtain⟨o0,H0⟩:=nmd (og5 zs k 0);obtain⟨o1,H1⟩:=nmd (og5 zs k 1);obtain⟨o2,H2⟩:=nmd (og5 zs k 2);obtain⟨o3,H3⟩:=nmd (og5 zs k 3);obtain⟨o4,H4⟩:=nmd (og5 zs k 4);rw[H0.X]at r0;rw[H1.X]at r1;rw[H2.X]at r2;rw[H3.X]at r3;rw[H4.X]at r4;have cM:=zV r0;simp at cM;have eD:Zb (Za w.heap.size w (wr.alloc (zg #[ze zd o0,ze zd o1,ze zd o2,ze zd o3,ze zd o4] 107))):=HB.alloc HB.size _;have FP:Zb ((wr.alloc (zg #[ze zd o0,ze zd o1,ze zd o2,ze zd o3,ze zd o4] 107)).heap[w.heap.size]? =_):=(xg _ _ (za2 G3.X)).trans G3.X;have BJ:Zb ((wr.alloc (zg #[ze zd o0,ze zd o1,ze zd o2,ze zd o3,ze zd o4] 107)).heap[wr.heap.size]? =_):=zS _ _;have aD:=za2 G3.X;cases h1:inB o0 (l0+1) 1000000000
    ·have HN:Zb (zx9 n zs kv=false):=z53 ah (zO2 (by rw[H0.X,mt.X,h1];simp))
     go_wp2_with(first
      |(go_at_call 32;refine(zc2 _ _ _ _).mono ?_;rintro e w' ⟨rfl,rfl⟩))
     go_ret;exact⟨zb6 HN.symm,eD.X⟩
    ·cases h2:zx4 n o1 o2 o3 o4
     ·have HN:Zb _:=z53 ah (zO2 (by rw[H1.X,H2.X,H3.X,H4.X,h2];simp))
      go_wp2_with(first
       |(go_at_call 32;refine(zc2 _ _ _ _).mono ?_;rintro e w' ⟨rfl,rfl⟩)
       |(go_at_call 135;refine(z43 n _ _ _ _ _ _ _ aZ cR).mono ?_;rintro e w2 ⟨rfl,aC⟩))
      go_ret;exact⟨zb6 HN.symm,eD.trans (aC.mono eD.size)⟩
     ·have HS:Zb (zw1 n zs (k+1)):=by
       have:=yG6 HT.X (by rw[H0.X,mt.X];exact h1) (by rw[H1.X,H2.X,H3.X,H4.X];exact h2);exact z15 HT.X this.1 this.2
      go_wp2_with(first
       |(go_at_call 32;refine(zc2 _ _ _ _).mono ?_;rintro e w' ⟨rfl,rfl⟩)
       |(go_at_call 135;refine(z43 n _ _ _ _ _ _ _ aZ cR).mono ?_;rintro e w2 ⟨rfl,aC⟩;obtain⟨q0,q1,q2,q3,q4⟩:=za7 (za0 aC (za2 BJ.X) BJ.X)))
      obtain⟨B2,R2⟩:=z37 aC eD.X FP.X;refine⟨⟨k+1,by omega,by go_num,by show _=ze zd (og5 zs k 0);rw[H0.X],HS.X,B2,R2⟩,by simp[intOf];omega⟩
   ·have dw:k=kv:=by omega
    have HN:Zb _:=yb1 hmany (dw▸HT.X);clear dw g3 hb;go_wp2;go_ret;exact⟨zb6 HN.symm,HB.X⟩
 ·have HN:Zb (zx9 n zs kv=false):=yp2 hmany
  go_enter Tryz.func98,Tryz.ntmps98;go_wp2;go_ret;exact⟨zb6 HN.symm,aU.X⟩
theorem Tryz.info41:(Tryz.prog.info? 183).map (fun i=>(i.zero,i.size))=some (some (.agg (cellsOf zs2)),256):=by kernel_rfl
def GW(w wr:zi)(n:Nat)(a:Option Zd)(ac:Nat)(z0:Array Value)(gl:List Int):Prop:=
 wr.heap.size=w.heap.size+3/\Za w.heap.size w wr/\wr.heap[w.heap.size]? =some (zg #[ze zd n,za a (n*n) ac] 26 (0,0))∧
 wr.heap[w.heap.size+1]? =some (.cells z0 183 (0,0))/\wr.heap[w.heap.size+1+1]? =some (.cells (cellsOf gl) 183 (0,0))
theorem GW.step{w wr:zi}{n:Nat}{a:Option Zd}{ac:Nat}{z0:Array Value}{zs:List Int}{x y:Nat}{t:Int}(h:GW w wr n a ac z0 (zi6 n zs x y))(hx:x<n)(hy:y<n)(hn:n<=16)(ht:zs.getD (x*n+y) 0=t):
 GW w (wr.setCell ⟨w.heap.size+1+1,x*16+y,none⟩ (ze zd t)) n a ac z0 (zi6 n zs x (y+1)):=by
 obtain⟨g1,g2,g3,g4,g5⟩:=h;refine⟨by simpa[zj]using g1,g2.setCell (by simp;omega) _,?_,?_,?_⟩
 ·rw[xy _ _ _ _ (by simp;omega)];exact g3
 ·rw[xy _ _ _ _ (by simp)];exact g4
 ·rw[xb _ _ _ _ _ _ g5,zJ6,<-ht,yc0 n zs x y hx hy hn]
theorem yK6:(Tryz.prog.info? 183).map (·.size)=some 256:=(zero_of_info Tryz.info41).2
theorem zo7{l:List Int}(h:l.length=256):(Tryz.prog.info? 183).map (·.size)=some (cellsOf l).size:=by
 rw[zo6,h];exact yK6
theorem z44(tmps:Array Value)(W:zi)(g:Nat)(l:List Int)(b:Bool)(hl:l.length=256)
 (hp:tmps.getD 2 undef=.pointer (some ⟨g,0,none⟩)) (hb:tmps.getD 3 undef=.bool b) (hg:W.heap[g]? =some (.cells (cellsOf l) 183 (0,0))):
 (results Tryz.f133 tmps).run zh W=.ok (.tuple #[.agg (cellsOf l),.bool b]) W:=by
 rw[results_cell_tmp Tryz.results133,hp,hb];simp only[asAddr,Sem.run_pure,Result.andThen_ok,run_loadVar_row W g 183 183 (cellsOf l) (0,0) _ hg Tryz.underlying183 rfl (zo7 hl)]
theorem ys4(n:Nat)(a:Option Zd)(ac:Nat)(zs:List Int)(w:zi)(h1:1<=n)(h2:n<=16)(hl:zs.length=n*n)(hA:za3 w a zs):
 Zc zh 133 #[.agg #[ze zd n,za a zs.length ac]] w fun e w'=>e=.returned (.tuple #[.agg (cellsOf (zv2 n zs)),.bool (zq9 n zs)])/\Za w.heap.size w w':=by
 have hz:=(zero_of_info Tryz.info41).1;generalize bR:cellsOf zs2=z0 at hz;have HZ:Zb _:=bR;clear bR;have e_:=z03 n n h2 h2;have jT:inB (n:Int) 1 16=true:=zf0 (by omega);have lL:wrap64 ((n:Int)*(n:Int))=(n:Int)*(n:Int):=xB _ (by rw[<-xD];omega);have HA:=za4 hA;clear hA;rw[hl];have HL:Zb _:=hl;clear hl;go_enter Tryz.func133,Tryz.ntmps133
 go_wp2_with(go_at_call 32;refine(zc2 _ _ _ _).mono ?_;rintro e w' ⟨rfl,rfl⟩)
 go_loopw[26] (fun t wr=>∃x:Nat,x<=n/\t=ze zd x/\GW w wr n a ac z0 (zi6 n zs x 0)/\y31 n zs x 0) (fun t _=>n - (intOf t).toNat)
 case atStart=>
  refine⟨0,xi _,rfl,⟨by simp,?_,?_,?_,?_⟩,y14 _ _⟩
  ·exact((zP _).alloc (by simp) _).alloc (by simp;omega) _
  ·rw[xg _ _ (by simp;omega),xg _ _ (by simp)]
   exact zS _ _
  ·rw[xg _ _ (by simp)]
   exact xh _ _ _
  ·rw[yd7,HZ.X]
   have:=zS ((w.alloc (zg #[ze zd n,za a (n*n) ac] 26)).alloc (zg z0 183)) (zg z0 183);simpa using this
 case round=>
  obtain⟨x,hx,rfl,hG,aP⟩:=hrel;obtain⟨g1,g2,g3,g4,g5⟩:=hG;have c0:=zU _ _ 0 _ _ _ g3;have c1:=zU _ _ 1 _ _ _ g3;simp at c0 c1;by_cases ah:x<n
  ·have G4:Zb _:=g4
   have G5:Zb _:=g5;have HO:Zb _:=aP;clear g4 g5 aP
   go_wp2_with fail
   go_loopw[31] (fun t wr=>∃y:Nat,y<=n/\t=ze zd y/\GW w wr n a ac z0 (zi6 n zs x y)/\y31 n zs x y) (fun t _=>n - (intOf t).toNat)
   case atStart=>exact⟨0,xi _,rfl,⟨g1,g2,g3,G4.X,G5.X⟩,HO.X⟩
   case round=>
    clear g1 g2 g3 c0 c1 G4 G5 HO;obtain⟨y,hy,rfl,hG,aP⟩:=hrel;have HG:=za4 hG;obtain⟨g1,g2,g3,g4,g5⟩:=hG;have c0:=zU _ _ 0 _ _ _ g3;have c1:=zU _ _ 1 _ _ _ g3;simp at c0 c1;by_cases hylt:y<n
    ·have fZ:x*n+y<n*n:=by
      have:=yK n (show x+1<=n by omega);rw[yT]at this;omega
     obtain⟨bb,off,rfl,aJ⟩:=za3.some (za3.below HA.X g2) (j:=x*n+y) (by rw[HL.X];exact fZ);have ct:=aJ (x*n+y) (by rw[HL.X];exact fZ);clear aJ;generalize htt:zs.getD (x*n+y) 0=t at ct;have HT:Zb _:=htt;clear htt;have cg:=zU _ _ (x*16+y) _ _ _ g5;rw[zv4 _ _ (by rw[zk0];omega)]at cg;have fg:=yZ _ _ (x*16+y) _ _ g5;have HO:=za4 aP;clear aP;have C5:wrap64 ((x:Int)*(n:Int))=(x:Int)*(n:Int):=xB _ (by rw[<-xD];omega);by_cases hgood:0<=t/\t<=10000/\(x=y->t=0)
     ·have DP:inB t 0 10000=true:=zf0 (by omega)
      have HS:Zb (y31 n zs x (y+1)):=y12 HO.X (by rw[HT.X];exact hgood.1) (by rw[HT.X];exact hgood.2.1) (by rw[HT.X];exact hgood.2.2);clear HO g3 g4 g5 g2 g1;by_cases o_:x=y
      ·have aq:((x:Int)==(y:Int))=true:=by simp;omega
       have LU:((y:Int)==(y:Int))=true:=by simp
       have rT:(t !=0)=false:=by simp[hgood.2.2 o_]
       have mI:Zb _:=o_;clear hgood o_
       go_wp2_with(first
        |(go_at_call 32;refine(zc2 _ _ _ _).mono ?_;rintro e w' ⟨rfl,rfl⟩))
       refine⟨⟨y+1,by omega,by go_num,HG.step ah hylt h2 HT.X,HS.X⟩,by simp[intOf];omega⟩
      ·have aq:((x:Int)==(y:Int))=false:=by simp;omega
       clear hgood o_
       go_wp2_with(first
        |(go_at_call 32;refine(zc2 _ _ _ _).mono ?_;rintro e w' ⟨rfl,rfl⟩))
       refine⟨⟨y+1,by omega,by go_num,HG.step ah hylt h2 HT.X,HS.X⟩,by simp[intOf];omega⟩
     ·have HB:Zb _:=y58 n zs x y ah hylt HL.X (by rw[HT.X];exact hgood)
      have Pk:∀(wr:zi),wr.heap[w.heap.size+1]? =some (.cells z0 183 (0,0))->True:=fun _ _=>trivial;clear HO g3 g5 g1 Pk;by_cases hv:0<=t/\t<=10000
      ·have DP:inB t 0 10000=true:=zf0 (by omega)
       have o_:x=y:=by omega
       have aq:((x:Int)==(y:Int))=true:=by simp;omega
       have rT:(t !=0)=true:=by simp;omega
       clear hgood o_ hv
       go_wp2_with(first
        |(go_at_call 32;refine(zc2 _ _ _ _).mono ?_;rintro e w' ⟨rfl,rfl⟩)
        |(refine xJ rfl 183 (.tmp 2) (.tmp 56) rfl (w.heap.size+1) z0 rfl rfl 183 z0 g4 (by rw[<-HZ.X];exact zo7 ze5) rfl (by rw[<-HZ.X];exact zn4 _) ?_))
       refine xe (v:=.tuple #[.agg (cellsOf zs2),.bool false]) (z44 _ _ (w.heap.size+1) zs2 false ze5 rfl rfl ?_) rfl ⟨?_,?_⟩
       ·rw[HZ.X];exact setRow_heap _ _ _ _ _ _ g4
       ·exact z26 (by rw[zp8 HB.X]) HB.symm
       ·exact zl4 g2 (by omega) _
      ·have DP:=zx2 hv
       clear hgood hv
       go_wp2_with(first
        |(go_at_call 32;refine(zc2 _ _ _ _).mono ?_;rintro e w' ⟨rfl,rfl⟩)
        |(refine xJ rfl 183 (.tmp 2) (.tmp 56) rfl (w.heap.size+1) z0 rfl rfl 183 z0 g4 (by rw[<-HZ.X];exact zo7 ze5) rfl (by rw[<-HZ.X];exact zn4 _) ?_))
       refine xe (v:=.tuple #[.agg (cellsOf zs2),.bool false]) (z44 _ _ (w.heap.size+1) zs2 false ze5 rfl rfl ?_) rfl ⟨?_,?_⟩
       ·rw[HZ.X];exact setRow_heap _ _ _ _ _ _ g4
       ·exact z26 (by rw[zp8 HB.X]) HB.symm
       ·exact zl4 g2 (by omega) _
    ·have u':y=n:=by omega
     have HO:Zb (y31 n zs (x+1) 0):=y63 (u'▸aP);have Lw:Zb (GW w wr n a ac z0 (zi6 n zs (x+1) 0)):=by
      have:=HG.X;rw[u',yp4]at this;exact this
     clear aP u' HG g3 g4 g5
     go_wp2_with fail
     refine⟨⟨x+1,by omega,by go_num,Lw.X,HO.X⟩,by simp[intOf];omega⟩
  ·have dF:n<=x:=by omega
   have Pu:Zb (x=n):=by show x=n;omega
   go_wp2_with(first
    |(refine wpList_load_row rfl 183 (.tmp 4) rfl (w.heap.size+1+1) rfl 183 (cellsOf (zi6 n zs x 0)) (0,0) _ g5 Tryz.underlying183 rfl (zo7 (zk0 _ _ _ _)) ?_)
    |(refine xJ rfl 183 (.tmp 2) (.tmp 64) rfl (w.heap.size+1) (cellsOf (zi6 n zs x 0)) rfl rfl 183 z0 g4 (zo7 (zk0 _ _ _ _)) (by rw[<-HZ.X,zo6,zo6,ze5,zk0]) (zn4 _) ?_))
   refine xe (v:=.tuple #[.agg (cellsOf (zi6 n zs x 0)),.bool true]) (z44 _ _ (w.heap.size+1) (zi6 n zs x 0) true (zk0 _ _ _ _) rfl rfl ?_) rfl ⟨?_,?_⟩
   ·exact setRow_heap _ _ _ _ _ _ g4
   ·have e:=Pu.X
    have hm:=zX4 n zs h1 h2 HL.X (e▸aP);exact z26 (by rw[zW4 hm,e]) hm.symm
   ·exact zl4 g2 (by omega) _
theorem y59(n:Int)(a:Option Zd)(dH ac:Nat)(w:zi)(hn:¬(1<=n/\n<=16)):
 Zc zh 133 #[.agg #[ze zd n,za a dH ac]] w fun e w'=>e=.returned (.tuple #[.agg (cellsOf zs2),.bool false])/\Za w.heap.size w w':=by
 have hz:=(zero_of_info Tryz.info41).1;generalize bR:cellsOf zs2=z0 at hz;have HZ:Zb _:=bR;clear bR;have jT:=zx2 hn;clear hn;go_enter Tryz.func133,Tryz.ntmps133
 go_wp2_with fail
 refine(zc2 _ _ _ _).mono ?_;rintro e w' ⟨rfl,rfl⟩;have wn:Zb (((((w.alloc (zg #[ze zd n,za a dH ac] 26)).alloc (zg z0 183)).alloc (zg z0 183)).heap)[w.heap.size+1]? =some (.cells z0 183 (0,0))):=by
  show _=_;rw[xg _ _ (by simp)];exact xh _ _ _
 go_wp2_with(
  with_reducible refine xJ ?_ 183 (.tmp 2) (.tmp 23) ?_ (w.heap.size+1) z0 ?_ ?_ 183 z0 ?_ ?_ ?_ ?_ ?_
  ·rfl
  ·rfl
  ·rfl
  ·rfl
  ·exact wn.X
  ·rw[<-HZ.X];exact zo7 ze5
  ·rfl
  ·rw[<-HZ.X];exact zn4 _)
 refine xe (v:=.tuple #[.agg (cellsOf zs2),.bool false]) (z44 _ _ (w.heap.size+1) zs2 false ze5 rfl rfl ?_) rfl ⟨by rw[HZ.X],?_⟩
 ·rw[HZ.X];exact setRow_heap _ _ _ _ _ _ wn.X
 ·exact zl4 (((zP _).alloc (by simp) _).alloc (by simp;omega) _) (by omega) _
theorem y94(n:Nat)(a:Option Zd)(dH ac:Nat)(w:zi)(h1:1<=n)(h2:n<=16)(hl:dH≠n*n):
 Zc zh 133 #[.agg #[ze zd n,za a dH ac]] w fun e w'=>e=.returned (.tuple #[.agg (cellsOf zs2),.bool false])/\Za w.heap.size w w':=by
 have hz:=(zero_of_info Tryz.info41).1;generalize bR:cellsOf zs2=z0 at hz;have HZ:Zb _:=bR;clear bR;have e_:=z03 n n h2 h2;have jT:inB (n:Int) 1 16=true:=zf0 (by omega);have lL:wrap64 ((n:Int)*(n:Int))=(n:Int)*(n:Int):=xB _ (by rw[<-xD];omega);have aq:((dH:Int)!=(n:Int)*(n:Int))=true:=by rw[bne_iff_ne,<-xD];omega
 have G4:((((w.alloc (zg #[ze zd n,za a dH ac] 26)).alloc (zg z0 183)).alloc (zg z0 183)).heap)[w.heap.size+1]? =some (.cells z0 183 (0,0)):=by
  rw[xg _ _ (by simp)];exact xh _ _ _
 have wn:Zb _:=G4;clear G4 hl;go_enter Tryz.func133,Tryz.ntmps133
 go_wp2_with(first
  |(go_at_call 32;refine(zc2 _ _ _ _).mono ?_;rintro e w' ⟨rfl,rfl⟩)
  |(refine xJ rfl 183 (.tmp 2) (.tmp 23) rfl (w.heap.size+1) z0 rfl rfl 183 z0 wn.X (by rw[<-HZ.X];exact zo7 ze5) rfl (by rw[<-HZ.X];exact zn4 _) ?_))
 refine xe (v:=.tuple #[.agg (cellsOf zs2),.bool false]) (z44 _ _ (w.heap.size+1) zs2 false ze5 rfl rfl ?_) rfl ⟨by rw[HZ.X],?_⟩
 ·rw[HZ.X];exact setRow_heap _ _ _ _ _ _ wn.X
 ·exact zl4 (((zP _).alloc (by simp) _).alloc (by simp;omega) _) (by omega) _
theorem y81(n:Int)(a:Option Zd)(ac:Nat)(zs:List Int)(w:zi)(hA:za3 w a zs):
 Zc zh 133 #[.agg #[ze zd n,za a zs.length ac]] w fun e w'=>e=.returned (.tuple #[.agg (cellsOf (zv2 n zs)),.bool (zq9 n zs)])/\Za w.heap.size w w':=by
 by_cases hn:1<=n/\n<=16
 ·obtain⟨m,rfl⟩:=xp (show 0<=n by omega)
  by_cases hl:zs.length=m*m
  ·exact ys4 m a ac zs w (by omega) (by omega) hl hA
  ·have hm:zq9 (m:Int) zs=false:=z65 fun h=>hl (by have:=h.2.2.1;rw[<-xD]at this;omega)
   rw[zp8 hm,hm];exact y94 m a zs.length ac w (by omega) (by omega) hl
 ·have hm:zq9 n zs=false:=z65 fun h=>hn ⟨h.1,h.2.1⟩
  rw[zp8 hm,hm];exact y59 n _ _ _ w hn
theorem zt7(n:Int)(a:Option Zd)(ac:Nat)(zs:List Int)(w:zi)(hA:za3 w a zs):
 Zc zh 96 #[.agg #[ze zd n,za a zs.length ac]] w fun e w'=>e=.returned (.bool (zq9 n zs))/\Za w.heap.size w w':=by
 have aU:Zb (Za w.heap.size w (w.alloc (zg #[ze zd n,za a zs.length ac] 26))):=
  zP _
 have HA:=za4 hA;clear hA;have hz:=(zero_of_info Tryz.info41).1;go_enter Tryz.func96,Tryz.ntmps96
 go_wp2_with fail
 refine(y81 n a ac zs _ (HA.below aU.X)).mono ?_;rintro e w1 ⟨rfl,hb⟩;have eD:Zb _:=hb;clear hb;generalize bR:cellsOf zs2=z0 at hz;have HZ:Zb _:=bR;clear bR;generalize oX:cellsOf (zv2 n zs)=gr;have cB:Zb _:=oX;clear oX
 go_wp2_with(
  with_reducible refine xJ ?_ 183 (.tmp 3) (.tmp 8) ?_ w1.heap.size gr ?_ ?_ 183 z0 ?_ ?_ ?_ ?_ ?_
  ·rfl
  ·rfl
  ·rfl
  ·rfl
  ·exact zS _ _
  ·rw[<-cB.X];exact zo7 (z13 _ _)
  ·rw[<-HZ.X,<-cB.X,zo6,zo6,ze5,z13]
  ·rw[<-cB.X];exact zn4 _)
 go_ret;refine⟨rfl,zl4 ((aU.trans (eD.mono (by simp<;>omega))).alloc ?_ _) ?_ _⟩
 all_goals
  have:=eD.size;simp at this;omega
theorem zW0(n fine:Int)(a ao av:Option Zd)(ac ko co kv cv:Nat)(zs os vs:List Int)(w:zi)(hA:za3 w a zs)(hO:za3 w ao os)(hV:za3 w av vs)(an:os.length=ko*6)(au:vs.length=kv*5)(aA:ko<=9223372036854775807)(aB:kv<=9223372036854775807):
 Zc zh 46 #[.agg #[ze zd n,za a zs.length ac,za ao ko co,za av kv cv,ze zd fine]] w fun e w'=>e=.returned (.bool (zd0 n zs os vs ko kv fine))/\Za w.heap.size w w':=by
 have aU:Zb (Za w.heap.size w (w.alloc (zg #[ze zd n,za a zs.length ac,za ao ko co,za av kv cv,ze zd fine] 30))):=zP _;have HA:=za4 hA;have HO:=za4 hO;have HV:=za4 hV;have aF:Zb _:=an;have aE:Zb _:=au;clear hA hO hV an au;cases h1:zq9 n zs
 ·have HM:Zb _:=h1
  have HC:Zb (zd0 n zs os vs ko kv fine=false):=by show _=_;simp[zd0,h1]
  clear h1;go_enter Tryz.func46,Tryz.ntmps46
  go_wp2_with fail
  refine(zt7 n a ac zs _ (HA.below aU.X)).mono ?_;rintro e w1 ⟨rfl,hb⟩;rw[HM.X];obtain⟨b1,r1⟩:=y90 hb;clear hb;go_wp2;go_ret;exact⟨zb6 HC.symm,b1⟩
 ·obtain⟨aZ,cR,_,_⟩:=zm1 h1
  have HM:Zb _:=h1;cases h2:zs7 n os ko
  ·have HC:Zb (zd0 n zs os vs ko kv fine=false):=by show _=_;simp[zd0,h1,h2]
   have ee:Zb _:=h2;clear h1 h2;go_enter Tryz.func46,Tryz.ntmps46
   go_wp2_with fail
   refine(zt7 n a ac zs _ (HA.below aU.X)).mono ?_;rintro e w1 ⟨rfl,hb⟩;rw[HM.X];obtain⟨b1,r1⟩:=y90 hb;obtain⟨c0,c1,c2,c3,c4⟩:=za7 r1;have B1:Zb _:=b1;clear hb b1 r1
   go_wp2_with fail
   refine(zw8 n fine a ao av _ _ _ _ _ _ os _ aZ cR (HO.below B1.X) aF.X aA).mono ?_;rintro e w2 ⟨rfl,hb⟩;rw[ee.X];go_wp2;go_ret;exact⟨zb6 HC.symm,B1.trans (hb.mono B1.size)⟩
  ·have ee:Zb _:=h2
   cases h3:zx9 n vs kv
   ·have HC:Zb (zd0 n zs os vs ko kv fine=false):=by show _=_;simp[zd0,h1,h2,h3]
    have Hk:Zb _:=h3;clear h1 h2 h3;go_enter Tryz.func46,Tryz.ntmps46
    go_wp2_with fail
    refine(zt7 n a ac zs _ (HA.below aU.X)).mono ?_;rintro e w1 ⟨rfl,hb⟩;rw[HM.X];obtain⟨b1,r1⟩:=y90 hb;obtain⟨c0,c1,c2,c3,c4⟩:=za7 r1;have B1:Zb _:=b1;have R1:Zb _:=r1;clear hb b1 r1
    go_wp2_with fail
    refine(zw8 n fine a ao av _ _ _ _ _ _ os _ aZ cR (HO.below B1.X) aF.X aA).mono ?_;rintro e w2 ⟨rfl,hb⟩;rw[ee.X];obtain⟨b2,r2⟩:=z37 hb B1.X R1.X;clear c0 c1 c2 c3 c4;obtain⟨c0,c1,c2,c3,c4⟩:=za7 r2;have B2:Zb _:=b2;clear hb b2 r2
    go_wp2_with fail
    refine(z07 n fine a ao av _ _ _ _ _ _ vs _ aZ cR (HV.below B2.X) aE.X aB).mono ?_;rintro e w3 ⟨rfl,hb⟩;rw[Hk.X];go_wp2;go_ret;exact⟨zb6 HC.symm,B2.trans (hb.mono B2.size)⟩
   ·have HC:Zb (zd0 n zs os vs ko kv fine=inB fine 0 1000000):=by show _=_;simp[zd0,h1,h2,h3]
    have Hk:Zb _:=h3;clear h1 h2 h3;go_enter Tryz.func46,Tryz.ntmps46
    go_wp2_with fail
    refine(zt7 n a ac zs _ (HA.below aU.X)).mono ?_;rintro e w1 ⟨rfl,hb⟩;rw[HM.X];obtain⟨b1,r1⟩:=y90 hb;obtain⟨c0,c1,c2,c3,c4⟩:=za7 r1;have B1:Zb _:=b1;have R1:Zb _:=r1;clear hb b1 r1
    go_wp2_with fail
    refine(zw8 n fine a ao av _ _ _ _ _ _ os _ aZ cR (HO.below B1.X) aF.X aA).mono ?_;rintro e w2 ⟨rfl,hb⟩;rw[ee.X];obtain⟨b2,r2⟩:=z37 hb B1.X R1.X;clear c0 c1 c2 c3 c4;obtain⟨c0,c1,c2,c3,c4⟩:=za7 r2;have B2:Zb _:=b2;have R2:Zb _:=r2;clear hb b2 r2
    go_wp2_with fail
    refine(z07 n fine a ao av _ _ _ _ _ _ vs _ aZ cR (HV.below B2.X) aE.X aB).mono ?_;rintro e w3 ⟨rfl,hb⟩;rw[Hk.X];obtain⟨b3,r3⟩:=z37 hb B2.X R2.X;clear c0 c1 c2 c3 c4;obtain⟨c0,c1,c2,c3,c4⟩:=za7 r3;clear hb r3
    go_wp2_with(go_at_call 32;refine(zc2 _ _ _ _).mono ?_;rintro e w' ⟨rfl,rfl⟩)
    go_ret;exact⟨zb6 HC.symm,b3⟩
theorem z46(x:Int)(w:zi):Zc zh 198 #[ze zd x] w fun e w'=>e=.returned (.bool false)/\w'=w:=by
 have hx:(x !=x)=false:=by simp
 go_enter Tryz.func198,Tryz.ntmps198;go_wp2;go_ret;exact⟨by first|rfl|simp,rfl⟩
def yv0(x y:Int):Int:=if x<y then -1 else if y<x then 1 else 0
theorem yc1(x y:Int)(w:zi):Zc zh 195 #[ze zd x,ze zd y] w fun e w'=>e=.returned (ze zd (yv0 x y))/\w'=w:=by
 unfold yv0;by_cases h1:x<y
 ·rw[z7 h1]
  go_enter Tryz.func195,Tryz.ntmps195
  go_wp2_with(go_at_call 198;refine(z46 _ _).mono ?_;rintro e w' ⟨rfl,hw⟩;subst hw)
  go_ret;exact⟨rfl,rfl⟩
 ·rw[ye h1]
  by_cases h2:y<x
  ·rw[z7 h2]
   go_enter Tryz.func195,Tryz.ntmps195
   go_wp2_with(go_at_call 198;refine(z46 _ _).mono ?_;rintro e w' ⟨rfl,hw⟩;subst hw)
   go_ret;exact⟨rfl,rfl⟩
  ·rw[ye h2]
   go_enter Tryz.func195,Tryz.ntmps195
   go_wp2_with(go_at_call 198;refine(z46 _ _).mono ?_;rintro e w' ⟨rfl,hw⟩;subst hw)
   go_ret;exact⟨rfl,rfl⟩
theorem zu2{W:zi}{base g ac n size:Nat}{E:TypeId}{az:Array Value}{xs:List Value}(hr:W.heap[g]? =some (.cells az E (0,0)))(bW:az.size=ac*size)(hn:n<=ac)(hm:ac<=maxLen)(hb:base<=g)(hx:xs.length=n*size)(hc:∀j,j<n*size->W.cell? ⟨g,j,none⟩=xs[j]?):W.ownsRow base E size (za (some ⟨g,0,none⟩) n ac) n xs:=by
 refine⟨hx,.inr ⟨g,ac,az,rfl,hb,hr,hn,hm,bW,?_⟩⟩;apply List.ext_getElem?;intro j;rw[yL];by_cases hj:j<n*size
 ·have h1:=hc j hj
  rw[zU _ _ _ _ _ _ hr]at h1;rw[z7 hj,Array.getElem?_toList,h1]
 ·rw[ye hj,yg (by omega)]
theorem ys6(a:Option Zd)(c dH:Nat)(w:zi)(hl:dH<=9223372036854775807):
 Zc zh 5 #[za a dH c] w fun e w'=>e=.returned (.bool (decide (1048576<dH)))/\w'=w:=by
 by_cases h:1048576<dH
 ·rw[zW h]
  go_enter Tryz.func5,Tryz.ntmps5;go_wp2;go_ret;exact⟨by first|rfl|(simp;omega),rfl⟩
 ·rw[zX h]
  go_enter Tryz.func5,Tryz.ntmps5;go_wp2;go_ret;exact⟨by first|rfl|(simp;omega),rfl⟩
theorem yh7:(Tryz.prog.info? 2).map (fun i=>(i.zero,i.size,i.bytes))=some (some (ze zd 0),1,8):=by kernel_rfl
structure PS where
 f:Bool
 i:Nat
 v:Int
def ps0:PS:=⟨false,0,0⟩
def zQ9(ok:Nat->Bool)(dl:Nat->Int)(s:PS)(k:Nat):PS:=if ok k=true/\(s.f=false∨dl k<s.v)then⟨true,k,dl k⟩else s
def pst(ok:Nat->Bool)(dl:Nat->Int):Nat->PS
 |0=>ps0
 |k+1=>zQ9 ok dl (pst ok dl k) k
theorem zS0(ok:Nat->Bool)(dl:Nat->Int)(k:Nat):pst ok dl (k+1)=zQ9 ok dl (pst ok dl k) k:=rfl
theorem y16{ok:Nat->Bool}{dl:Nat->Int}{s:PS}{k:Nat}(h1:ok k=true)(h2:s.f=false):zQ9 ok dl s k=⟨true,k,dl k⟩:=z7 ⟨h1,.inl h2⟩
theorem ys9{ok:Nat->Bool}{dl:Nat->Int}{s:PS}{k:Nat}(h1:ok k=true)(h2:dl k<s.v):zQ9 ok dl s k=⟨true,k,dl k⟩:=z7 ⟨h1,.inr h2⟩
theorem zU8{ok:Nat->Bool}{dl:Nat->Int}{s:PS}{k:Nat}(h1:ok k=false):zQ9 ok dl s k=s:=ye fun h=>by have:=h.1;rw[h1]at this;cases this
theorem yz9{ok:Nat->Bool}{dl:Nat->Int}{s:PS}{k:Nat}(h1:s.f=true)(h2:¬dl k<s.v):zQ9 ok dl s k=s:=ye fun h=>by
 rcases h.2 with h|h
 ·rw[h1]at h;cases h
 ·exact h2 h
theorem y85{ok:Nat->Bool}{dl:Nat->Int}(h:∀k,ok k=false):∀m,pst ok dl m=ps0
 |0=>rfl
 |m+1=>by rw[zS0,y85 h m,zU8 (h m)]
theorem yk8{ok:Nat->Bool}{dl:Nat->Int}:∀m,(pst ok dl m).f=true->ok (pst ok dl m).i=true/\dl (pst ok dl m).i=(pst ok dl m).v/\(pst ok dl m).i<m
 |0=>fun h=>by cases h
 |m+1=>fun h=>by
  rw[zS0]at h⊢;unfold zQ9 at h⊢;split
  ·rename_i hc
   exact⟨hc.1,rfl,Nat.lt_succ_self m⟩
  ·rename_i hc
   rw[ye hc]at h;obtain⟨h1,h2,h3⟩:=yk8 m h;exact⟨h1,h2,by omega⟩
theorem z50(x:Int)(w:zi):
 Zc zh 144 #[ze zd x] w fun e w'=>∃p,w.heap.size<=p/\e=.returned (.func (.func 169) #[] #[.pointer (some ⟨p,0,none⟩)])/\Za w.heap.size w w'/\w'.cell? ⟨p,0,none⟩=some (ze zd x):=by
 have Cd:∀(fn:Fn) (first ac:Array Value) (w:zi),(Instr.makeFunc fn first ac).run zh w=.ok (.func fn first ac) w:=fun _ _ _ _=>rfl;go_enter Tryz.func144,Tryz.ntmps144;go_wp2;go_ret;refine⟨w.heap.size,zT _,rfl,zP _,?_⟩
 first
  |exact zU _ _ _ _ _ _ (zS _ _)
  |exact za1 (zS _ _)
theorem zu1(n fine kk:Int)(a ao av:Option Zd)(zl ac ko co kv cv:Nat)(w:zi):
 Zc zh 77 #[.agg #[ze zd n,za a zl ac,za ao ko co,za av kv cv,ze zd fine],ze zd kk] w fun e w'=>∃kb cb:Nat,(w.heap.size<=kb/\w.heap.size<=cb)/\e=.returned (.func (.func 112) #[] #[.pointer (some ⟨kb,0,none⟩),.pointer (some ⟨cb,0,none⟩)])/\Za w.heap.size w w'/\w'.cell? ⟨kb,0,none⟩=some (ze zd kk)/\w'.heap[cb]? =some (zg #[ze zd n,za a zl ac,za ao ko co,za av kv cv,ze zd fine] 30 (0,0)):=by
 have Cd:∀(fn:Fn) (first ac:Array Value) (w:zi),(Instr.makeFunc fn first ac).run zh w=.ok (.func fn first ac) w:=fun _ _ _ _=>rfl;go_enter Tryz.func77,Tryz.ntmps77;go_wp2;go_ret;refine⟨w.heap.size+1,w.heap.size,⟨by omega,zT _⟩,rfl,(zP _).alloc (by simp) _,?_,xm _ _ _⟩;exact zU _ _ _ _ _ _ (xh _ _ _)
theorem zZ9{s:Int}(h1:0<=s)(h2:s<=2147483647):wrap64 (s*1103515245)=s*1103515245/\wrap64 (s*1103515245+12345)=s*1103515245+12345:=by
 unfold wrap64;omega
theorem zZ3(s:Int)(w:zi):
 Zc zh 130 #[ze zd s] w fun e w'=>e=.returned (ze zd (zm6 s))/\w'=w:=by
 obtain⟨r,HR⟩:=nmd (zm6 s);rw[HR.X];cases be:inB s 0 2147483647
 ·have HV:Zb (r=0):=HR.X.symm.trans (zS3 be)
  go_enter Tryz.func130,Tryz.ntmps130
  go_wp2_with(go_at_call 39;refine(zc0 _ _ _ _).mono ?_;rintro e w' ⟨rfl,rfl⟩)
  go_ret;exact⟨zl1 HV.X.symm,rfl⟩
 ·have hb:=zc8 be
  have HV:=za4 (HR.X.symm.trans (zG4 be));obtain⟨m1,m2⟩:=zZ9 hb.1 hb.2;go_enter Tryz.func130,Tryz.ntmps130
  go_wp2_with(go_at_call 39;refine(zc0 _ _ _ _).mono ?_;rintro e w' ⟨rfl,rfl⟩)
  go_ret;exact⟨zl1 HV.X.symm,rfl⟩
theorem zl6(n:Int)(w:zi):
 Zc zh 33 #[ze zd n] w fun e w'=>e=.returned (.bool (inB n 0 2147483647))/\w'=w:=by
 go_enter Tryz.func33,Tryz.ntmps33
 go_wp2_with(go_at_call 32;refine(zc2 _ _ _ _).mono ?_;rintro e w' ⟨rfl,rfl⟩)
 go_ret;exact⟨rfl,rfl⟩
theorem zX5(s:Int)(w:zi):
 Zc zh 141 #[ze zd s] w fun e w'=>e=.returned (ze zd (zm6 s))/\w'=w:=by
 obtain⟨r,HR⟩:=nmd (zm6 s);rw[HR.X];cases be:inB s 0 2147483647
 ·have HV:Zb (r=0):=HR.X.symm.trans (zS3 be)
  go_enter Tryz.func141,Tryz.ntmps141
  go_wp2_with(go_at_call 33;refine(zl6 _ _).mono ?_;rintro e w' ⟨rfl,rfl⟩)
  go_ret;exact⟨zl1 HV.X.symm,rfl⟩
 ·have hb:=zc8 be
  have HV:=za4 (HR.X.symm.trans (zG4 be));obtain⟨m1,m2⟩:=zZ9 hb.1 hb.2;go_enter Tryz.func141,Tryz.ntmps141
  go_wp2_with(go_at_call 33;refine(zl6 _ _).mono ?_;rintro e w' ⟨rfl,rfl⟩)
  go_ret;exact⟨zl1 HV.X.symm,rfl⟩
structure BCP(w W:zi)(cs ps:Array Value):Prop where
 b:Za w.heap.size w W
 c:W.heap[w.heap.size]? =some (.cells cs 30 (0,0))
 p:W.heap[w.heap.size+1]? =some (.cells ps 33 (0,0))
theorem BCP.below{w W W':zi}{cs ps:Array Value}(h:BCP w W cs ps)(hb:Za W.heap.size W W'):BCP w W' cs ps:=
 ⟨h.b.trans (hb.mono h.b.size),za0 hb (za2 h.c) h.c,za0 hb (za2 h.p) h.p⟩
theorem BCP.size{w W:zi}{cs ps:Array Value}(h:BCP w W cs ps):w.heap.size+2<=W.heap.size:=za2 h.p
theorem BCP.set{w W:zi}{cs ps:Array Value}(h:BCP w W cs ps){k i:Nat}{v:Value}(hk:w.heap.size+2<=k):BCP w (W.setCell ⟨k,i,none⟩ v) cs ps:=
 ⟨h.b.setCell (by simp;omega) _,za8 h.c (by omega),za8 h.p (by omega)⟩
theorem BCP.new(w:zi)(cs ps:Array Value):BCP w ((w.alloc (.cells cs 30)).alloc (.cells ps 33)) cs ps:=⟨(zP _).alloc (by simp) _,xm _ _ _,xh _ _ _⟩
theorem zr9(a b:Option Zd)(c1 c2:Nat)(xs ys:List Int)(w:zi)(hA:za3 w a xs)(hB:za3 w b ys)(mv:xs.length<=1125899906842624):
 Zc zh 9 #[za a xs.length c1,za b ys.length c2] w fun e w'=>e=.returned (.bool (decide (xs=ys)))/\Za w.heap.size w w':=by
 by_cases hl:xs.length=ys.length
 ·have HA:Zb _:=hA
  have HB:Zb _:=hB;have HL:Zb _:=hl;rw[hl]at mv⊢;clear hA hB hl;go_enter Tryz.func9,Tryz.ntmps9
  go_wp2_with fail
  go_loopw[5] (fun t wr=>∃k:Nat,k<=ys.length/\t=ze zd k/\Za w.heap.size w wr/\xs.take k=ys.take k) (fun t _=>ys.length - (intOf t).toNat)
  case atStart=>exact⟨0,xi _,rfl,y5 _ _,by simp⟩
  case round=>
   obtain⟨k,hk,rfl,hb,he⟩:=hrel;have HE:Zb _:=he;clear he;by_cases ah:k<ys.length
   ·have E':k<xs.length:=by rw[HL.X];exact ah
    obtain⟨b1,o1,rfl,jJ⟩:=za3.some (za3.below HA.X hb) E';obtain⟨b2,o2,rfl,cw⟩:=za3.some (za3.below HB.X hb) ah;have Om:=jJ k E';have Oa:=cw k ah;clear jJ cw;generalize jq:xs.getD k 0=t1 at Om;generalize fW:ys.getD k 0=t2 at Oa;have H1:Zb _:=jq;have H2:Zb _:=fW;clear jq fW;by_cases ht:t1=t2
    ·have H_:(t1 !=t2)=false:=by simp[ht]
     have HT:Zb _:=ht;clear ht;go_wp2
     go_quiet (fail)
     go_wp2;refine⟨⟨k+1,by omega,by go_num,xC hb _,?_⟩,by simp[intOf];omega⟩;rw[zf4 xs k E',zf4 ys k ah,HE.X,H1.X,H2.X,HT.X]
    ·have H_:(t1 !=t2)=true:=by simp[ht]
     have HN:Zb (decide (xs=ys)=false):=by
      apply zX;intro e;exact ht (by rw[<-H1.X,<-H2.X,e])
     clear ht;go_wp2
     go_quiet (fail)
     go_wp2;go_ret;exact⟨zb6 HN.symm,xC hb _⟩
   ·have HN:Zb (decide (xs=ys)=true):=by
     apply zW;have h:=HE.X
     rwa [xF (by rw[HL.X];omega),xF (by omega)]at h
    go_wp2;go_ret;exact⟨zb6 HN.symm,hb⟩
 ·have HN:Zb (decide (xs=ys)=false):=zX fun e=>hl (by rw[e])
  have aq:((xs.length:Int)!=(ys.length:Int))=true:=by rw[bne_iff_ne];omega
  clear hA hB hl;go_enter Tryz.func9,Tryz.ntmps9;go_wp2;go_ret;exact⟨zb6 HN.symm,y5 _ _⟩
theorem zJ8(v:Int)(a b:Option Zd)(c1 c2:Nat)(xs:List Int)(w:zi)(hA:za3 w a xs)(hB:za3 w b xs)(hl:xs.length<=1000):
 Zc zh 45 #[.agg #[ze zd v,za a xs.length c1],.agg #[ze zd v,za b xs.length c2]] w fun e w'=>e=.returned (.bool true)/\Za w.heap.size w w':=by
 have B0:Zb (Za w.heap.size w ((w.alloc (zg #[ze zd v,za a xs.length c1] 80)).alloc (zg #[ze zd v,za b xs.length c2] 80))):=(zP _).alloc (by simp) _;have P0:Zb (((w.alloc (zg #[ze zd v,za a xs.length c1] 80)).alloc (zg #[ze zd v,za b xs.length c2] 80)).heap[w.heap.size]? =some (zg #[ze zd v,za a xs.length c1] 80 (0,0))):=xm _ _ _;have Q0:Zb (((w.alloc (zg #[ze zd v,za a xs.length c1] 80)).alloc (zg #[ze zd v,za b xs.length c2] 80)).heap[w.heap.size+1]? =some (zg #[ze zd v,za b xs.length c2] 80 (0,0))):=xh _ _ _;have HA:=za4 hA;have HB:=za4 hB;clear hA hB;have Qx:(v==v)=true:=by simp
 have sJ:Zb (∀W,za3 W a xs->za3 W b xs->Zc zh 9 #[za a xs.length c1,za b xs.length c2] W fun e w'=>e=.returned (.bool true)/\Za W.heap.size W w'):=fun W h1 h2=>by
  have:=zr9 a b c1 c2 xs xs W h1 h2 (by omega);rw[show decide (xs=xs)=true by simp]at this;exact this
 go_enter Tryz.func45,Tryz.ntmps45;obtain⟨p0,p1⟩:=za1 P0.X;obtain⟨q0,q1⟩:=za1 Q0.X;obtain⟨m,HM⟩:=nmd xs.length;rw[HM.X]at B0 p0 p1 q0 q1 sJ⊢
 go_wp2_with fail
 generalize(w.alloc _).alloc _=W0 at*
 first
  |(refine(sJ.X _ (HA.below B0.X) (HB.below B0.X)).mono ?_
    rintro e w1 ⟨rfl,hb⟩;have B1:Zb _:=B0.trans (hb.mono B0.size);clear hb;go_wp2;go_ret;exact⟨by first|rfl|simp,B1.X⟩)
  |(have e0:=fun s:Kin W0=>s.cell p0
    have e1:=fun s:Kin W0=>s.cell p1;have e2:=fun s:Kin W0=>s.cell q0;have e3:=fun s:Kin W0=>s.cell q1;have aV:=Kin.there W0;refine zb1 (by kernel_rfl) (by kernel_rfl) ?_
    repeat(go_big_quiet_step ((go_at_call 9;with_reducible exact Kin.call (sJ.X _ ((HA.below B0.X).below (Kin.below _)) ((HB.below B0.X).below (Kin.below _))))))
    refine xA ?_;rintro _ ⟨s,rfl⟩;go_wp2;go_ret;exact⟨by first|rfl|simp,B0.trans (s.below.mono B0.size)⟩)
