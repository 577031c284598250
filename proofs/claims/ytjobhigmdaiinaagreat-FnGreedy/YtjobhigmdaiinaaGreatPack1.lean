import Derived.Test.YtjobhigmdaiinaaGreatPack0
import Derived.Test.YtjobhigmdaiinaaGreatRows
import Derived.WalkKit
import Derived.WalkSpells
import Derived.WalkLawsBesides
import Derived.Deep.QuietTactic
import Derived.BigQuiet
import Derived.Deep.RegionWith
import Derived.Deep.RegionHeld3
import Derived.Deep.WholeRow
namespace Go.Proofs.YtjobhigmdaiinaaGreat
end Go.Proofs.YtjobhigmdaiinaaGreat
namespace Go.Proofs.YtjobhigmdaiinaaGreat
open Go.RowKit
theorem hdn{p:Prop}(h:p):Hid p:=h
theorem za2{w:World}{k:Nat}{c0 c1:Value}{T:TypeId}(r:w.heap[k]? =some (.cells #[c0,c1] T (0,0))):
 w.cell? ⟨k,0,none⟩=some c0/\w.cell? ⟨k,1,none⟩=some c1:=by
 refine⟨?_,?_⟩
 ·rw[cell_of_row _ _ 0 _ _ _ r];simp
 ·rw[cell_of_row _ _ 1 _ _ _ r];simp
def Kin(wr:World):Type:={x:World // Below wr.heap.size wr x}
def Kin.w{wr:World}(s:Kin wr):World:=s.1
theorem Kin.there(wr:World):Nonempty (Kin wr):=⟨⟨wr,Below.refl _ _⟩⟩
theorem Kin.below{wr:World}(s:Kin wr):Below wr.heap.size wr s.w:=s.2
theorem Kin.cell{wr:World}(s:Kin wr){b o:Nat}{v:Value}(h:wr.cell? ⟨b,o,none⟩=some v):s.w.cell? ⟨b,o,none⟩=some v:=by
 rw[s.below.cell (p:=⟨b,o,none⟩) (block_lt_of_cell h)];exact h
theorem zb2{P:Program}{id:Nat}{Q:Exit->Act->World->Prop}{a:Act}{w:World}{l:List Oper}(hm:P.follows .mixedOrders=true)(hB:Region.lexB .any l.toArray=true)
 (h:wpQuiet P l.toArray (fun w'=>∃s:Kin w,w'=s.w) (fun a'=>∀w',(∃s:Kin w,w'=s.w)->Q .normal a' w') l a):(Code.region id l.toArray true).wp P Q a w:=
 wp_region_quiet (C:=fun w'=>∃s:Kin w,w'=s.w) hm hB ⟨⟨_,(Below.refl _ _).drew⟩,rfl⟩ (by simpa using h)
theorem Kin.call{P:Program}{f:FuncId}{args:Array Value}{wr:World}{s:Kin wr}{v:Value}
 (h:Calls P f args s.w fun e w'=>e=.returned v/\Below s.w.heap.size s.w w'):Calls P f args s.w fun e w''=>e=.returned v/\∃s':Kin wr,w''=s'.w:=
 h.mono fun _ w' ⟨he,hb⟩=>⟨he,⟨w',s.below.trans (hb.mono s.below.size)⟩,rfl⟩
theorem Kin.call_same{P:Program}{f:FuncId}{args:Array Value}{wr:World}{s:Kin wr}{v:Value}
 (h:Calls P f args s.w fun e w'=>e=.returned v/\w'=s.w):Calls P f args s.w fun e w''=>e=.returned v/\∃s':Kin wr,w''=s'.w:=
 h.mono fun _ _ ⟨he,hb⟩=>⟨he,s,hb⟩
theorem Tryz.info2:(Tryz.prog.info? 2).map (fun i=>(i.zero,i.size,i.bytes))=some (some (.int .i64 0),1,8):=by kernel_rfl
theorem zB2{P:Program}(w:World)(base:Nat)(t ty e:TypeId)(i:TypeInfo)(z:Value)(size bytes:Nat)(ht:P.underlying t=some (.slice e))(hi:P.info? e=some i)(hz:i.zero=some z)
 (hsize:i.size=size) (hby:i.bytes=bytes) (v:Value) (n:Nat) (xs:List Value) (hown:w.ownsRow base e size v n xs)
 (a:Addr) (m c:Nat) (news:List Value) (hl:news.length=m*size) (hnews:∀j u,news[j]? =some u->w.cell? (a.add j)=some u) (h1:∀u∈news,u.oneCell'=true)
 (h63:n+m<=maxLen) (hbytes:(n+m)*bytes<=140737488355328) {v':Value} {w':World} (hrun:(Builtin.append_ #[t,t] ty #[v,.slice (some a) m c]).run P w=.ok v' w'):v'.ownBlock=v.ownBlock∨v'.ownBlock=some w.heap.size:=by
 subst hsize;subst hby;have hsmall:n+m<=9223372036854775807:=by simp only[maxLen]at h63;omega
 rcases hown.2 with⟨rfl,rfl⟩|⟨g,cap,cur,rfl,hbg,hg,hnc,hcm,hcs,htake⟩
 ·by_cases hm:m=0
  ·subst hm
   have hn:news=[]:=List.eq_nil_of_length_eq_zero (by simpa using hl);subst hn;simp[Builtin.append_,run_underlying ht,sizeOf,typeInfo,hi,Builtin.lenOf,Builtin.firstCells,loadCells,loadCellsFrom]at hrun;rw[<-hrun.1];exact .inl rfl
  ·have hr:=run_append_nil (P:=P) w t ty e i z ht hi hz a m c news hl hnews (by omega) (by omega) (by have hb:=hbytes;simp only[Nat.zero_add]at hb;omega)
   rw[hr]at hrun
   injection hrun with e1 e2
   rw[<-e1];exact .inr rfl
 ·by_cases hroom:n+m<=cap
  ·have hfit:n*i.size+news.length<=cur.size:=by rw[hl,hcs,<-Nat.add_mul];exact Nat.mul_le_mul_right _ hroom
   have hr:=run_append_room (P:=P) w t ty e i ht hi g n cap cur hg a m c news hl hnews h1 hroom hfit;rw[hr]at hrun
   injection hrun with e1 e2
   rw[<-e1];exact .inl rfl
  ·have holds:=hown.cells (g:=g) rfl
   have hr:=run_append_grow (P:=P) w t ty e i z ht hi hz ⟨g,0,none⟩ n cap xs hown.1 holds a m c news hl hnews (by omega) (by omega) (growslice_fits (by omega) hbytes);rw[hr]at hrun
   injection hrun with e1 e2
   rw[<-e1];exact .inr rfl
theorem yi0{P:Program}{o:Oper}{a:Act}{w w':World}{v:Value}(s x:Operand)(t:TypeId)(vs vx:Value)(ho:o.op=.call {callee:=.builtin .append,args:=#[s,x],argTypes:=#[t,t]})
 (hs:a.eval s=vs) (hx:a.eval x=vx) (hr:(Builtin.append_ #[t,t] o.type #[vs,vx]).run P w=.ok v w'):(execOp a.eval o).run P w=.ok (.value v) w':=by
 unfold execOp;simp only[ho,resolve,invoke,builtin,Sem.run_bind,Sem.run_pure,Result.andThen_ok,List.map_toArray,List.map_cons,List.map_nil,hs,hx,hr]
theorem zf6{w:World}{base n g c k size m:Nat}{e:TypeId}{xs:List Value}{x:Value}(h:w.ownsRow base e size (.slice (some ⟨g,0,none⟩) m c) n xs)(hk:xs[k]? =some x):w.cell? ⟨g,k,none⟩=some x/\w.frozen? ⟨g,k,none⟩=false:=by
 refine⟨?_,?_⟩
 ·have:=h.cells (g:=g) rfl k x hk
  have hadd:(⟨g,0,none⟩:Addr).add k=⟨g,k,none⟩:=by unfold Addr.add;split<;>simp_all
  rw[hadd]at this;exact this
 ·obtain⟨h0,⟨h1,_⟩|⟨g',cap,cur,h2,h3,h4,h5⟩⟩:=h
  ·cases h1
  ·simp at h2
   obtain⟨rfl,rfl,rfl⟩:=h2;exact frozen_of_row _ _ k _ _ h4
theorem own_kinds{w:World}{base n size:Nat}{e:TypeId}{v:Value}{xs:List Value}(h:w.ownsRow base e size v n xs):(v=.slice none 0 0/\n=0)∨∃g c,v=.slice (some ⟨g,0,none⟩) n c/\base<=g/\g<w.heap.size:=by
 obtain⟨_,⟨h1,h2⟩|⟨g,cap,cur,h2,h3,h4,_⟩⟩:=h
 ·exact .inl ⟨h1,h2⟩
 ·exact .inr ⟨g,cap,h2,h3,za3 h4⟩
theorem za9(W:World)(g i:Nat)(v:Value):W.grownBy (W.setCell ⟨g,i,none⟩ v) (some g):=
 ⟨rfl,rfl,rfl,by simp[World.setCell],fun b _ hne=>heap_setCell_other W ⟨g,i,none⟩ b v (fun e=>hne (by rw[e]))⟩
theorem zb0{w w1 w2:World}{g:Nat}(h1:w.grownBy w1 (some g))(h2:w1.grownBy w2 (some g)):w.grownBy w2 (some g):=
 ⟨h2.os.trans h1.os,h2.tape.trans h1.tape,h2.output.trans h1.output,Nat.le_trans h1.size h2.size,fun b hb hne=>(h2.block b (Nat.lt_of_lt_of_le hb h1.size) hne).trans (h1.block b hb hne)⟩
theorem zs1(w:World)(g:Nat):w.grownBy w (some g):=⟨rfl,rfl,rfl,Nat.le_refl _,fun _ _ _=>rfl⟩
theorem zH8{zs:List Int}{id:Int}{k:Nat}(h:∀j,j<k->og6 zs j 0≠id)(hk:og6 zs k 0≠id):∀j,j<k+1->og6 zs j 0≠id:=by
 intro j hj;by_cases e:j=k
 ·rw[e];exact hk
 ·exact h j (by omega)
set_option maxHeartbeats 1000000 in
theorem zn6(n fine id:Int)(a ao av:Option Addr)(lt cap ko co kv cv:Nat)(zs:List Int)(w:World)(hA:za0 w ao zs)(hl:zs.length=ko*6)(hlen:ko<=9223372036854775807):
 Calls Tryz.prog 58 #[.agg #[.int .i64 n,.slice a lt cap,.slice ao ko co,.slice av kv cv,.int .i64 fine],.int .i64 id] w fun e w'=>e=.returned (.tuple #[.agg #[.int .i64 (zc3 zs ko id 0),.int .i64 (zc3 zs ko id 1),.int .i64 (zc3 zs ko id 2),.int .i64 (zc3 zs ko id 3),.int .i64 (zc3 zs ko id 4),.int .i64 (zc3 zs ko id 5)],.bool (zi8 zs ko id)])/\Below w.heap.size w w':=by
 have HB0:Hid (Below w.heap.size w ((w.alloc (Obj.cells #[Value.int .i64 n,Value.slice a lt cap,Value.slice ao ko co,Value.slice av kv cv,Value.int .i64 fine] 30)).alloc (Obj.cells #[Value.int .i64 0,Value.int .i64 0,Value.int .i64 0,Value.int .i64 0,Value.int .i64 0,Value.int .i64 0] 95))):=((Below.refl _ _).alloc (Nat.le_refl _) _).alloc (by simp) _;have HA:Hid _:=hA;have HL:Hid _:=hl;clear hA hl;go_enter Tryz.func58,Tryz.ntmps58
 go_wp2_with fail
 have P0:Hid (((w.alloc (Obj.cells #[Value.int .i64 n,Value.slice a lt cap,Value.slice ao ko co,Value.slice av kv cv,Value.int .i64 fine] 30)).alloc (Obj.cells #[Value.int .i64 0,Value.int .i64 0,Value.int .i64 0,Value.int .i64 0,Value.int .i64 0,Value.int .i64 0] 95)).heap[w.heap.size]? =_):=heap_alloc2_old _ _ _;have Q0:Hid (((w.alloc (Obj.cells #[Value.int .i64 n,Value.slice a lt cap,Value.slice ao ko co,Value.slice av kv cv,Value.int .i64 fine] 30)).alloc (Obj.cells #[Value.int .i64 0,Value.int .i64 0,Value.int .i64 0,Value.int .i64 0,Value.int .i64 0,Value.int .i64 0] 95)).heap[w.heap.size+1]? =_):=heap_alloc2_new _ _ _;generalize(w.alloc (Obj.cells #[Value.int .i64 n,Value.slice a lt cap,Value.slice ao ko co,Value.slice av kv cv,Value.int .i64 fine] 30)).alloc (Obj.cells #[Value.int .i64 0,Value.int .i64 0,Value.int .i64 0,Value.int .i64 0,Value.int .i64 0,Value.int .i64 0] 95)=W at*;obtain⟨c0,c1,c2,c3,c4⟩:=za8 P0.out;obtain⟨q0,q1,q2,q3,q4,q5⟩:=zf8 Q0.out;have f0:=fun i=>frozen_of_row _ _ i _ _ Q0.out
 go_loop [6] (fun t=>∃k:Nat,k<=ko/\t=.int .i64 k/\∀j,j<k->og6 zs j 0≠id) (fun t=>ko - (intOf t).toNat)
 case atStart=>exact⟨0,Nat.zero_le _,rfl,fun j hj=>by omega⟩
 case round=>
  obtain⟨k,hk,rfl,hno⟩:=hrel;have HN:Hid _:=hno;clear hno;by_cases hlt:k<ko
  ·obtain⟨b,off,rfl,hcs⟩:=za0.some (za0.below HA.out HB0.out) (j:=k*6) (by rw[HL.out];omega)
   obtain⟨r0,r1,r2,r3,r4,r5⟩:=zq3 hcs HL.out k hlt;clear hcs;obtain⟨o0,H0⟩:=nmd (og6 zs k 0);obtain⟨o1,H1⟩:=nmd (og6 zs k 1);obtain⟨o2,H2⟩:=nmd (og6 zs k 2);obtain⟨o3,H3⟩:=nmd (og6 zs k 3);obtain⟨o4,H4⟩:=nmd (og6 zs k 4);obtain⟨o5,H5⟩:=nmd (og6 zs k 5);rw[H0.out]at r0;rw[H1.out]at r1;rw[H2.out]at r2;rw[H3.out]at r3;rw[H4.out]at r4;rw[H5.out]at r5;by_cases he:o0=id
   ·have heb:(o0==id)=true:=by simp[he]
    have HF:Hid _:=zY8 hlt (by rw[H0.out];exact he) HN.out;clear he;go_wp2;refine bodyPost_ret (v:=.tuple #[.agg #[.int .i64 o0,.int .i64 o1,.int .i64 o2,.int .i64 o3,.int .i64 o4,.int .i64 o5],.bool true]) (by simp[results,Tryz.results58,go_sem,q0,q1,q2,q3,q4,q5]) rfl ⟨?_,?_⟩
    ·rw[zQ1 HF.out];simp only[zS0 HF.out,H0.out,H1.out,H2.out,H3.out,H4.out,H5.out]
    ·repeat(first|with_reducible exact HB0.out|refine Below.setCell ?_ (by simp<;>omega) _)
   ·have heb:(o0==id)=false:=by simp[he]
    have HS:Hid _:=zH8 HN.out (by rw[H0.out];exact he);clear he;go_wp2;refine⟨⟨k+1,by omega,by go_num,HS.out⟩,by simp[intOf];omega⟩
  ·have hkx:k=ko:=by omega
   have HF:Hid _:=zI3 (hkx▸HN.out);clear hkx;go_wp2;refine bodyPost_ret (v:=.tuple #[.agg #[.int .i64 0,.int .i64 0,.int .i64 0,.int .i64 0,.int .i64 0,.int .i64 0],.bool false]) (by simp[results,Tryz.results58,go_sem,q0,q1,q2,q3,q4,q5]) rfl ⟨?_,?_⟩
   ·rw[zB0 HF.out];simp only[z99 HF.out]
   ·repeat(first|with_reducible exact HB0.out|refine Below.setCell ?_ (by simp<;>omega) _)
theorem zG3{zs:List Int}{id:Int}{k:Nat}(h:∀j,j<k->og5 zs j 0≠id)(hk:og5 zs k 0≠id):∀j,j<k+1->og5 zs j 0≠id:=by
 intro j hj;by_cases e:j=k
 ·rw[e];exact hk
 ·exact h j (by omega)
set_option maxHeartbeats 1000000 in
theorem z35(n fine id:Int)(a ao av:Option Addr)(lt cap ko co kv cv:Nat)(zs:List Int)(w:World)(hA:za0 w av zs)(hl:zs.length=kv*5)(hlen:kv<=9223372036854775807):
 Calls Tryz.prog 130 #[.agg #[.int .i64 n,.slice a lt cap,.slice ao ko co,.slice av kv cv,.int .i64 fine],.int .i64 id] w fun e w'=>e=.returned (.tuple #[.agg #[.int .i64 (zb5 zs kv id 0),.int .i64 (zb5 zs kv id 1),.int .i64 (zb5 zs kv id 2),.int .i64 (zb5 zs kv id 3),.int .i64 (zb5 zs kv id 4)],.bool (fnd5T zs kv id)])/\Below w.heap.size w w':=by
 have HB0:Hid (Below w.heap.size w ((w.alloc (Obj.cells #[Value.int .i64 n,Value.slice a lt cap,Value.slice ao ko co,Value.slice av kv cv,Value.int .i64 fine] 30)).alloc (Obj.cells #[Value.int .i64 0,Value.int .i64 0,Value.int .i64 0,Value.int .i64 0,Value.int .i64 0] 41))):=((Below.refl _ _).alloc (Nat.le_refl _) _).alloc (by simp) _;have HA:Hid _:=hA;have HL:Hid _:=hl;clear hA hl;go_enter Tryz.func130,Tryz.ntmps130
 go_wp2_with fail
 have P0:Hid (((w.alloc (Obj.cells #[Value.int .i64 n,Value.slice a lt cap,Value.slice ao ko co,Value.slice av kv cv,Value.int .i64 fine] 30)).alloc (Obj.cells #[Value.int .i64 0,Value.int .i64 0,Value.int .i64 0,Value.int .i64 0,Value.int .i64 0] 41)).heap[w.heap.size]? =_):=heap_alloc2_old _ _ _;have Q0:Hid (((w.alloc (Obj.cells #[Value.int .i64 n,Value.slice a lt cap,Value.slice ao ko co,Value.slice av kv cv,Value.int .i64 fine] 30)).alloc (Obj.cells #[Value.int .i64 0,Value.int .i64 0,Value.int .i64 0,Value.int .i64 0,Value.int .i64 0] 41)).heap[w.heap.size+1]? =_):=heap_alloc2_new _ _ _;generalize(w.alloc (Obj.cells #[Value.int .i64 n,Value.slice a lt cap,Value.slice ao ko co,Value.slice av kv cv,Value.int .i64 fine] 30)).alloc (Obj.cells #[Value.int .i64 0,Value.int .i64 0,Value.int .i64 0,Value.int .i64 0,Value.int .i64 0] 41)=W at*;obtain⟨c0,c1,c2,c3,c4⟩:=za8 P0.out;obtain⟨q0,q1,q2,q3,q4⟩:=za8 Q0.out;have f0:=fun i=>frozen_of_row _ _ i _ _ Q0.out
 go_loop [6] (fun t=>∃k:Nat,k<=kv/\t=.int .i64 k/\∀j,j<k->og5 zs j 0≠id) (fun t=>kv - (intOf t).toNat)
 case atStart=>exact⟨0,Nat.zero_le _,rfl,fun j hj=>by omega⟩
 case round=>
  obtain⟨k,hk,rfl,hno⟩:=hrel;have HN:Hid _:=hno;clear hno;by_cases hlt:k<kv
  ·obtain⟨b,off,rfl,hcs⟩:=za0.some (za0.below HA.out HB0.out) (j:=k*5) (by rw[HL.out];omega)
   obtain⟨r0,r1,r2,r3,r4⟩:=z48 hcs HL.out k hlt;clear hcs;obtain⟨o0,H0⟩:=nmd (og5 zs k 0);obtain⟨o1,H1⟩:=nmd (og5 zs k 1);obtain⟨o2,H2⟩:=nmd (og5 zs k 2);obtain⟨o3,H3⟩:=nmd (og5 zs k 3);obtain⟨o4,H4⟩:=nmd (og5 zs k 4);rw[H0.out]at r0;rw[H1.out]at r1;rw[H2.out]at r2;rw[H3.out]at r3;rw[H4.out]at r4;by_cases he:o0=id
   ·have heb:(o0==id)=true:=by simp[he]
    have HF:Hid _:=ya8 hlt (by rw[H0.out];exact he) HN.out;clear he;go_wp2;refine bodyPost_ret (v:=.tuple #[.agg #[.int .i64 o0,.int .i64 o1,.int .i64 o2,.int .i64 o3,.int .i64 o4],.bool true]) (by simp[results,Tryz.results130,go_sem,q0,q1,q2,q3,q4]) rfl ⟨?_,?_⟩
    ·rw[zQ7 HF.out];simp only[zP7 HF.out,H0.out,H1.out,H2.out,H3.out,H4.out]
    ·repeat(first|with_reducible exact HB0.out|refine Below.setCell ?_ (by simp<;>omega) _)
   ·have heb:(o0==id)=false:=by simp[he]
    have HS:Hid _:=zG3 HN.out (by rw[H0.out];exact he);clear he;go_wp2;refine⟨⟨k+1,by omega,by go_num,HS.out⟩,by simp[intOf];omega⟩
  ·have hkx:k=kv:=by omega
   have HF:Hid _:=zK2 (hkx▸HN.out);clear hkx;go_wp2;refine bodyPost_ret (v:=.tuple #[.agg #[.int .i64 0,.int .i64 0,.int .i64 0,.int .i64 0,.int .i64 0],.bool false]) (by simp[results,Tryz.results130,go_sem,q0,q1,q2,q3,q4]) rfl ⟨?_,?_⟩
   ·rw[zA2 HF.out];simp only[z96 HF.out]
   ·repeat(first|with_reducible exact HB0.out|refine Below.setCell ?_ (by simp<;>omega) _)
theorem za4{W:World}{b o k i:Nat}{v x:Value}(h:W.cell? ⟨b,o,none⟩=some x)(hne:b≠k):(W.setCell ⟨k,i,none⟩ v).cell? ⟨b,o,none⟩=some x:=by
 rw[World.cell?_of_block (w:=W) (heap_setCell_other W ⟨k,i,none⟩ b v hne)];exact h
theorem za7{W:World}{g k i:Nat}{o:Obj}{v:Value}(h:W.heap[g]? =some o)(hne:g≠k):(W.setCell ⟨k,i,none⟩ v).heap[g]? =some o:=by
 rw[heap_setCell_other _ _ _ _ (by simpa using hne)];exact h
theorem zE4{W:World}{g:Nat}{z0 z1 z2 z3 z4 z5 o0 o1 o2 o3 o4 o5:Value}{T:TypeId}(h:W.heap[g]? =some (.cells #[z0,z1,z2,z3,z4,z5] T (0,0))):
 ((((((W.setCell ⟨g,0,none⟩ o0).setCell ⟨g,1,none⟩ o1).setCell ⟨g,2,none⟩ o2).setCell ⟨g,3,none⟩ o3).setCell ⟨g,4,none⟩ o4).setCell ⟨g,5,none⟩ o5).heap[g]? =some (.cells #[o0,o1,o2,o3,o4,o5] T (0,0)):=
 heap_setCell_same _ _ _ _ _ _ (heap_setCell_same _ _ _ _ _ _ (heap_setCell_same _ _ _ _ _ _ (heap_setCell_same _ _ _ _ _ _ (heap_setCell_same _ _ _ _ _ _ (heap_setCell_same _ _ _ _ _ _ h)))))
theorem zn0{w:World}{b off:Nat}{zs:List Int}(h:za0 w (some ⟨b,off,none⟩) zs){j:Nat}(hj:j<zs.length){v:Int}(hv:zs.getD j 0=v):w.cell? ⟨b,off+j,none⟩=some (.int .i64 v):=by
 obtain⟨b',off',e,hc⟩:=h j hj;simp at e;obtain⟨rfl,rfl⟩:=e;rw[hc,hv]
def CR(w W:World)(cs rs:Array Value):Prop:=Below w.heap.size w W/\W.heap[w.heap.size]? =some (.cells cs 30 (0,0))/\W.heap[w.heap.size+1]? =some (.cells rs 43 (0,0))
theorem CR.new(w:World)(cs rs:Array Value):CR w ((w.alloc (.cells cs 30)).alloc (.cells rs 43)) cs rs:=
 ⟨((Below.refl _ _).alloc (Nat.le_refl _) _).alloc (by simp) _,heap_alloc2_old _ _ _,heap_alloc2_new _ _ _⟩
theorem CR.below{w W W':World}{cs rs:Array Value}(h:CR w W cs rs)(hb:Below W.heap.size W W'):CR w W' cs rs:=
 ⟨h.1.trans (hb.mono h.1.size),za1 hb (za3 h.2.1) h.2.1,za1 hb (za3 h.2.2) h.2.2⟩
theorem CR.drew{w W:World}{cs rs:Array Value}(h:CR w W cs rs):CR w W.drew cs rs:=h.below (Below.refl _ _).drew
theorem CR.alloc{w W:World}{cs rs:Array Value}(h:CR w W cs rs)(o:Obj):CR w (W.alloc o) cs rs:=h.below ((Below.refl _ _).alloc (Nat.le_refl _) _)
theorem CR.set{w W:World}{cs rs:Array Value}(h:CR w W cs rs){k i:Nat}{v:Value}(hk:w.heap.size+1<k):CR w (W.setCell ⟨k,i,none⟩ v) cs rs:=
 ⟨h.1.setCell (by simp;omega) _,za7 h.2.1 (by omega),za7 h.2.2 (by omega)⟩
theorem CR.big{w W:World}{cs rs:Array Value}(h:CR w W cs rs):w.heap.size+1<W.heap.size:=za3 h.2.2
set_option maxHeartbeats 400000 in
theorem zc8(n lo hi:Int)(w:World):
 Calls Tryz.prog 47 #[.int .i64 n,.int .i64 lo,.int .i64 hi] w fun e w'=>e=.returned (.bool (inB n lo hi))/\w'=w:=by
 by_cases h1:lo<=n
 ·by_cases h2:n<=hi
  ·have h3:=zm0 ⟨h1,h2⟩
   rw[h3];go_enter Tryz.func47,Tryz.ntmps47;go_wp2;go_ret;exact⟨by simp,rfl⟩
  ·have h3:inB n lo hi=false:=zq8 (by omega)
   rw[h3];go_enter Tryz.func47,Tryz.ntmps47;go_wp2;go_ret;exact⟨by simp,rfl⟩
 ·have h3:inB n lo hi=false:=zq8 (by omega)
  rw[h3];go_enter Tryz.func47,Tryz.ntmps47;go_wp2;go_ret;exact⟨by simp,rfl⟩
set_option maxHeartbeats 400000 in
theorem zq1(n o0 o1 o2 o3 o4 o5:Int)(w:World)(hn1:1<=n)(hn2:n<=16):
 Calls Tryz.prog 99 #[.agg #[.int .i64 o0,.int .i64 o1,.int .i64 o2,.int .i64 o3,.int .i64 o4,.int .i64 o5],.int .i64 n] w fun e w'=>e=.returned (.bool (z64 n o0 o1 o2 o3 o4 o5))/\Below w.heap.size w w':=by
 cases h0:inB o0 1 1000000000
 ·go_enter Tryz.func99,Tryz.ntmps99
  go_wp2_with(first|(go_at_call 47;refine(zc8 _ _ _ _).mono ?_;rintro e w' ⟨rfl,rfl⟩))
  go_ret;exact⟨zb4 (by simp[z64,zp7,zg5,h0]),(Below.refl _ _).alloc (Nat.le_refl _) _⟩
 ·cases h1:inB o1 0 (n - 1)
  ·go_enter Tryz.func99,Tryz.ntmps99
   go_wp2_with(first|(go_at_call 47;refine(zc8 _ _ _ _).mono ?_;rintro e w' ⟨rfl,rfl⟩))
   go_ret;exact⟨zb4 (by simp[z64,zp7,zg5,h0,h1]),(Below.refl _ _).alloc (Nat.le_refl _) _⟩
  ·cases h2:inB o2 0 1000
   ·go_enter Tryz.func99,Tryz.ntmps99
    go_wp2_with(first|(go_at_call 47;refine(zc8 _ _ _ _).mono ?_;rintro e w' ⟨rfl,rfl⟩))
    go_ret;exact⟨zb4 (by simp[z64,zp7,zg5,h0,h1,h2]),(Below.refl _ _).alloc (Nat.le_refl _) _⟩
   ·cases h3:inB o3 0 1000000
    ·go_enter Tryz.func99,Tryz.ntmps99
     go_wp2_with(first|(go_at_call 47;refine(zc8 _ _ _ _).mono ?_;rintro e w' ⟨rfl,rfl⟩))
     go_ret;exact⟨zb4 (by simp[z64,zp7,zg5,h0,h1,h2,h3]),(Below.refl _ _).alloc (Nat.le_refl _) _⟩
    ·cases h4:inB o4 o3 1000000
     ·go_enter Tryz.func99,Tryz.ntmps99
      go_wp2_with(first|(go_at_call 47;refine(zc8 _ _ _ _).mono ?_;rintro e w' ⟨rfl,rfl⟩))
      go_ret;exact⟨zb4 (by simp[z64,zp7,zg5,h0,h1,h2,h3,h4]),(Below.refl _ _).alloc (Nat.le_refl _) _⟩
     ·cases h5:inB o5 0 10000
      ·go_enter Tryz.func99,Tryz.ntmps99
       go_wp2_with(first|(go_at_call 47;refine(zc8 _ _ _ _).mono ?_;rintro e w' ⟨rfl,rfl⟩))
       go_ret;exact⟨zb4 (by simp[z64,zp7,zg5,h0,h1,h2,h3,h4,h5]),(Below.refl _ _).alloc (Nat.le_refl _) _⟩
      ·go_enter Tryz.func99,Tryz.ntmps99
       go_wp2_with(first|(go_at_call 47;refine(zc8 _ _ _ _).mono ?_;rintro e w' ⟨rfl,rfl⟩))
       go_ret;exact⟨zb4 (by simp[z64,zp7,zg5,h0,h1,h2,h3,h4,h5]),(Below.refl _ _).alloc (Nat.le_refl _) _⟩
set_option maxHeartbeats 400000 in
theorem zl4(n o0 o1 o2 o3 o4:Int)(w:World)(hn1:1<=n)(hn2:n<=16):
 Calls Tryz.prog 100 #[.agg #[.int .i64 o0,.int .i64 o1,.int .i64 o2,.int .i64 o3,.int .i64 o4],.int .i64 n] w fun e w'=>e=.returned (.bool (zE2 n o0 o1 o2 o3 o4))/\Below w.heap.size w w':=by
 cases h0:inB o0 1 1000000000
 ·go_enter Tryz.func100,Tryz.ntmps100
  go_wp2_with(first|(go_at_call 47;refine(zc8 _ _ _ _).mono ?_;rintro e w' ⟨rfl,rfl⟩))
  go_ret;exact⟨zb4 (by simp[zE2,zt9,zg5,h0]),(Below.refl _ _).alloc (Nat.le_refl _) _⟩
 ·cases h1:inB o1 0 (n - 1)
  ·go_enter Tryz.func100,Tryz.ntmps100
   go_wp2_with(first|(go_at_call 47;refine(zc8 _ _ _ _).mono ?_;rintro e w' ⟨rfl,rfl⟩))
   go_ret;exact⟨zb4 (by simp[zE2,zt9,zg5,h0,h1]),(Below.refl _ _).alloc (Nat.le_refl _) _⟩
  ·cases h2:inB o2 0 1000
   ·go_enter Tryz.func100,Tryz.ntmps100
    go_wp2_with(first|(go_at_call 47;refine(zc8 _ _ _ _).mono ?_;rintro e w' ⟨rfl,rfl⟩))
    go_ret;exact⟨zb4 (by simp[zE2,zt9,zg5,h0,h1,h2]),(Below.refl _ _).alloc (Nat.le_refl _) _⟩
   ·cases h3:inB o3 0 1000000
    ·go_enter Tryz.func100,Tryz.ntmps100
     go_wp2_with(first|(go_at_call 47;refine(zc8 _ _ _ _).mono ?_;rintro e w' ⟨rfl,rfl⟩))
     go_ret;exact⟨zb4 (by simp[zE2,zt9,zg5,h0,h1,h2,h3]),(Below.refl _ _).alloc (Nat.le_refl _) _⟩
    ·cases h4:inB o4 o3 1000000
     ·go_enter Tryz.func100,Tryz.ntmps100
      go_wp2_with(first|(go_at_call 47;refine(zc8 _ _ _ _).mono ?_;rintro e w' ⟨rfl,rfl⟩))
      go_ret;exact⟨zb4 (by simp[zE2,zt9,zg5,h0,h1,h2,h3,h4]),(Below.refl _ _).alloc (Nat.le_refl _) _⟩
     ·go_enter Tryz.func100,Tryz.ntmps100
      go_wp2_with(first|(go_at_call 47;refine(zc8 _ _ _ _).mono ?_;rintro e w' ⟨rfl,rfl⟩))
      go_ret;exact⟨zb4 (by simp[zE2,zt9,zg5,h0,h1,h2,h3,h4]),(Below.refl _ _).alloc (Nat.le_refl _) _⟩
set_option maxHeartbeats 1000000 in
theorem zG5(n:Nat)(a:Option Addr)(cap:Nat)(zs:List Int)(w:World)(h1:1<=n)(h2:n<=16)(hl:zs.length=n*n)(hA:za0 w a zs):
 Calls Tryz.prog 98 #[.agg #[.int .i64 n,.slice a zs.length cap]] w fun e w'=>e=.returned (.bool (zm2 n zs))/\Below w.heap.size w w':=by
 have hnn:=zu2 n n h2 h2;have hd1:inB (n:Int) 1 16=true:=zm0 (by omega);have hnw:wrap64 ((n:Int)*(n:Int))=(n:Int)*(n:Int):=IntWalk.wrap64_in _ (by rw[<-Int.natCast_mul];omega);have hn0:¬n=0:=by omega
 have HA:Hid _:=hA;clear hA;rw[hl];have HL:Hid _:=hl;clear hl;go_enter Tryz.func98,Tryz.ntmps98
 go_wp2_with(go_at_call 47;refine(zc8 _ _ _ _).mono ?_;rintro e w' ⟨rfl,rfl⟩)
 go_loopw[3] (fun t wr=>∃k:Nat,k<=n*n/\t=.int .i64 k/\Below w.heap.size w wr/\wr.heap[w.heap.size]? =some (.cells #[.int .i64 n,.slice a (n*n) cap] 26 (0,0))/\(∀i,i<k->0<=zs.getD i 0/\zs.getD i 0<=10000/\(i / n=i % n->zs.getD i 0=0))) (fun t _=>n*n - (intOf t).toNat)
 case atStart=>exact⟨0,Nat.zero_le _,rfl,(Below.refl _ _).alloc (Nat.le_refl _) _,heap_alloc_new _ _,fun i hi=>by omega⟩
 case round=>
  obtain⟨k,hk,rfl,hb,g3,hok⟩:=hrel;have c0:=cell_of_row _ _ 0 _ _ _ g3;have c1:=cell_of_row _ _ 1 _ _ _ g3;simp at c0 c1;have HO:Hid _:=hok;have G3:Hid _:=g3;have HB:Hid _:=hb;clear hok;by_cases hlt:k<n*n
  ·obtain⟨bb,off,rfl,hcs⟩:=za0.some (za0.below HA.out hb) (j:=k) (by rw[HL.out];exact hlt)
   have ct:=hcs k (by rw[HL.out];exact hlt);clear hcs;generalize htt:zs.getD k 0=t at ct;have HT:Hid _:=htt;clear htt g3 hb;have hw1:IntKind.i64.wrap ((k:Int) / (n:Int))=(k:Int) / (n:Int):=by
    rw[IntKind.wrap_i64,<-Int.natCast_ediv];have hq:=Nat.div_le_self k n;generalize k / n=q at hq;omega
   have hw2:(k:Int).tmod (n:Int)=(k:Int) % (n:Int):=Int.tmod_eq_emod_of_nonneg (by omega);have hlt':(k:Int)<(n:Int)*(n:Int):=by rw[<-Int.natCast_mul];omega
   by_cases hv:0<=t/\t<=10000
   ·have hvd:=zm0 hv
    by_cases hq:k / n=k % n
    ·have hqb:((k:Int) / (n:Int)==(k:Int) % (n:Int))=true:=by simp;omega
     by_cases ht0:t=0
     ·have htb:(t !=0)=false:=by simp[ht0]
      have HS:Hid (∀i,i<k+1->0<=zs.getD i 0/\zs.getD i 0<=10000/\(i / n=i % n->zs.getD i 0=0)):=by
       intro i hi;by_cases e:i=k
       ·rw[e,HT.out];exact⟨hv.1,hv.2,fun _=>ht0⟩
       ·exact HO.out i (by omega)
      clear HO hq ht0;go_wp2
      go_quiet ((go_at_call 47;exact Calls.quiet_of_same (zc8 _ _ _ _)))
      go_wp2;refine⟨⟨k+1,by omega,by go_num,below_drewN HB.out _,G3.out,HS.out⟩,by simp[intOf];omega⟩
     ·have htb:(t !=0)=true:=by simp[ht0]
      have HN:Hid _:=yc2 n zs HL.out k hlt (by rw[HT.out];exact fun h=>ht0 (h.2.2 hq));clear HO hq ht0;go_wp2
      go_quiet ((go_at_call 47;exact Calls.quiet_of_same (zc8 _ _ _ _)))
      go_wp2;go_ret;exact⟨zb4 HN.symm,below_drewN HB.out _⟩
    ·have hqb:((k:Int) / (n:Int)==(k:Int) % (n:Int))=false:=by simp;omega
     have HS:Hid (∀i,i<k+1->0<=zs.getD i 0/\zs.getD i 0<=10000/\(i / n=i % n->zs.getD i 0=0)):=by
      intro i hi;by_cases e:i=k
      ·rw[e,HT.out];exact⟨hv.1,hv.2,fun h=>absurd h hq⟩
      ·exact HO.out i (by omega)
     clear HO hq;go_wp2
     go_quiet ((go_at_call 47;exact Calls.quiet_of_same (zc8 _ _ _ _)))
     go_wp2;refine⟨⟨k+1,by omega,by go_num,below_drewN HB.out _,G3.out,HS.out⟩,by simp[intOf];omega⟩
   ·have hvd:=zq8 hv
    have HN:Hid _:=yc2 n zs HL.out k hlt (by rw[HT.out];exact fun h=>hv ⟨h.1,h.2.1⟩);clear HO hv;go_wp2
    go_quiet ((go_at_call 47;exact Calls.quiet_of_same (zc8 _ _ _ _)))
    go_wp2;go_ret;exact⟨zb4 HN.symm,below_drewN HB.out _⟩
  ·have hge':(n:Int)*(n:Int)<=(k:Int):=by rw[<-Int.natCast_mul];omega
   have HN:Hid _:=yj5 n zs h1 h2 HL.out (fun i hi=>HO.out i (by omega));clear HO g3;go_wp2;go_ret;exact⟨zb4 HN.symm,HB.out⟩
set_option maxHeartbeats 1000000 in
theorem zW7(n:Int)(a:Option Addr)(len cap:Nat)(w:World)(h:¬(1<=n/\n<=16/\(len:Int)=n*n)):
 Calls Tryz.prog 98 #[.agg #[.int .i64 n,.slice a len cap]] w fun e w'=>e=.returned (.bool false)/\Below w.heap.size w w':=by
 by_cases hn:1<=n/\n<=16
 ·obtain⟨m,rfl⟩:=Int.eq_ofNat_of_zero_le (show 0<=n by omega)
  have hnn:m*m<=256:=zu2 m m (by omega) (by omega);have hd1:=zm0 hn;have hnw:wrap64 ((m:Int)*(m:Int))=(m:Int)*(m:Int):=IntWalk.wrap64_in _ (by rw[<-Int.natCast_mul];omega);have hne:((len:Int)!=(m:Int)*(m:Int))=true:=by
   rw[bne_iff_ne];exact fun e=>h ⟨hn.1,hn.2,e⟩
  clear h;go_enter Tryz.func98,Tryz.ntmps98
  go_wp2_with(go_at_call 47;refine(zc8 _ _ _ _).mono ?_;rintro e w' ⟨rfl,rfl⟩)
  go_ret;exact⟨rfl,(Below.refl _ _).alloc (Nat.le_refl _) _⟩
 ·have hd1:=zq8 hn
  clear h hn;go_enter Tryz.func98,Tryz.ntmps98
  go_wp2_with(go_at_call 47;refine(zc8 _ _ _ _).mono ?_;rintro e w' ⟨rfl,rfl⟩)
  go_ret;exact⟨rfl,(Below.refl _ _).alloc (Nat.le_refl _) _⟩
theorem zj3(n:Int)(a:Option Addr)(cap:Nat)(zs:List Int)(w:World)(hA:za0 w a zs):
 Calls Tryz.prog 98 #[.agg #[.int .i64 n,.slice a zs.length cap]] w fun e w'=>e=.returned (.bool (zm2 n zs))/\Below w.heap.size w w':=by
 by_cases h:1<=n/\n<=16/\(zs.length:Int)=n*n
 ·obtain⟨m,rfl⟩:=Int.eq_ofNat_of_zero_le (show 0<=n by omega)
  exact zG5 m a cap zs w (by omega) (by omega) (by have:=h.2.2;rw[<-Int.natCast_mul]at this;omega) hA
 ·have hm:=zx2 fun k=>h ⟨k.1,k.2.1,k.2.2.1⟩
  rw[hm];exact zW7 n a _ cap w h
set_option maxHeartbeats 1000000 in
theorem zO5(n fine:Int)(a ao av:Option Addr)(cap ko co kv cv:Nat)(zs os vs:List Int)(w:World)(hA:za0 w a zs)(hko:ko<=9223372036854775807)(hkv:kv<=9223372036854775807)(h:¬(zm2 n zs=true/\ko<=12/\kv<=5/\inB fine 0 1000000=true)):
 Calls Tryz.prog 55 #[.agg #[.int .i64 n,.slice a zs.length cap,.slice ao ko co,.slice av kv cv,.int .i64 fine]] w fun e w'=>e=.returned (.bool (zb8 n zs os vs ko kv fine))/\Below w.heap.size w w':=by
 have HB0:Hid (Below w.heap.size w (w.alloc (Obj.cells #[Value.int .i64 n,Value.slice a zs.length cap,Value.slice ao ko co,Value.slice av kv cv,Value.int .i64 fine] 30))):=(Below.refl _ _).alloc (Nat.le_refl _) _;have HA:Hid (za0 w a zs):=hA;clear hA
 have HC:Hid (zb8 n zs os vs ko kv fine=false):=by
  show _=_;unfold zb8;cases h1:zm2 n zs
  ·rfl
  ·cases h2:zo3 n os ko
   ·rfl
   ·cases h3:zu0 n vs kv
    ·rfl
    ·cases h4:inB fine 0 1000000
     ·rfl
     ·exact absurd ⟨h1,(zh0 h2).1,(zs0 h3).1,h4⟩ h
 cases h1:zm2 n zs
 ·have HM:Hid _:=h1
  clear h1 h;go_enter Tryz.func55,Tryz.ntmps55
  go_wp2_with fail
  refine(zj3 n a cap zs _ (HA.below HB0.out)).mono ?_;rintro e w1 ⟨rfl,hb⟩;rw[HM.out];obtain⟨b1,r1⟩:=yi8 hb;obtain⟨c0,c1,c2,c3,c4⟩:=za8 r1;have B1:Hid _:=b1;have R1:Hid _:=r1;clear hb b1 r1
  go_wp2_with(first|(go_at_call 47;refine(zc8 _ _ _ _).mono ?_;rintro e w' ⟨rfl,rfl⟩))
  go_ret;exact⟨zb4 HC.symm,B1.out⟩
 ·have HM:Hid _:=h1
  by_cases h2:ko<=12
  ·by_cases h3:kv<=5
   ·have h4:inB fine 0 1000000=false:=by
     cases h4:inB fine 0 1000000
     ·rfl
     ·exact absurd ⟨h1,h2,h3,h4⟩ h
    clear h1 h;go_enter Tryz.func55,Tryz.ntmps55
    go_wp2_with fail
    refine(zj3 n a cap zs _ (HA.below HB0.out)).mono ?_;rintro e w1 ⟨rfl,hb⟩;rw[HM.out];obtain⟨b1,r1⟩:=yi8 hb;obtain⟨c0,c1,c2,c3,c4⟩:=za8 r1;have B1:Hid _:=b1;have R1:Hid _:=r1;clear hb b1 r1
    go_wp2_with(first|(go_at_call 47;refine(zc8 _ _ _ _).mono ?_;rintro e w' ⟨rfl,rfl⟩))
    go_ret;exact⟨zb4 HC.symm,B1.out⟩
   ·clear h1 h
    go_enter Tryz.func55,Tryz.ntmps55
    go_wp2_with fail
    refine(zj3 n a cap zs _ (HA.below HB0.out)).mono ?_;rintro e w1 ⟨rfl,hb⟩;rw[HM.out];obtain⟨b1,r1⟩:=yi8 hb;obtain⟨c0,c1,c2,c3,c4⟩:=za8 r1;have B1:Hid _:=b1;have R1:Hid _:=r1;clear hb b1 r1
    go_wp2_with(first|(go_at_call 47;refine(zc8 _ _ _ _).mono ?_;rintro e w' ⟨rfl,rfl⟩))
    go_ret;exact⟨zb4 HC.symm,B1.out⟩
  ·clear h1 h
   go_enter Tryz.func55,Tryz.ntmps55
   go_wp2_with fail
   refine(zj3 n a cap zs _ (HA.below HB0.out)).mono ?_;rintro e w1 ⟨rfl,hb⟩;rw[HM.out];obtain⟨b1,r1⟩:=yi8 hb;obtain⟨c0,c1,c2,c3,c4⟩:=za8 r1;have B1:Hid _:=b1;have R1:Hid _:=r1;clear hb b1 r1
   go_wp2_with(first|(go_at_call 47;refine(zc8 _ _ _ _).mono ?_;rintro e w' ⟨rfl,rfl⟩))
   go_ret;exact⟨zb4 HC.symm,B1.out⟩
theorem zr1(n:Int)(zs os vs:List Int)(ko kv:Nat)(fine:Int):zb8 n zs os vs ko kv fine=(zm2 n zs&&zo3 n os ko&&zu0 n vs kv&&inB fine 0 1000000):=rfl
set_option maxHeartbeats 2000000 in
theorem zF2(n fine:Int)(a ao av:Option Addr)(cap ko co kv cv:Nat)(zs os vs:List Int)(w:World)(hA:za0 w a zs)(hO:za0 w ao os)(hV:za0 w av vs)(hlo:os.length=ko*6)(hlv:vs.length=kv*5)(hm:zm2 n zs=true)(hko:ko<=12)(hkv:kv<=5)(hf:inB fine 0 1000000=true):
 Calls Tryz.prog 55 #[.agg #[.int .i64 n,.slice a zs.length cap,.slice ao ko co,.slice av kv cv,.int .i64 fine]] w fun e w'=>e=.returned (.bool (zb8 n zs os vs ko kv fine))/\Below w.heap.size w w':=by
 have HB0:Hid (Below w.heap.size w (w.alloc (Obj.cells #[Value.int .i64 n,Value.slice a zs.length cap,Value.slice ao ko co,Value.slice av kv cv,Value.int .i64 fine] 30))):=(Below.refl _ _).alloc (Nat.le_refl _) _;have HA:Hid (za0 w a zs):=hA;have HX6:Hid (za0 w ao os):=hO;have HX5:Hid (za0 w av vs):=hV;have HLX6:Hid _:=hlo;have HLX5:Hid _:=hlv;have HM:Hid _:=hm;obtain⟨hn1,hn2,_,_⟩:=zi7 hm;have hdk:decide ((12:Int)<(ko:Int))=false:=by simp;omega
 have hdv:decide ((5:Int)<(kv:Int))=false:=by simp;omega
 clear hA hO hV hlo hlv hm;go_enter Tryz.func55,Tryz.ntmps55
 go_wp2_with fail
 refine(zj3 n a cap zs _ (HA.below HB0.out)).mono ?_;rintro e w1 ⟨rfl,hb⟩;rw[HM.out];obtain⟨b1,r1⟩:=yi8 hb;obtain⟨c0,c1,c2,c3,c4⟩:=za8 r1;have B1:Hid _:=b1;have R1:Hid _:=r1;clear hb b1 r1
 go_wp2_with(first|(go_at_call 47;refine(zc8 _ _ _ _).mono ?_;rintro e w' ⟨rfl,rfl⟩))
 clear c0 c1 c2 c3 c4;go_loopw[3] (fun t wr=>∃k:Nat,k<=ko/\t=.int .i64 k/\zq4 n os k/\Below w.heap.size w wr/\wr.heap[w.heap.size]? =some (.cells #[Value.int .i64 n,Value.slice a zs.length cap,Value.slice ao ko co,Value.slice av kv cv,Value.int .i64 fine] 30 (0,0))) (fun t _=>ko - (intOf t).toNat)
 case atStart=>exact⟨0,Nat.zero_le _,rfl,z55 _ _,B1.out,R1.out⟩
 case round=>
  clear B1 R1;obtain⟨k,hk,rfl,ht,hb,g3⟩:=hrel;have HT:Hid _:=ht;have G3:Hid _:=g3;have HB:Hid _:=hb;obtain⟨c0,c1,c2,c3,c4⟩:=za8 g3;clear ht;by_cases hlt:k<ko
  ·obtain⟨b,off,rfl,hcs⟩:=za0.some (za0.below HX6.out hb) (j:=k*6) (by rw[HLX6.out];omega)
   obtain⟨r0,r1,r2,r3,r4,r5⟩:=zq3 hcs HLX6.out k hlt;have HCS:Hid _:=hcs;clear hcs g3 hb;obtain⟨o0,H0⟩:=nmd (og6 os k 0);obtain⟨o1,H1⟩:=nmd (og6 os k 1);obtain⟨o2,H2⟩:=nmd (og6 os k 2);obtain⟨o3,H3⟩:=nmd (og6 os k 3);obtain⟨o4,H4⟩:=nmd (og6 os k 4);obtain⟨o5,H5⟩:=nmd (og6 os k 5);rw[H0.out]at r0;rw[H1.out]at r1;rw[H2.out]at r2;rw[H3.out]at r3;rw[H4.out]at r4;rw[H5.out]at r5;have s0:=fun s:Kin wr=>s.cell c0;have s1:=fun s:Kin wr=>s.cell c2;have t0:=fun s:Kin wr=>s.cell r0;have t1:=fun s:Kin wr=>s.cell r1;have t2:=fun s:Kin wr=>s.cell r2;have t3:=fun s:Kin wr=>s.cell r3;have t4:=fun s:Kin wr=>s.cell r4;have t5:=fun s:Kin wr=>s.cell r5;cases h1:z64 n o0 o1 o2 o3 o4 o5
   ·have HN:Hid _:=zx5 hlt (by rw[H0.out,H1.out,H2.out,H3.out,H4.out,H5.out,h1];simp)
    go_wp2_with fail
    have hkin:=Kin.there wr;refine zb2 (by kernel_rfl) (by kernel_rfl) ?_
    repeat(go_big_quiet_step ((go_at_call 99;exact Kin.call (zq1 n _ _ _ _ _ _ _ hn1 hn2))))
    refine wpQuiet_nil ?_;rintro _ ⟨s,rfl⟩;have HS2:=HB.trans (s.below.mono HB.size);have R2:=za1 s.below (za3 G3.out) G3.out;generalize s.w=w2 at*;go_wp2;go_ret;exact⟨zb4 (by simp[zr1,HN.out]),HS2⟩
   ·by_cases hk0:k=0
    ·have HS:Hid (zq4 n os (k+1)):=zv5 HT.out (by rw[H0.out,H1.out,H2.out,H3.out,H4.out,H5.out];exact h1) (fun h=>by omega)
     have hkz:(decide (0<k))=false:=by simp;omega
     have hk1:k<=0:=by omega
     clear hk0
     go_wp2_with fail
     have hkin:=Kin.there wr;refine zb2 (by kernel_rfl) (by kernel_rfl) ?_
     repeat(go_big_quiet_step ((go_at_call 99;exact Kin.call (zq1 n _ _ _ _ _ _ _ hn1 hn2))))
     refine wpQuiet_nil ?_;rintro _ ⟨s,rfl⟩;have HS2:=HB.trans (s.below.mono HB.size);have R2:=za1 s.below (za3 G3.out) G3.out;generalize s.w=w2 at*;go_wp2;refine⟨⟨k+1,by omega,by go_num,HS.out,HS2,R2⟩,by simp[intOf];omega⟩
    ·have hk1:0<k:=by omega
     obtain⟨rp,_⟩:=zq3 HCS.out HLX6.out (k - 1) (by omega);obtain⟨p,HP⟩:=nmd (og6 os (k - 1) 0);rw[HP.out]at rp;have tp:=fun s:Kin wr=>s.cell rp;have hkm:k - 1<ko:=by omega
     have hw1:IntKind.i64.wrap ((k:Int) - 1)=((k - 1:Nat):Int):=by
      rw[IntKind.wrap_i64];omega
     clear hk0;by_cases hp:p<o0
     ·have HS:Hid (zq4 n os (k+1)):=zv5 HT.out (by rw[H0.out,H1.out,H2.out,H3.out,H4.out,H5.out];exact h1) (fun _=>by rw[HP.out,H0.out];exact hp)
      go_wp2_with fail
      have hkin:=Kin.there wr;refine zb2 (by kernel_rfl) (by kernel_rfl) ?_
      repeat(go_big_quiet_step ((go_at_call 99;exact Kin.call (zq1 n _ _ _ _ _ _ _ hn1 hn2))))
      refine wpQuiet_nil ?_;rintro _ ⟨s,rfl⟩;have HS2:=HB.trans (s.below.mono HB.size);have R2:=za1 s.below (za3 G3.out) G3.out;generalize s.w=w2 at*;go_wp2;refine⟨⟨k+1,by omega,by go_num,HS.out,HS2,R2⟩,by simp[intOf];omega⟩
     ·have HN:Hid (zo3 n os ko=false):=zx5 hlt (fun h=>hp (by have:=h.2 hk1;rw[HP.out,H0.out]at this;exact this))
      go_wp2_with fail
      have hkin:=Kin.there wr;refine zb2 (by kernel_rfl) (by kernel_rfl) ?_
      repeat(go_big_quiet_step ((go_at_call 99;exact Kin.call (zq1 n _ _ _ _ _ _ _ hn1 hn2))))
      refine wpQuiet_nil ?_;rintro _ ⟨s,rfl⟩;have HS2:=HB.trans (s.below.mono HB.size);have R2:=za1 s.below (za3 G3.out) G3.out;generalize s.w=w2 at*;go_wp2;go_ret;exact⟨zb4 (by simp[zr1,HN.out]),HS2⟩
  ·have hkx:k=ko:=by omega
   have HN:Hid _:=zJ4 (by omega) (hkx▸HT.out);clear hkx g3 hb
   go_wp2_with fail
   clear c0 c1 c2 c3 c4;have HO2:Hid _:=HN.out;go_loopw[4] (fun t wr=>∃k:Nat,k<=kv/\t=.int .i64 k/\zq5 n vs k/\Below w.heap.size w wr/\wr.heap[w.heap.size]? =some (.cells #[Value.int .i64 n,Value.slice a zs.length cap,Value.slice ao ko co,Value.slice av kv cv,Value.int .i64 fine] 30 (0,0))) (fun t _=>kv - (intOf t).toNat)
   case atStart=>exact⟨0,Nat.zero_le _,rfl,z50 _ _,HB.out,G3.out⟩
   case round=>
    clear HT G3 HB HN;obtain⟨k,hk,rfl,ht,hb,g3⟩:=hrel;have HT:Hid _:=ht;have G3:Hid _:=g3;have HB:Hid _:=hb;obtain⟨c0,c1,c2,c3,c4⟩:=za8 g3;clear ht;by_cases hlt:k<kv
    ·obtain⟨b,off,rfl,hcs⟩:=za0.some (za0.below HX5.out hb) (j:=k*5) (by rw[HLX5.out];omega)
     obtain⟨r0,r1,r2,r3,r4⟩:=z48 hcs HLX5.out k hlt;have HCS:Hid _:=hcs;clear hcs g3 hb;obtain⟨o0,H0⟩:=nmd (og5 vs k 0);obtain⟨o1,H1⟩:=nmd (og5 vs k 1);obtain⟨o2,H2⟩:=nmd (og5 vs k 2);obtain⟨o3,H3⟩:=nmd (og5 vs k 3);obtain⟨o4,H4⟩:=nmd (og5 vs k 4);rw[H0.out]at r0;rw[H1.out]at r1;rw[H2.out]at r2;rw[H3.out]at r3;rw[H4.out]at r4;have s0:=fun s:Kin wr=>s.cell c0;have s1:=fun s:Kin wr=>s.cell c3;have t0:=fun s:Kin wr=>s.cell r0;have t1:=fun s:Kin wr=>s.cell r1;have t2:=fun s:Kin wr=>s.cell r2;have t3:=fun s:Kin wr=>s.cell r3;have t4:=fun s:Kin wr=>s.cell r4;cases h1:zE2 n o0 o1 o2 o3 o4
     ·have HN:Hid _:=zx9 hlt (by rw[H0.out,H1.out,H2.out,H3.out,H4.out,h1];simp)
      go_wp2_with fail
      have hkin:=Kin.there wr;refine zb2 (by kernel_rfl) (by kernel_rfl) ?_
      repeat(go_big_quiet_step ((go_at_call 100;exact Kin.call (zl4 n _ _ _ _ _ _ hn1 hn2))))
      refine wpQuiet_nil ?_;rintro _ ⟨s,rfl⟩;have HS2:=HB.trans (s.below.mono HB.size);have R2:=za1 s.below (za3 G3.out) G3.out;generalize s.w=w2 at*;go_wp2;go_ret;exact⟨zb4 (by simp[zr1,HN.out]),HS2⟩
     ·by_cases hk0:k=0
      ·have HS:Hid (zq5 n vs (k+1)):=zv1 HT.out (by rw[H0.out,H1.out,H2.out,H3.out,H4.out];exact h1) (fun h=>by omega)
       have hkz:(decide (0<k))=false:=by simp;omega
       have hk1:k<=0:=by omega
       clear hk0
       go_wp2_with fail
       have hkin:=Kin.there wr;refine zb2 (by kernel_rfl) (by kernel_rfl) ?_
       repeat(go_big_quiet_step ((go_at_call 100;exact Kin.call (zl4 n _ _ _ _ _ _ hn1 hn2))))
       refine wpQuiet_nil ?_;rintro _ ⟨s,rfl⟩;have HS2:=HB.trans (s.below.mono HB.size);have R2:=za1 s.below (za3 G3.out) G3.out;generalize s.w=w2 at*;go_wp2;refine⟨⟨k+1,by omega,by go_num,HS.out,HS2,R2⟩,by simp[intOf];omega⟩
      ·have hk1:0<k:=by omega
       obtain⟨rp,_⟩:=z48 HCS.out HLX5.out (k - 1) (by omega);obtain⟨p,HP⟩:=nmd (og5 vs (k - 1) 0);rw[HP.out]at rp;have tp:=fun s:Kin wr=>s.cell rp;have hkm:k - 1<kv:=by omega
       have hw1:IntKind.i64.wrap ((k:Int) - 1)=((k - 1:Nat):Int):=by
        rw[IntKind.wrap_i64];omega
       clear hk0;by_cases hp:p<o0
       ·have HS:Hid (zq5 n vs (k+1)):=zv1 HT.out (by rw[H0.out,H1.out,H2.out,H3.out,H4.out];exact h1) (fun _=>by rw[HP.out,H0.out];exact hp)
        go_wp2_with fail
        have hkin:=Kin.there wr;refine zb2 (by kernel_rfl) (by kernel_rfl) ?_
        repeat(go_big_quiet_step ((go_at_call 100;exact Kin.call (zl4 n _ _ _ _ _ _ hn1 hn2))))
        refine wpQuiet_nil ?_;rintro _ ⟨s,rfl⟩;have HS2:=HB.trans (s.below.mono HB.size);have R2:=za1 s.below (za3 G3.out) G3.out;generalize s.w=w2 at*;go_wp2;refine⟨⟨k+1,by omega,by go_num,HS.out,HS2,R2⟩,by simp[intOf];omega⟩
       ·have HN:Hid (zu0 n vs kv=false):=zx9 hlt (fun h=>hp (by have:=h.2 hk1;rw[HP.out,H0.out]at this;exact this))
        go_wp2_with fail
        have hkin:=Kin.there wr;refine zb2 (by kernel_rfl) (by kernel_rfl) ?_
        repeat(go_big_quiet_step ((go_at_call 100;exact Kin.call (zl4 n _ _ _ _ _ _ hn1 hn2))))
        refine wpQuiet_nil ?_;rintro _ ⟨s,rfl⟩;have HS2:=HB.trans (s.below.mono HB.size);have R2:=za1 s.below (za3 G3.out) G3.out;generalize s.w=w2 at*;go_wp2;go_ret;exact⟨zb4 (by simp[zr1,HN.out]),HS2⟩
    ·have hkx:k=kv:=by omega
     have HN:Hid _:=zI7 (by omega) (hkx▸HT.out);clear hkx g3 hb;go_wp2;go_ret;exact⟨zb4 (by rw[zr1,HM.out,HO2.out,HN.out,hf];rfl),HB.out⟩
theorem zr3(n fine:Int)(a ao av:Option Addr)(cap ko co kv cv:Nat)(zs os vs:List Int)(w:World)(hA:za0 w a zs)(hO:za0 w ao os)(hV:za0 w av vs)(hlo:os.length=ko*6)(hlv:vs.length=kv*5)(hko:ko<=9223372036854775807)(hkv:kv<=9223372036854775807):
 Calls Tryz.prog 55 #[.agg #[.int .i64 n,.slice a zs.length cap,.slice ao ko co,.slice av kv cv,.int .i64 fine]] w fun e w'=>e=.returned (.bool (zb8 n zs os vs ko kv fine))/\Below w.heap.size w w':=by
 by_cases h:zm2 n zs=true/\ko<=12/\kv<=5/\inB fine 0 1000000=true
 ·exact zF2 n fine a ao av cap ko co kv cv zs os vs w hA hO hV hlo hlv h.1 h.2.1 h.2.2.1 h.2.2.2
 ·exact zO5 n fine a ao av cap ko co kv cv zs os vs w hA hko hkv h
theorem zK1{zs:List Int}{id:Int}{k:Nat}(h:∀j,j<k->zs.getD j 0≠id)(hk:zs.getD k 0≠id):∀j,j<k+1->zs.getD j 0≠id:=by
 intro j hj;by_cases e:j=k
 ·rw[e];exact hk
 ·exact h j (by omega)
set_option maxHeartbeats 400000 in
theorem zL3(a:Option Addr)(m cap:Nat)(id:Int)(zs:List Int)(w:World)(hA:za0 w a zs)(hm:m<=zs.length)(hlen:m<=9223372036854775807):
 Calls Tryz.prog 57 #[.slice a m cap,.int .i64 id] w fun e w'=>e=.returned (.bool (zr8 zs m id))/\w'=w:=by
 have HA:Hid _:=hA;clear hA;obtain⟨r,HR⟩:=nmd (zr8 zs m id);rw[HR.out];go_enter Tryz.func57,Tryz.ntmps57
 go_wp2_with fail
 go_loop [5] (fun t=>∃k:Nat,k<=m/\t=.int .i64 k/\∀j,j<k->zs.getD j 0≠id) (fun t=>m - (intOf t).toNat)
 case atStart=>exact⟨0,Nat.zero_le _,rfl,fun j hj=>by omega⟩
 case round=>
  obtain⟨k,hk,rfl,hno⟩:=hrel;have HN:Hid _:=hno;clear hno;by_cases hlt:k<m
  ·obtain⟨b,off,rfl,hcs⟩:=za0.some HA.out (j:=k) (by omega)
   have ct:=hcs k (by omega);clear hcs;obtain⟨t,HT⟩:=nmd (zs.getD k 0);rw[HT.out]at ct;by_cases he:t=id
   ·have heb:(t==id)=true:=by simp[he]
    have HV:Hid _:=HR.symm.trans (z73 hlt (HT.trans he));clear he;go_wp2;go_ret;exact⟨zb4 HV.symm,rfl⟩
   ·have heb:(t==id)=false:=by simp[he]
    have HS:Hid _:=zK1 HN.out (by rw[HT.out];exact he);clear he;go_wp2;exact⟨⟨k+1,by omega,by go_num,HS.out⟩,by simp[intOf];omega⟩
  ·have hkl:k=m:=by omega
   have HV:Hid _:=HR.symm.trans (zB6 (hkl▸HN.out));clear hkl;go_wp2;go_ret;exact⟨zb4 HV.symm,rfl⟩
theorem zx3(a:Option Addr)(m cap:Nat)(id:Int)(zs:List Int)(w:World)(v:Bool)(hv:zr8 zs m id=v)(hA:za0 w a zs)(hm:m<=zs.length)(hlen:m<=9223372036854775807):
 Calls Tryz.prog 57 #[.slice a m cap,.int .i64 id] w fun e w'=>e=.returned (.bool v)/\w'=w:=hv▸zL3 a m cap id zs w hA hm hlen
def yl4(zs:List Int)(m:Nat)(id:Int):Int:=match (List.range m).find? (fun i=>zs.getD i 0==id)with
 |some i=>i
 |none=> -1
theorem yo5{zs:List Int}{m:Nat}{id:Int}{i:Nat}(hi:i<m)(h:zs.getD i 0=id)(hno:∀j,j<i->zs.getD j 0≠id):yl4 zs m id=i:=by
 have:(List.range m).find? (fun i=>zs.getD i 0==id)=some i:=by
  rw[List.find?_range_eq_some];exact⟨by rw[h];simp,by simpa using hi,fun j hj=>by have:=hno j hj;simpa using this⟩
 unfold yl4;rw[this]
theorem yf8{zs:List Int}{m:Nat}{id:Int}(hno:∀j,j<m->zs.getD j 0≠id):yl4 zs m id= -1:=by
 have:(List.range m).find? (fun i=>zs.getD i 0==id)=none:=by
  rw[List.find?_eq_none];intro j hj;have:=hno j (by simpa using hj);simpa using this
 unfold yl4;rw[this]
theorem yl6(zs:List Int)(m:Nat)(id:Int):decide (0<=yl4 zs m id)=zr8 zs m id:=by
 unfold yl4;cases hf:(List.range m).find? (fun i=>zs.getD i 0==id)with
 |none=>
  rw[List.find?_eq_none]at hf;rw[zB6 (fun j hj=>by have:=hf j (by simpa using hj);simpa using this)];rfl
 |some i=>
  rw[List.find?_range_eq_some]at hf;rw[z73 (by simpa using hf.2.1) (by simpa using hf.1)];simp
set_option maxHeartbeats 1000000 in
theorem zW2(n fine veh:Int)(a ao av bi:Option Addr)(cap ko co kv cv c2:Nat)(zs os vs ids:List Int)(w:World)(hA:za0 w a zs)(hO:za0 w ao os)(hV:za0 w av vs)(hI:za0 w bi ids)(hlo:os.length=ko*6)(hlv:vs.length=kv*5)(hko:ko<=9223372036854775807)(hkv:kv<=9223372036854775807)(hli:ids.length<=9223372036854775807)(hc2:ids.length<=c2):
 Calls Tryz.prog 129 #[.agg #[.int .i64 n,.slice a zs.length cap,.slice ao ko co,.slice av kv cv,.int .i64 fine],.agg #[.int .i64 veh,.slice bi ids.length c2]] w fun e w'=>e=.returned (.int .i64 (zi9 (zb8 n zs os vs ko kv fine) vs os kv ko veh ids))/\Below w.heap.size w w':=by
 have HA:Hid (za0 w a zs):=hA;have HO:Hid (za0 w ao os):=hO;have HV:Hid (za0 w av vs):=hV;have HI:Hid (za0 w bi ids):=hI;have HLO:Hid _:=hlo;have HLV:Hid _:=hlv;clear hA hO hV hI hlo hlv;have HC0:Hid (CR w ((w.alloc (.cells #[Value.int .i64 n,Value.slice a zs.length cap,Value.slice ao ko co,Value.slice av kv cv,Value.int .i64 fine] 30)).alloc (.cells #[Value.int .i64 veh,Value.slice bi ids.length c2] 43)) _ _):=CR.new w _ _;obtain⟨r,HR⟩:=nmd (zi9 (zb8 n zs os vs ko kv fine) vs os kv ko veh ids);rw[HR.out];go_enter Tryz.func129,Tryz.ntmps129
 go_wp2_with fail
 refine(zr3 n fine a ao av cap ko co kv cv zs os vs _ (HA.below HC0.1) (HO.below HC0.1) (HV.below HC0.1) HLO.out HLV.out hko hkv).mono ?_;rintro e w1 ⟨rfl,hb⟩;have C1:Hid (CR w w1 _ _):=HC0.below hb;clear hb HC0;cases hc:zb8 n zs os vs ko kv fine
 ·have HV1:Hid _:=HR.symm.trans (zY9 hc)
  go_wp2;go_ret;exact⟨zm7 HV1.symm,C1.1⟩
 ·have HC:Hid _:=hc
  clear hc;obtain⟨c0,c1,c2',c3,c4⟩:=za8 C1.2.1;obtain⟨d0,d1⟩:=za2 C1.2.2
  go_wp2_with fail
  refine(z35 n fine veh a ao av _ cap ko co kv cv vs _ (HV.below C1.1) HLV.out hkv).mono ?_;rintro e w2 ⟨rfl,hb⟩;obtain⟨v0,G0⟩:=nmd (zb5 vs kv veh 0);obtain⟨v1,G1⟩:=nmd (zb5 vs kv veh 1);obtain⟨v2,G2⟩:=nmd (zb5 vs kv veh 2);obtain⟨v3,G3⟩:=nmd (zb5 vs kv veh 3);obtain⟨v4,G4⟩:=nmd (zb5 vs kv veh 4);rw[G0.out,G1.out,G2.out,G3.out,G4.out];have C2:Hid (CR w w2 _ _):=C1.below hb;clear hb C1 c0 c1 c2' c3 c4 d0 d1;cases ht:fnd5T vs kv veh
  ·have HV1:Hid _:=HR.symm.trans (zY7 HC.out ht)
   go_wp2;go_ret;exact⟨zm7 HV1.symm,(CR.alloc C2.out _).1⟩
  ·have HT5:Hid _:=ht
   clear ht;have C3:Hid (CR w (w2.alloc (Obj.cells #[Value.int .i64 v0,Value.int .i64 v1,Value.int .i64 v2,Value.int .i64 v3,Value.int .i64 v4] 41)) _ _):=CR.alloc C2.out _;have RV3:Hid ((w2.alloc (Obj.cells #[Value.int .i64 v0,Value.int .i64 v1,Value.int .i64 v2,Value.int .i64 v3,Value.int .i64 v4] 41)).heap[w2.heap.size]? =_):=heap_alloc_new _ _;obtain⟨c0,c1,c2',c3,c4⟩:=za8 C3.2.1;obtain⟨d0,d1⟩:=za2 C3.2.2;clear C2;by_cases h12:ids.length<=12
   ·go_wp2_with fail
    clear c0 c1 c2' c3 c4 d0 d1;generalize w2.alloc (Obj.cells #[Value.int .i64 v0,Value.int .i64 v1,Value.int .i64 v2,Value.int .i64 v3,Value.int .i64 v4] 41)=W2 at*;generalize w2.heap.size=gv at*;have HOB:Hid _:=zA7 HC.out;go_loopw[7,8] (fun sm t wr=>∃k:Nat,k<=ids.length/\t=.int .i64 k/\sm=.int .i64 (zk7 os ko ids k)/\zm9 os ko ids k/\CR w wr #[Value.int .i64 n,Value.slice a zs.length cap,Value.slice ao ko co,Value.slice av kv cv,Value.int .i64 fine] #[Value.int .i64 veh,Value.slice bi ids.length c2]/\wr.heap[gv]? =some (.cells #[Value.int .i64 v0,Value.int .i64 v1,Value.int .i64 v2,Value.int .i64 v3,Value.int .i64 v4] 41 (0,0))) (fun _ t _=>ids.length - (intOf t).toNat)
    case atStart=>exact⟨0,Nat.zero_le _,rfl,rfl,z03 _ _ _,C3.out,RV3.out⟩
    case round=>
     clear C3 RV3;obtain⟨k,hk,rfl,rfl,hth,hb,hrv⟩:=hrel;have hbd:=z79 HOB.out ids k;have HT:Hid (zm9 os ko ids k):=hth;have HB:Hid (CR w wr _ _):=hb;have HRV:Hid (wr.heap[gv]? =_):=hrv;obtain⟨c0,c1,c2',c3,c4⟩:=za8 hb.2.1;obtain⟨d0,d1⟩:=za2 hb.2.2;obtain⟨s0,HS0⟩:=nmd (zk7 os ko ids k);rw[HS0.out]at hbd⊢;clear hth hb hrv;by_cases hlt:k<ids.length
     ·obtain⟨b,off,rfl,hcs⟩:=za0.some (za0.below HI.out HB.1) hlt
      have ct:=hcs k hlt;clear hcs;obtain⟨id,HID⟩:=nmd (ids.getD k 0);rw[HID.out]at ct;have hl2:=zz2 HOB.out id;obtain⟨o0,H0⟩:=nmd (zc3 os ko id 0);obtain⟨o1,H1⟩:=nmd (zc3 os ko id 1);obtain⟨o2,H2⟩:=nmd (zc3 os ko id 2);obtain⟨o3,H3⟩:=nmd (zc3 os ko id 3);obtain⟨o4,H4⟩:=nmd (zc3 os ko id 4);obtain⟨o5,H5⟩:=nmd (zc3 os ko id 5);rw[H2.out]at hl2;have HL1:Hid (zk7 os ko ids (k+1)=s0+o2):=by
       show _=_;unfold zk7;rw[HS0.out,HID.out,H2.out]
      obtain⟨tt,HTT⟩:=nmd (zi8 os ko id)
      go_wp2_with fail
      have HCT:Hid (wr.cell? ⟨b,off+k,none⟩=_):=ct;have HCA:Hid ((wr.alloc (Obj.cells #[Value.int .i64 0,Value.int .i64 0,Value.int .i64 0,Value.int .i64 0,Value.int .i64 0,Value.int .i64 0] 95)).cell? ⟨b,off+k,none⟩=_):=(((Below.refl wr.heap.size wr).alloc (Nat.le_refl _) _).cell (p:=⟨b,off+k,none⟩) (block_lt_of_cell ct)).trans ct;have HVA:Hid ((wr.alloc (Obj.cells #[Value.int .i64 0,Value.int .i64 0,Value.int .i64 0,Value.int .i64 0,Value.int .i64 0,Value.int .i64 0] 95)).heap[gv]? =_):=(heap_alloc_old _ _ (za3 HRV.out)).trans HRV.out;have hlb:=block_lt_of_cell ct;simp at hlb;have hlw:=za3 HB.2.1;have hlr:=za3 HB.2.2
      go_region_held3 (fun W=>W.cell? ⟨w.heap.size,0,none⟩=some (.int .i64 n)/\W.cell? ⟨w.heap.size,1,none⟩=some (.slice a zs.length cap)/\W.cell? ⟨w.heap.size,2,none⟩=some (.slice ao ko co)/\W.cell? ⟨w.heap.size,3,none⟩=some (.slice av kv cv)/\W.cell? ⟨w.heap.size,4,none⟩=some (.int .i64 fine)/\W.cell? ⟨w.heap.size+1,1,none⟩=some (.slice (some ⟨b,off,none⟩) ids.length c2)/\W.cell? ⟨b,off+k,none⟩=some (.int .i64 id)) (first|with_reducible exact kS|with_reducible exact⟨(za4 (za4 (za4 (za4 (za4 (za4 kS.1 (Nat.ne_of_lt hlw)) (Nat.ne_of_lt hlw)) (Nat.ne_of_lt hlw)) (Nat.ne_of_lt hlw)) (Nat.ne_of_lt hlw)) (Nat.ne_of_lt hlw)),(za4 (za4 (za4 (za4 (za4 (za4 kS.2.1 (Nat.ne_of_lt hlw)) (Nat.ne_of_lt hlw)) (Nat.ne_of_lt hlw)) (Nat.ne_of_lt hlw)) (Nat.ne_of_lt hlw)) (Nat.ne_of_lt hlw)),(za4 (za4 (za4 (za4 (za4 (za4 kS.2.2.1 (Nat.ne_of_lt hlw)) (Nat.ne_of_lt hlw)) (Nat.ne_of_lt hlw)) (Nat.ne_of_lt hlw)) (Nat.ne_of_lt hlw)) (Nat.ne_of_lt hlw)),(za4 (za4 (za4 (za4 (za4 (za4 kS.2.2.2.1 (Nat.ne_of_lt hlw)) (Nat.ne_of_lt hlw)) (Nat.ne_of_lt hlw)) (Nat.ne_of_lt hlw)) (Nat.ne_of_lt hlw)) (Nat.ne_of_lt hlw)),(za4 (za4 (za4 (za4 (za4 (za4 kS.2.2.2.2.1 (Nat.ne_of_lt hlw)) (Nat.ne_of_lt hlw)) (Nat.ne_of_lt hlw)) (Nat.ne_of_lt hlw)) (Nat.ne_of_lt hlw)) (Nat.ne_of_lt hlw)),(za4 (za4 (za4 (za4 (za4 (za4 kS.2.2.2.2.2.1 (Nat.ne_of_lt hlr)) (Nat.ne_of_lt hlr)) (Nat.ne_of_lt hlr)) (Nat.ne_of_lt hlr)) (Nat.ne_of_lt hlr)) (Nat.ne_of_lt hlr)),(za4 (za4 (za4 (za4 (za4 (za4 kS.2.2.2.2.2.2 (Nat.ne_of_lt hlb)) (Nat.ne_of_lt hlb)) (Nat.ne_of_lt hlb)) (Nat.ne_of_lt hlb)) (Nat.ne_of_lt hlb)) (Nat.ne_of_lt hlb))⟩|go_keep) ((first
       |(go_at_call 58
         with_reducible refine(zn6 n fine id a ao av _ cap ko co kv cv os wr.drew ?_ HLO.out hko).mono ?_
         ·exact HO.below HB.1.drew
         rintro e w2 ⟨rfl,hb2⟩;rw[H0.out,H1.out,H2.out,H3.out,H4.out,H5.out,HTT.out];have hcr2:=CR.below (CR.drew HB.out) hb2;obtain⟨k0,k1,k2,k3,k4⟩:=za8 hcr2.2.1;have k5:=(za2 hcr2.2.2).2;have k6:=(hb2.cell (p:=⟨b,off+k,none⟩) (block_lt_of_cell HCT.out)).trans HCT.out;have kS:=And.intro k0 (And.intro k1 (And.intro k2 (And.intro k3 (And.intro k4 (And.intro k5 k6)))));have CR2:Hid (CR w w2 _ _):=hcr2;have RV2:Hid (w2.heap[gv]? =_):=za1 hb2 (za3 HRV.out) HRV.out;clear hb2 hcr2 k0 k1 k2 k3 k4 k5 k6)
       |(go_at_call 58
         with_reducible refine(zn6 n fine id a ao av _ cap ko co kv cv os (wr.alloc (Obj.cells #[Value.int .i64 0,Value.int .i64 0,Value.int .i64 0,Value.int .i64 0,Value.int .i64 0,Value.int .i64 0] 95)).drew ?_ HLO.out hko).mono ?_
         ·exact HO.below (CR.alloc HB.out (Obj.cells #[Value.int .i64 0,Value.int .i64 0,Value.int .i64 0,Value.int .i64 0,Value.int .i64 0,Value.int .i64 0] 95)).1.drew
         rintro e w2 ⟨rfl,hb2⟩;rw[H0.out,H1.out,H2.out,H3.out,H4.out,H5.out,HTT.out];have hcr2:=CR.below (CR.drew (CR.alloc HB.out (Obj.cells #[Value.int .i64 0,Value.int .i64 0,Value.int .i64 0,Value.int .i64 0,Value.int .i64 0,Value.int .i64 0] 95))) hb2;obtain⟨k0,k1,k2,k3,k4⟩:=za8 hcr2.2.1;have k5:=(za2 hcr2.2.2).2;have k6:=(hb2.cell (p:=⟨b,off+k,none⟩) (block_lt_of_cell HCA.out)).trans HCA.out;have kS:=And.intro k0 (And.intro k1 (And.intro k2 (And.intro k3 (And.intro k4 (And.intro k5 k6)))));have CR2:Hid (CR w w2 _ _):=hcr2;have RV2:Hid (w2.heap[gv]? =_):=za1 hb2 (za3 HVA.out) HVA.out;obtain⟨z0,z1,z2,z3,z4,z5⟩:=zf8 (za1 hb2 (k:=wr.heap.size) (by simp) (heap_alloc_new wr (Obj.cells #[Value.int .i64 0,Value.int .i64 0,Value.int .i64 0,Value.int .i64 0,Value.int .i64 0,Value.int .i64 0] 95)));have zf:=fun i=>frozen_of_row _ _ i _ _ (za1 hb2 (k:=wr.heap.size) (by simp) (heap_alloc_new wr (Obj.cells #[Value.int .i64 0,Value.int .i64 0,Value.int .i64 0,Value.int .i64 0,Value.int .i64 0,Value.int .i64 0] 95)))
         have RO2:Hid (w2.heap[wr.heap.size]? =_):=za1 hb2 (k:=wr.heap.size) (by simp) (heap_alloc_new wr (Obj.cells #[Value.int .i64 0,Value.int .i64 0,Value.int .i64 0,Value.int .i64 0,Value.int .i64 0,Value.int .i64 0] 95));clear hb2 hcr2 k0 k1 k2 k3 k4 k5 k6)))
      all_goals(first
       |(have CRW:Hid (CR w (World.setCell (World.setCell (World.setCell (World.setCell (World.setCell (World.setCell w2 ⟨wr.heap.size,0,none⟩ (Value.int .i64 o0)) ⟨wr.heap.size,1,none⟩ (Value.int .i64 o1)) ⟨wr.heap.size,2,none⟩ (Value.int .i64 o2)) ⟨wr.heap.size,3,none⟩ (Value.int .i64 o3)) ⟨wr.heap.size,4,none⟩ (Value.int .i64 o4)) ⟨wr.heap.size,5,none⟩ (Value.int .i64 o5)) _ _):=CR.set (CR.set (CR.set (CR.set (CR.set (CR.set CR2.out HB.big) HB.big) HB.big) HB.big) HB.big) HB.big
         have RVW:Hid ((World.setCell (World.setCell (World.setCell (World.setCell (World.setCell (World.setCell w2 ⟨wr.heap.size,0,none⟩ (Value.int .i64 o0)) ⟨wr.heap.size,1,none⟩ (Value.int .i64 o1)) ⟨wr.heap.size,2,none⟩ (Value.int .i64 o2)) ⟨wr.heap.size,3,none⟩ (Value.int .i64 o3)) ⟨wr.heap.size,4,none⟩ (Value.int .i64 o4)) ⟨wr.heap.size,5,none⟩ (Value.int .i64 o5)).heap[gv]? =_):=za7 (za7 (za7 (za7 (za7 (za7 RV2.out (Nat.ne_of_lt (za3 HRV.out))) (Nat.ne_of_lt (za3 HRV.out))) (Nat.ne_of_lt (za3 HRV.out))) (Nat.ne_of_lt (za3 HRV.out))) (Nat.ne_of_lt (za3 HRV.out))) (Nat.ne_of_lt (za3 HRV.out));have ROW:Hid ((World.setCell (World.setCell (World.setCell (World.setCell (World.setCell (World.setCell w2 ⟨wr.heap.size,0,none⟩ (Value.int .i64 o0)) ⟨wr.heap.size,1,none⟩ (Value.int .i64 o1)) ⟨wr.heap.size,2,none⟩ (Value.int .i64 o2)) ⟨wr.heap.size,3,none⟩ (Value.int .i64 o3)) ⟨wr.heap.size,4,none⟩ (Value.int .i64 o4)) ⟨wr.heap.size,5,none⟩ (Value.int .i64 o5)).heap[wr.heap.size]? =_):=zE4 RO2.out;clear kS CR2 RV2 RO2 HCT HCA HVA ct z0 z1 z2 z3 z4 z5 zf;generalize(World.setCell (World.setCell (World.setCell (World.setCell (World.setCell (World.setCell w2 ⟨wr.heap.size,0,none⟩ (Value.int .i64 o0)) ⟨wr.heap.size,1,none⟩ (Value.int .i64 o1)) ⟨wr.heap.size,2,none⟩ (Value.int .i64 o2)) ⟨wr.heap.size,3,none⟩ (Value.int .i64 o3)) ⟨wr.heap.size,4,none⟩ (Value.int .i64 o4)) ⟨wr.heap.size,5,none⟩ (Value.int .i64 o5))=W at*;generalize wr.heap.size=g at*)
       |(have CRW:Hid (CR w (w2.alloc (Obj.cells #[Value.int .i64 o0,Value.int .i64 o1,Value.int .i64 o2,Value.int .i64 o3,Value.int .i64 o4,Value.int .i64 o5] 95)) _ _):=CR.alloc CR2.out _
         have RVW:Hid ((w2.alloc (Obj.cells #[Value.int .i64 o0,Value.int .i64 o1,Value.int .i64 o2,Value.int .i64 o3,Value.int .i64 o4,Value.int .i64 o5] 95)).heap[gv]? =_):=(heap_alloc_old _ _ (za3 RV2.out)).trans RV2.out;have ROW:Hid ((w2.alloc (Obj.cells #[Value.int .i64 o0,Value.int .i64 o1,Value.int .i64 o2,Value.int .i64 o3,Value.int .i64 o4,Value.int .i64 o5] 95)).heap[w2.heap.size]? =_):=heap_alloc_new _ _;clear kS CR2 RV2 HCT HCA HVA ct;generalize w2.alloc (Obj.cells #[Value.int .i64 o0,Value.int .i64 o1,Value.int .i64 o2,Value.int .i64 o3,Value.int .i64 o4,Value.int .i64 o5] 95)=W at*;generalize w2.heap.size=g at*))
      all_goals
       clear c0 c1 c2' c3 c4 d0 d1 hlw hlr hlb;have hkc:k<=c2:=by omega
       have q1:=(za2 CRW.2.2).2;have ctW:=zn0 (HI.below CRW.1) hlt HID.out;have t0:=fun s:Kin W=>s.cell q1;have t1:=fun s:Kin W=>s.cell ctW;cases tt
       ·have HV1:Hid _:=HR.symm.trans (zF3 HC.out HT5.out (zs4 hlt (zs8 HID.out HTT.out rfl)))
        go_wp2_with fail
        have hkin:=Kin.there W;refine zb2 (by kernel_rfl) (by kernel_rfl) ?_
        repeat(go_big_quiet_step ((fail)))
        refine wpQuiet_nil ?_;rintro _ ⟨s,rfl⟩;have HS2:Hid (CR w s.w _ _):=CRW.below s.below;generalize s.w=w3 at*;go_wp2;go_ret;exact⟨zm7 HV1.symm,HS2.1⟩
       ·obtain⟨hh,HH⟩:=nmd (zr8 ids k id)
        cases hh
        ·have HS1:Hid (zm9 os ko ids (k+1)):=z07 HT.out (zs8 HID.out HTT.out HH.out)
         go_wp2_with fail
         have hkin:=Kin.there W;refine zb2 (by kernel_rfl) (by kernel_rfl) ?_
         repeat(go_big_quiet_step ((go_at_call 57;exact Kin.call_same (zx3 _ k _ id ids _ false HH.out ((HI.below CRW.1).below (Kin.below _)) hk (by omega)))))
         refine wpQuiet_nil ?_;rintro _ ⟨s,rfl⟩;have HS2:Hid (CR w s.w _ _):=CRW.below s.below;have HRV2:Hid (s.w.heap[gv]? =_):=za1 s.below (za3 RVW.out) RVW.out;obtain⟨p0,p1,p2,p3,p4,p5⟩:=zf8 (za1 s.below (za3 ROW.out) ROW.out);clear q1 ctW t0 t1 CRW RVW ROW;generalize s.w=w3 at*;go_wp2;exact⟨⟨k+1,by omega,by go_num,by rw[HL1.out],HS1.out,HS2.out,HRV2.out⟩,by simp[intOf];omega⟩
        ·have HV1:Hid _:=HR.symm.trans (zF3 HC.out HT5.out (zs4 hlt (zs8 HID.out HTT.out HH.out)))
         go_wp2_with fail
         have hkin:=Kin.there W;refine zb2 (by kernel_rfl) (by kernel_rfl) ?_
         repeat(go_big_quiet_step ((go_at_call 57;exact Kin.call_same (zx3 _ k _ id ids _ true HH.out ((HI.below CRW.1).below (Kin.below _)) hk (by omega)))))
         refine wpQuiet_nil ?_;rintro _ ⟨s,rfl⟩;have HS2:Hid (CR w s.w _ _):=CRW.below s.below;generalize s.w=w3 at*;go_wp2;go_ret;exact⟨zm7 HV1.symm,HS2.1⟩
     ·have hkl:k=ids.length:=by omega
      have HSB:Hid _:=zA0 h12 (hkl▸HT.out);have HS0':Hid _:=hkl▸HS0.out;obtain⟨q0,q1,q2,q3,q4⟩:=za8 HRV.out;clear hkl;by_cases hroom:v2<s0
      ·have HV1:Hid _:=HR.symm.trans (zX8 HC.out HT5.out HSB.out (by rw[HS0'.out,G2.out];exact hroom))
       go_wp2;go_ret;exact⟨zm7 HV1.symm,HB.1⟩
      ·have HV1:Hid _:=HR.symm.trans (yg0 HC.out HT5.out HSB.out (by rw[HS0'.out,G2.out];exact hroom))
       go_wp2;go_ret;exact⟨zm7 HV1.symm,HB.1⟩
   ·have HV1:Hid _:=HR.symm.trans (zF3 HC.out HT5.out (z65 h12))
    go_wp2;go_ret;exact⟨zm7 HV1.symm,C3.1⟩
set_option maxHeartbeats 400000 in
theorem zz8(n x y:Nat)(a:Option Addr)(len cap:Nat)(zs:List Int)(w:World)(hn:n<=16)(hx:x<n)(hy:y<n)(hl:zs.length=n*n)(hlen:len=n*n)(hA:za0 w a zs):
 Calls Tryz.prog 120 #[.agg #[.int .i64 n,.slice a len cap],.int .i64 x,.int .i64 y] w fun e w'=>e=.returned (.int .i64 (zs.getD (x*n+y) 0))/\Below w.heap.size w w':=by
 subst hlen;have hnn:=zu2 n n hn hn;have hxy:x*n+y<n*n:=by
  have:=Nat.mul_le_mul_right n (show x+1<=n by omega);rw[Nat.add_mul]at this;omega
 obtain⟨bb,off,rfl,hcs⟩:=hA.some (j:=x*n+y) (by omega);have ct:=hcs (x*n+y) (by omega);have hlt:=block_lt_of_cell ct;clear hcs hA;generalize zs.getD (x*n+y) 0=t at ct;have hwm:wrap64 ((x:Int)*(n:Int))=(x:Int)*(n:Int):=IntWalk.wrap64_in _ (by rw[<-Int.natCast_mul];omega);simp at hlt;clear hl;go_enter Tryz.func120,Tryz.ntmps120;go_wp2;go_ret;exact⟨rfl,(Below.refl _ _).alloc (Nat.le_refl _) _⟩
theorem yh7(n x y:Int)(a:Option Addr)(cap:Nat)(zs:List Int)(w:World)(hm:zm2 n zs=true)(hx:0<=x/\x<n)(hy:0<=y/\y<n)(hA:za0 w a zs):
 Calls Tryz.prog 120 #[.agg #[.int .i64 n,.slice a zs.length cap],.int .i64 x,.int .i64 y] w fun e w'=>e=.returned (.int .i64 (tmI n zs x y))/\Below w.heap.size w w':=by
 obtain⟨h1,h2,h3,_⟩:=zi7 hm;obtain⟨N,rfl⟩:∃N:Nat,n=N:=⟨n.toNat,by omega⟩;obtain⟨X,rfl⟩:∃X:Nat,x=X:=⟨x.toNat,by omega⟩;obtain⟨Y,rfl⟩:∃Y:Nat,y=Y:=⟨y.toNat,by omega⟩;have hl:zs.length=N*N:=by rw[<-Int.natCast_mul]at h3;omega
 exact zz8 N X Y a zs.length cap zs w (by omega) (by omega) (by omega) hl hl hA
theorem zD3{zs:List Int}{id:Int}{k:Nat}(h:∀j,j<k->og6 zs j 0≠id)(hk:og6 zs k 0≠id):∀j,j<k+1->og6 zs j 0≠id:=by
 intro j hj;by_cases e:j=k
 ·rw[e];exact hk
 ·exact h j (by omega)
theorem zD6{zs:List Int}{id:Int}{k:Nat}(h:∀j,j<k->og5 zs j 0≠id)(hk:og5 zs k 0≠id):∀j,j<k+1->og5 zs j 0≠id:=by
 intro j hj;by_cases e:j=k
 ·rw[e];exact hk
 ·exact h j (by omega)
set_option maxHeartbeats 400000 in
theorem zc1(n lo hi:Int)(w:World):
 Calls Tryz.prog 44 #[.int .i64 n,.int .i64 lo,.int .i64 hi] w fun e w'=>e=.returned (.bool (inB n lo hi))/\w'=w:=by
 by_cases h1:lo<=n
 ·by_cases h2:n<=hi
  ·have h3:=zm0 ⟨h1,h2⟩
   rw[h3];go_enter Tryz.func44,Tryz.ntmps44;go_wp2;go_ret;exact⟨by simp,rfl⟩
  ·have h3:inB n lo hi=false:=zq8 (by omega)
   rw[h3];go_enter Tryz.func44,Tryz.ntmps44;go_wp2;go_ret;exact⟨by simp,rfl⟩
 ·have h3:inB n lo hi=false:=zq8 (by omega)
  rw[h3];go_enter Tryz.func44,Tryz.ntmps44;go_wp2;go_ret;exact⟨by simp,rfl⟩
def zB7(w:World)(q:Nat)(a:Option Addr)(bs:List Int):Prop:=
 ∀j,j<bs.length->∃b off,a=some ⟨b,off,none⟩/\b≠q/\w.cell? ⟨b,off+j,none⟩=some (.int .u8 (bs.getD j 0))/\0<=bs.getD j 0/\bs.getD j 0<256
def RD(w:World)(q:Nat)(a:Option Addr)(bs:List Int)(c p:Nat):Prop:=
 w.heap[q]? =some (.cells #[.slice a bs.length c,.int .i64 p] 120 (0,0))/\p<=bs.length/\zB7 w q a bs/\bs.length<=1048576
theorem zB7.grown{w w':World}{q:Nat}{a:Option Addr}{bs:List Int}(h:zB7 w q a bs)(hg:w.grownBy w' (some q)):zB7 w' q a bs:=by
 intro j hj;obtain⟨b,off,e,hne,hc,hv⟩:=h j hj;refine⟨b,off,e,hne,?_,hv⟩;have hlt:=block_lt_of_cell hc;rw[World.cell?_of_block (hg.block b hlt (fun e=>hne (by simpa using e)))];exact hc
theorem RD.below{w w':World}{q:Nat}{a:Option Addr}{bs:List Int}{c p:Nat}(h:RD w q a bs c p)(hb:Below w.heap.size w w'):RD w' q a bs c p:=by
 refine⟨za1 hb (za3 h.1) h.1,h.2.1,fun j hj=> ?_,h.2.2.2⟩;obtain⟨b,off,e,hne,hc,hv⟩:=h.2.2.1 j hj;exact⟨b,off,e,hne,(hb.cell (p:=⟨b,off+j,none⟩) (block_lt_of_cell hc)).trans hc,hv⟩
theorem RD.put{w:World}{q:Nat}{a:Option Addr}{bs:List Int}{c p p':Nat}(h:RD w q a bs c p)(hp:p'<=bs.length):RD (w.setCell ⟨q,1,none⟩ (.int .i64 p')) q a bs c p':=by
 refine⟨?_,hp,h.2.2.1.grown (za9 w q 1 _),h.2.2.2⟩;have:=heap_setCell_same w q 1 _ _ (Value.int .i64 p') h.1;simpa using this
def ym2(w:World)(q:Nat)(a:Option Addr)(bs:List Int)(c:Nat)(lo hi:Int)(e:Ending)(w':World):Prop:=
 ∃(v:Int) (p':Nat),e=.returned (.int .i64 v)/\lo<=v/\v<hi/\RD w' q a bs c p'/\w.grownBy w' (some q)
theorem zo6{w w':World}{q:Nat}(h:w.grownBy w' (some q)):w.grownBy w'.drew (some q):=⟨h.os,h.tape,h.output,h.size,h.block⟩
set_option maxHeartbeats 1000000 in
theorem z19(q p c:Nat)(a:Option Addr)(bs:List Int)(w:World)(h:RD w q a bs c p):
 Calls Tryz.prog 87 #[.pointer (some ⟨q,0,none⟩)] w (ym2 w q a bs c 0 256):=by
 have H:Hid (RD w q a bs c p):=h;obtain⟨c0,c1⟩:=za2 h.1;have hp:=h.2.1;have hbl:=h.2.2.2;clear h;by_cases hlt:p<bs.length
 ·obtain⟨b,off,rfl,hne,hc,h1,h2⟩:=H.2.2.1 p hlt
  obtain⟨v,HV⟩:=nmd (bs.getD p 0);rw[HV.out]at hc h1 h2;have hnge:¬((bs.length:Int)<=(p:Int)):=by omega
  have hwp:IntKind.i64.wrap ((p:Int)+1)=((p+1:Nat):Int):=by rw[IntWalk.i64_in _ (by omega)];omega
  have cf:=fun i=>frozen_of_row _ _ i _ _ H.1;go_enter Tryz.func87,Tryz.ntmps87
  go_wp2_with fail
  go_region
  all_goals
   have hnl:¬bs.length<=p:=by omega
   go_wp2_with fail
   have r1:=(H.put (p':=p+1) (by omega)).below (Below.refl _ _).drew;have g1:=zo6 (za9 w q 1 (Value.int .i64 ((p+1:Nat):Int)));rw[show((p+1:Nat):Int)=(p:Int)+1 by omega]at r1 g1;generalize(w.setCell ⟨q,1,none⟩ (.int .i64 ((p:Int)+1))).drew=W1 at*;have R1:Hid (RD W1 q (some ⟨b,off,none⟩) bs c (p+1)):=r1;have G1:Hid _:=g1;clear c0 c1 hc cf r1 g1;obtain⟨c0,c1⟩:=za2 R1.1;obtain⟨b2,off2,e2,_,hc,_⟩:=R1.2.2.1 p hlt;simp at e2;obtain⟨rfl,rfl⟩:=e2;rw[HV.out]at hc;rw[show((p+1:Nat):Int)=(p:Int)+1 by omega]at c1;have hw2:IntKind.i64.wrap ((p:Int)+1 - 1)=(p:Int):=by rw[IntWalk.i64_in _ (by omega)];omega
   have hp0:(0:Int)<=(p:Int):=by omega
   have hw3:IntKind.i64.wrap v=v:=IntWalk.i64_in _ (by omega);go_region
   all_goals
    go_wp2;go_ret;exact⟨v,p+1,rfl,h1,h2,R1.below (Below.refl _ _).drew,zo6 G1.out⟩
 ·have hge:(bs.length:Int)<=(p:Int):=by omega
  have hnl:bs.length<=p:=by omega
  go_enter Tryz.func87,Tryz.ntmps87
  go_wp2_with fail
  go_region
  all_goals
   go_wp2;go_ret;exact⟨0,p,rfl,by omega,by omega,H.below (Below.refl _ _).drew,zo6 (zs1 w q)⟩
set_option maxHeartbeats 1000000 in
theorem zb1(q p c:Nat)(n:Int)(a:Option Addr)(bs:List Int)(w:World)(h:RD w q a bs c p)(hn:n<=65536):
 Calls Tryz.prog 43 #[.pointer (some ⟨q,0,none⟩),.int .i64 n] w (ym2 w q a bs c 0 (max n 1)):=by
 have H:Hid (RD w q a bs c p):=h;clear h;by_cases h1:n<=1
 ·go_enter Tryz.func43,Tryz.ntmps43
  go_wp2;go_ret;exact⟨0,p,rfl,by omega,by omega,H.out,zs1 w q⟩
 ·by_cases h2:n<=256
  ·have hn0:¬n=0:=by omega
   go_enter Tryz.func43,Tryz.ntmps43
   go_wp2_with fail
   refine(z19 q p c a bs w H.out).mono ?_;rintro e w1 ⟨v,p1,rfl,hv0,hv1,hr,hg⟩;have R1:Hid (RD w1 q a bs c p1):=hr;have G1:Hid _:=hg;clear hr hg;go_wp2;go_ret;exact⟨v % n,p1,rfl,Int.emod_nonneg _ (by omega),by have:=Int.emod_lt_of_pos v (show 0<n by omega);omega,R1.out,G1.out⟩
  ·have hn0:¬n=0:=by omega
   go_enter Tryz.func43,Tryz.ntmps43
   go_wp2_with fail
   refine(z19 q p c a bs w H.out).mono ?_;rintro e w1 ⟨v,p1,rfl,hv0,hv1,hr,hg⟩;have R1:Hid (RD w1 q a bs c p1):=hr;have G1:Hid _:=hg;clear hr hg;obtain⟨x,hx⟩:∃x,v*256=x:=⟨_,rfl⟩;have hwx:IntKind.i64.wrap (v*256)=x:=by rw[IntWalk.i64_in _ (by omega)];exact hx
   have hx0:0<=x/\x<=65280:=by omega
   go_wp2_with fail
   refine(z19 q p1 c a bs w1 R1.out).mono ?_;rintro e w2 ⟨u,p2,rfl,hu0,hu1,hr,hg⟩;have R2:Hid (RD w2 q a bs c p2):=hr;have G2:Hid _:=hg;clear hr hg;obtain⟨y,hy⟩:∃y,x+u=y:=⟨_,rfl⟩;have hwy:IntKind.i64.wrap (x+u)=y:=by rw[IntWalk.i64_in _ (by omega)];exact hy
   have hy0:0<=y/\y<=65535:=by omega
   clear hwx hv0 hv1 hu0 hu1;go_wp2;go_ret;exact⟨y % n,p2,by first|rfl|(subst hy;subst hx;rfl),Int.emod_nonneg _ (by omega),by have:=Int.emod_lt_of_pos y (show 0<n by omega);omega,R2.out,zb0 G1.out G2.out⟩
set_option maxHeartbeats 1000000 in
theorem zj9(q p c:Nat)(n:Int)(a:Option Addr)(bs:List Int)(w:World)(h:RD w q a bs c p)(h1:0<=n)(hn:n<=65536):
 Calls Tryz.prog 41 #[.pointer (some ⟨q,0,none⟩),.int .i64 n] w fun e w'=>∃(v:Bool) (p':Nat),e=.returned (.bool v)/\RD w' q a bs c p'/\w.grownBy w' (some q):=by
 have H:Hid _:=h;clear h;have hw1:IntKind.i64.wrap (n - 1)=n - 1:=IntWalk.i64_in _ (by omega);go_enter Tryz.func41,Tryz.ntmps41
 go_wp2_with fail
 refine(zb1 q p c n a bs w H.out hn).mono ?_;rintro e w1 ⟨v,p1,rfl,hv0,hv1,hr,hg⟩;have R1:Hid _:=hr;have G1:Hid _:=hg;clear hr hg hv0 hv1;go_wp2;go_ret;exact⟨_,p1,rfl,R1.out,G1.out⟩
theorem ys2(x y:Int):0<=bits BinOp.or IntKind.u64 x y/\bits BinOp.or IntKind.u64 x y<18446744073709551616:=by
 unfold bits;rw[IntKind.wrap_u64];omega
def yr1(w:World)(q:Nat)(a:Option Addr)(bs:List Int)(c:Nat)(e:Ending)(w':World):Prop:=
 ∃(v:Int) (p':Nat),e=.returned (.int .u64 v)/\0<=v/\v<18446744073709551616/\RD w' q a bs c p'/\w.grownBy w' (some q)
set_option maxHeartbeats 2000000 in
theorem yj1(q p c:Nat)(a:Option Addr)(bs:List Int)(w:World)(h:RD w q a bs c p):
 Calls Tryz.prog 122 #[.pointer (some ⟨q,0,none⟩)] w (yr1 w q a bs c):=by
 have H:Hid _:=h;clear h;go_enter Tryz.func122,Tryz.ntmps122
 go_wp2_with fail
 go_loopw[3,4] (fun tx t wr=>∃(k p':Nat) (x:Int),k<=8/\t=.int .i64 k/\tx=.int .u64 x/\0<=x/\x<18446744073709551616/\RD wr q a bs c p'/\w.grownBy wr (some q)) (fun _ t _=>8 - (intOf t).toNat)
 case atStart=>exact⟨0,p,0,by omega,rfl,rfl,by omega,by omega,H.out,zs1 w q⟩
 case round=>
  obtain⟨k,p1,x,hk,rfl,rfl,hx0,hx1,hr,hg⟩:=hrel;have R1:Hid _:=hr;have G1:Hid _:=hg;clear hr hg;by_cases hlt:k<8
  ·have hlt':(k:Int)<8:=by omega
   have hwk:IntKind.i64.wrap ((k:Int)+1)=((k+1:Nat):Int):=by rw[IntWalk.i64_in _ (by omega)];omega
   go_wp2_with fail
   refine(z19 q p1 c a bs wr R1.out).mono ?_;rintro e w2 ⟨v,p2,rfl,hv0,hv1,hr,hg⟩;have R2:Hid _:=hr;have G2:Hid _:=zb0 G1.out hg;clear hr hg;go_wp2;go_roundw
   case rel=>
    obtain⟨b1,b2⟩:=ys2 (IntKind.u64.wrap (x*256)) v;exact⟨k+1,p2,_,by omega,by first|rfl|go_num,rfl,b1,b2,R2.out,G2.out⟩
   case measure=>simp[intOf];omega
  ·have hke:k=8:=by omega
   subst hke;go_wp2;go_ret;exact⟨x,p1,rfl,hx0,hx1,R1.out,G1.out⟩
theorem zm6(w:World)(o:Obj)(q:Nat):w.grownBy (w.alloc o) (some q):=⟨rfl,rfl,rfl,by simp,fun k hk _=>heap_alloc_old _ _ hk⟩
theorem zJ5(n:Int): -9223372036854775808<=wrap64 n/\wrap64 n<9223372036854775808:=by
 unfold wrap64;omega
def ys6(w:World)(q:Nat)(a:Option Addr)(bs:List Int)(c:Nat)(e:Ending)(w':World):Prop:=
 ∃(v:Int) (p':Nat),e=.returned (.int .i64 v)/\ -9223372036854775808<=v/\v<9223372036854775808/\RD w' q a bs c p'/\w.grownBy w' (some q)
def yu1(w:World)(q:Nat)(a:Option Addr)(bs:List Int)(c:Nat)(e:Ending)(w':World):Prop:=ys6 w q a bs c e w'
theorem ys5{lo hi:Int}(hl0: -3000000000<=lo)(hl1:lo<=3000000000)(hh0: -9223372036854775808<=hi)(hh1:hi<9223372036854775808)(h:lo<=hi):¬IntKind.u64.wrap (IntKind.i64.wrap (IntKind.i64.wrap (hi - lo)+1))=0/\0<IntKind.u64.wrap (IntKind.i64.wrap (IntKind.i64.wrap (hi - lo)+1))/\IntKind.u64.wrap (IntKind.i64.wrap (IntKind.i64.wrap (hi - lo)+1))<18446744073709551616:=by
 rw[IntKind.wrap_u64,IntKind.wrap_i64,IntKind.wrap_i64];omega
set_option maxHeartbeats 2000000 in
theorem yi2(q p c:Nat)(lo hi:Int)(a:Option Addr)(bs:List Int)(w:World)(h:RD w q a bs c p)(hl0: -3000000000<=lo)(hl1:lo<=3000000000)(hh0: -9223372036854775808<=hi)(hh1:hi<9223372036854775808):
 Calls Tryz.prog 86 #[.pointer (some ⟨q,0,none⟩),.int .i64 lo,.int .i64 hi] w (ys6 w q a bs c):=by
 have H:Hid (RD w q a bs c p):=h;clear h;go_enter Tryz.func86,Tryz.ntmps86
 go_wp2_with fail
 refine(zb1 q p c 8 a bs w H.out (by omega)).mono ?_;rintro e w1 ⟨v,p1,rfl,hv0,hv1,hr,hg⟩;have R1:Hid (RD w1 q a bs c p1):=hr;have G1:Hid _:=hg;clear hr hg;rcases(show v=0∨v=1∨(¬v=0/\¬v=1)from by omega)with rfl|rfl|⟨h0,h1⟩
 ·go_wp2
  go_ret;exact⟨lo,p1,rfl,by omega,by omega,R1.out,G1.out⟩
 ·go_wp2
  go_ret;exact⟨hi,p1,rfl,by omega,by omega,R1.out,G1.out⟩
 ·have e0:(v==0)=false:=by simpa using h0
  have e1:(v==1)=false:=by simpa using h1
  by_cases hlt:hi<lo
  ·go_wp2
   go_ret;exact⟨lo,p1,rfl,by omega,by omega,R1.out,G1.out⟩
  ·obtain⟨hdn0,hd1,hd2⟩:=ys5 hl0 hl1 hh0 hh1 (by omega)
   obtain⟨x1,HX1⟩:∃x,IntKind.i64.wrap (hi - lo)=x:=⟨_,rfl⟩;rw[HX1]at hdn0 hd1 hd2;obtain⟨x2,HX2⟩:∃x,IntKind.i64.wrap (x1+1)=x:=⟨_,rfl⟩;rw[HX2]at hdn0 hd1 hd2;obtain⟨d,HD⟩:∃x,IntKind.u64.wrap x2=x:=⟨_,rfl⟩;rw[HD]at hdn0 hd1 hd2;have HX1':wrap64 (hi - lo)=x1:=by rw[<-HX1,IntKind.wrap_i64];unfold wrap64;rfl
   have HX2':wrap64 (x1+1)=x2:=by rw[<-HX2,IntKind.wrap_i64];unfold wrap64;rfl
   clear hv0 hv1
   go_wp2_with fail
   refine(yj1 q p1 c a bs w1 R1.out).mono ?_;rintro e w2 ⟨x,p2,rfl,hx0,hx1,hr,hg⟩;have R2:Hid (RD w2 q a bs c p2):=hr;have G2:Hid _:=zb0 G1.out hg;clear hr hg;have hdn:¬d=0:=hdn0;go_wp2;go_ret;have hb:=zJ5 (lo+wrap64 (x / 2 % d));exact⟨_,p2,rfl,hb.1,hb.2,R2.out,G2.out⟩
set_option maxHeartbeats 2000000 in
theorem zm8(q p c:Nat)(lo hi:Int)(a:Option Addr)(bs:List Int)(w:World)(h:RD w q a bs c p)(hl0: -3000000000<=lo)(hl1:lo<=3000000000)(hh0: -9223372036854775808<=hi)(hh1:hi<9223372036854775808):
 Calls Tryz.prog 42 #[.pointer (some ⟨q,0,none⟩),.int .i64 lo,.int .i64 hi] w (yu1 w q a bs c):=by
 have H:Hid (RD w q a bs c p):=h;clear h;go_enter Tryz.func42,Tryz.ntmps42
 go_wp2_with fail
 refine(zj9 q p c 24 a bs w H.out (by omega) (by omega)).mono ?_;rintro e w1 ⟨v,p1,rfl,hr,hg⟩;have R1:Hid (RD w1 q a bs c p1):=hr;have G1:Hid _:=hg;clear hr hg;cases v
 ·go_wp2_with fail
  refine(yi2 q p1 c lo hi a bs w1 R1.out hl0 hl1 hh0 hh1).mono ?_;rintro e w2 ⟨x,p2,rfl,hx0,hx1,hr,hg⟩;have R2:Hid (RD w2 q a bs c p2):=hr;have G2:Hid _:=zb0 G1.out hg;clear hr hg;go_wp2;go_ret;exact⟨x,p2,rfl,hx0,hx1,R2.out,G2.out⟩
 ·have hw1:IntKind.i64.wrap (lo - 1)=lo - 1:=IntWalk.i64_in _ (by omega)
  obtain⟨h2,HH2⟩:∃x,IntKind.i64.wrap (hi+1)=x:=⟨_,rfl⟩;have HH2':wrap64 (hi+1)=h2:=by rw[<-HH2,IntKind.wrap_i64];unfold wrap64;rfl
  have hh2: -9223372036854775808<=h2/\h2<9223372036854775808:=by rw[<-HH2'];exact zJ5 _
  go_wp2_with fail
  have RA:Hid (RD (w1.alloc (Obj.cells #[Value.int .i64 (lo - 1),Value.int .i64 h2,Value.int .i64 (-9223372036854775808),Value.int .i64 9223372036854775807] 2)) q a bs c p1):=R1.below ((Below.refl _ _).alloc (Nat.le_refl _) _);have NA:Hid ((w1.alloc (Obj.cells #[Value.int .i64 (lo - 1),Value.int .i64 h2,Value.int .i64 (-9223372036854775808),Value.int .i64 9223372036854775807] 2)).heap[w1.heap.size]? =_):=heap_alloc_new _ _;have HQ:Hid _:=za3 R1.1;refine(zb1 q p1 c 4 a bs _ RA.out (by omega)).mono ?_;rintro e w2 ⟨x,p2,rfl,hx0,hx1,hr,hg⟩;have R2:Hid (RD w2 q a bs c p2):=hr;have G2:Hid _:=zb0 (zb0 G1.out (zm6 w1 _ q)) hg;have N2:=(hg.block _ (za3 NA.out) (fun e=>by have:=HQ.out;simp at e;omega)).trans NA.out;clear hr hg;have n0:=cell_of_row _ _ 0 _ _ _ N2;have n1:=cell_of_row _ _ 1 _ _ _ N2;have n2:=cell_of_row _ _ 2 _ _ _ N2;have n3:=cell_of_row _ _ 3 _ _ _ N2;simp at n0 n1 n2 n3;clear N2;rcases(show x=0∨x=1∨x=2∨x=3 from by omega)with rfl|rfl|rfl|rfl
  all_goals
   go_wp2;go_ret;exact⟨_,p2,rfl,by omega,by omega,R2.out,G2.out⟩
def zu4(w:World)(a:Option Addr)(bs:List Int):Prop:=
 ∀j,j<bs.length->∃b off,a=some ⟨b,off,none⟩/\w.cell? ⟨b,off+j,none⟩=some (.int .u8 (bs.getD j 0))/\0<=bs.getD j 0/\bs.getD j 0<256
set_option maxHeartbeats 400000 in
theorem zV7(a:Option Addr)(c:Nat)(bs:List Int)(w:World)(h:zu4 w a bs)(hl:bs.length<=1048576):
 Calls Tryz.prog 38 #[.slice a bs.length c] w fun e w'=>e=.returned (.pointer (some ⟨w.heap.size,0,none⟩))/\Below w.heap.size w w'/\RD w' w.heap.size a bs c 0:=by
 have H:Hid _:=h;clear h;go_enter Tryz.func38,Tryz.ntmps38;go_wp2;go_ret;refine⟨rfl,(Below.refl _ _).alloc (Nat.le_refl _) _,heap_alloc_new _ _,Nat.zero_le _,fun j hj=> ?_,hl⟩;obtain⟨b,off,e,hc,hv⟩:=H.out j hj;have hlt:=block_lt_of_cell hc;simp at hlt;exact⟨b,off,e,by omega,(((Below.refl w.heap.size w).alloc (Nat.le_refl _) _).cell (p:=⟨b,off+j,none⟩) hlt).trans hc,hv⟩
theorem zj1{w w1 w2:World}{q:Nat}(hb:Below w.heap.size w w1)(hq:w.heap.size<=q)(hg:w1.grownBy w2 (some q)):Below w.heap.size w w2:=hb.grown hg hb.size (fun k e=>by injection e with e;omega)
end Go.Proofs.YtjobhigmdaiinaaGreat
namespace Go.Proofs.YtjobhigmdaiinaaGreat
end Go.Proofs.YtjobhigmdaiinaaGreat
namespace Go.Proofs.YtjobhigmdaiinaaGreat
open Go.RowKit
theorem zz4{n y:Nat}(hy:y<n)(P:Nat->Prop)(h:P (y+1)):
 (∃k,k<=n/\Value.int .i64 ((y:Int)+1)=Value.int .i64 (k:Int)/\P k)/\n - (intOf (Value.int .i64 ((y:Int)+1))).toNat<n - (intOf (Value.int .i64 (y:Int))).toNat:=by
 have e:((y:Int)+1)=((y+1:Nat):Int):=by simp
 rw[e];refine⟨⟨y+1,hy,rfl,h⟩,?_⟩;simp[intOf];omega
theorem z72(x:Int)(w:World):Calls Tryz.prog 145 #[.int .i64 x] w fun e w'=>e=.returned (.bool false)/\w'=w:=by
 have hx:(x !=x)=false:=by simp
 go_enter Tryz.func145,Tryz.ntmps145;go_wp2;go_ret;exact⟨by first|rfl|simp,rfl⟩
def ya1(x y:Int):Int:=if x<y then -1 else if y<x then 1 else 0
theorem zN4(x y:Int)(w:World):Calls Tryz.prog 133 #[.int .i64 x,.int .i64 y] w fun e w'=>e=.returned (.int .i64 (ya1 x y))/\w'=w:=by
 unfold ya1;by_cases h1:x<y
 ·rw[if_pos h1]
  go_enter Tryz.func133,Tryz.ntmps133
  go_wp2_with(go_at_call 145;refine(z72 _ _).mono ?_;rintro e w' ⟨rfl,hw⟩;subst hw)
  go_ret;exact⟨rfl,rfl⟩
 ·rw[if_neg h1]
  by_cases h2:y<x
  ·rw[if_pos h2]
   go_enter Tryz.func133,Tryz.ntmps133
   go_wp2_with(go_at_call 145;refine(z72 _ _).mono ?_;rintro e w' ⟨rfl,hw⟩;subst hw)
   go_ret;exact⟨rfl,rfl⟩
  ·rw[if_neg h2]
   go_enter Tryz.func133,Tryz.ntmps133
   go_wp2_with(go_at_call 145;refine(z72 _ _).mono ?_;rintro e w' ⟨rfl,hw⟩;subst hw)
   go_ret;exact⟨rfl,rfl⟩
theorem zp9{W:World}{base g cap n size:Nat}{E:TypeId}{cur:Array Value}{xs:List Value}(hr:W.heap[g]? =some (.cells cur E (0,0)))(hsz:cur.size=cap*size)(hn:n<=cap)(hm:cap<=maxLen)(hb:base<=g)(hx:xs.length=n*size)(hc:∀j,j<n*size->W.cell? ⟨g,j,none⟩=xs[j]?):W.ownsRow base E size (.slice (some ⟨g,0,none⟩) n cap) n xs:=by
 refine⟨hx,.inr ⟨g,cap,cur,rfl,hb,hr,hn,hm,hsz,?_⟩⟩;apply List.ext_getElem?;intro j;rw[List.getElem?_take];by_cases hj:j<n*size
 ·have h1:=hc j hj
  rw[cell_of_row _ _ _ _ _ _ hr]at h1;rw[if_pos hj,Array.getElem?_toList,h1]
 ·rw[if_neg hj,List.getElem?_eq_none (by omega)]
set_option maxHeartbeats 400000 in
theorem ye3(a:Option Addr)(c len:Nat)(w:World)(hl:len<=9223372036854775807):
 Calls Tryz.prog 5 #[.slice a len c] w fun e w'=>e=.returned (.bool (decide (1048576<len)))/\w'=w:=by
 by_cases h:1048576<len
 ·rw[decide_eq_true h]
  go_enter Tryz.func5,Tryz.ntmps5;go_wp2;go_ret;exact⟨by first|rfl|(simp;omega),rfl⟩
 ·rw[decide_eq_false h]
  go_enter Tryz.func5,Tryz.ntmps5;go_wp2;go_ret;exact⟨by first|rfl|(simp;omega),rfl⟩
theorem yo3:(Tryz.prog.info? 2).map (fun i=>(i.zero,i.size,i.bytes))=some (some (Value.int .i64 0),1,8):=by kernel_rfl
set_option maxHeartbeats 1000000 in
theorem zw3(n fine id:Int)(a ao av:Option Addr)(lt cap ko co kv cv:Nat)(zs:List Int)(w:World)(hA:za0 w ao zs)(hl:zs.length=ko*6)(hlen:ko<=9223372036854775807):
 Calls Tryz.prog 114 #[.agg #[.int .i64 n,.slice a lt cap,.slice ao ko co,.slice av kv cv,.int .i64 fine],.int .i64 id] w fun e w'=>e=.returned (.tuple #[.agg #[.int .i64 (zc3 zs ko id 0),.int .i64 (zc3 zs ko id 1),.int .i64 (zc3 zs ko id 2),.int .i64 (zc3 zs ko id 3),.int .i64 (zc3 zs ko id 4),.int .i64 (zc3 zs ko id 5)],.bool (zi8 zs ko id)])/\Below w.heap.size w w':=by
 have HB0:Hid (Below w.heap.size w ((w.alloc (Obj.cells #[Value.int .i64 n,Value.slice a lt cap,Value.slice ao ko co,Value.slice av kv cv,Value.int .i64 fine] 30)).alloc (Obj.cells #[Value.int .i64 0,Value.int .i64 0,Value.int .i64 0,Value.int .i64 0,Value.int .i64 0,Value.int .i64 0] 95))):=((Below.refl _ _).alloc (Nat.le_refl _) _).alloc (by simp) _;have HA:Hid (za0 w ao zs):=hA;have HL:Hid _:=hl;clear hA hl;go_enter Tryz.func114,Tryz.ntmps114
 go_wp2_with fail
 have Q0:Hid (((w.alloc (Obj.cells #[Value.int .i64 n,Value.slice a lt cap,Value.slice ao ko co,Value.slice av kv cv,Value.int .i64 fine] 30)).alloc (Obj.cells #[Value.int .i64 0,Value.int .i64 0,Value.int .i64 0,Value.int .i64 0,Value.int .i64 0,Value.int .i64 0] 95)).heap[w.heap.size+1]? =_):=heap_alloc2_new _ _ _;generalize(w.alloc (Obj.cells #[Value.int .i64 n,Value.slice a lt cap,Value.slice ao ko co,Value.slice av kv cv,Value.int .i64 fine] 30)).alloc (Obj.cells #[Value.int .i64 0,Value.int .i64 0,Value.int .i64 0,Value.int .i64 0,Value.int .i64 0,Value.int .i64 0] 95)=W at*;go_loopw[11] (fun t wr=>∃k:Nat,k<=ko/\t=.int .i64 k/\(∀j,j<k->og6 zs j 0≠id)/\Below w.heap.size w wr/\wr.heap[w.heap.size+1]? =some (.cells #[Value.int .i64 0,Value.int .i64 0,Value.int .i64 0,Value.int .i64 0,Value.int .i64 0,Value.int .i64 0] 95 (0,0))) (fun t _=>ko - (intOf t).toNat)
 case atStart=>exact⟨0,Nat.zero_le _,rfl,fun j hj=>by omega,HB0.out,Q0.out⟩
 case round=>
  clear HB0 Q0;obtain⟨k,hk,rfl,hno,hb,hq⟩:=hrel;have HN:Hid _:=hno;have HB:Hid _:=hb;have HQ:Hid _:=hq;obtain⟨q0,q1,q2,q3,q4,q5⟩:=zf8 hq;have f0:=fun i=>frozen_of_row _ _ i _ _ hq;have hqlt:=za3 hq;clear hno hb hq;by_cases hlt:k<ko
  ·obtain⟨b,off,rfl,hcs⟩:=za0.some (za0.below HA.out HB.out) (j:=k*6) (by rw[HL.out];omega)
   obtain⟨r0,r1,r2,r3,r4,r5⟩:=zq3 hcs HL.out k hlt;clear hcs;obtain⟨o0,H0⟩:=nmd (og6 zs k 0);obtain⟨o1,H1⟩:=nmd (og6 zs k 1);obtain⟨o2,H2⟩:=nmd (og6 zs k 2);obtain⟨o3,H3⟩:=nmd (og6 zs k 3);obtain⟨o4,H4⟩:=nmd (og6 zs k 4);obtain⟨o5,H5⟩:=nmd (og6 zs k 5);rw[H0.out]at r0;rw[H1.out]at r1;rw[H2.out]at r2;rw[H3.out]at r3;rw[H4.out]at r4;rw[H5.out]at r5;have hlb:=block_lt_of_cell r0;simp at hlb;by_cases he:o0=id
   ·have heb:(o0==id)=true:=by simp[he]
    have HF:Hid _:=zY8 hlt (by rw[H0.out];exact he) HN.out;clear he;go_wp2;refine bodyPost_ret (v:=.tuple #[.agg #[.int .i64 o0,.int .i64 o1,.int .i64 o2,.int .i64 o3,.int .i64 o4,.int .i64 o5],.bool true]) (by simp[results,Tryz.results114,go_sem,hqlt,q0,q1,q2,q3,q4,q5]) rfl ⟨?_,?_⟩
    ·rw[zQ1 HF.out];simp only[zS0 HF.out,H0.out,H1.out,H2.out,H3.out,H4.out,H5.out]
    ·repeat(first|with_reducible exact HB.out|with_reducible refine Below.setCell ?_ (by simp<;>omega) _|with_reducible refine Below.alloc ?_ (by simp[World.setCell];exact HB.out.size) _)
   ·have heb:(o0==id)=false:=by simp[he]
    have HS:Hid _:=zD3 HN.out (by rw[H0.out];exact he);clear he;go_wp2;refine⟨⟨k+1,by omega,by go_num,HS.out,HB.out.alloc HB.out.size _,?_⟩,by simp[intOf];omega⟩;rw[heap_alloc_old _ _ (za3 HQ.out)];exact HQ.out
  ·have hkx:k=ko:=by omega
   have HF:Hid _:=zI3 (hkx▸HN.out);clear hkx;go_wp2;refine bodyPost_ret (v:=.tuple #[.agg #[.int .i64 0,.int .i64 0,.int .i64 0,.int .i64 0,.int .i64 0,.int .i64 0],.bool false]) (by simp[results,Tryz.results114,go_sem,q0,q1,q2,q3,q4,q5]) rfl ⟨?_,?_⟩
   ·rw[zB0 HF.out];simp only[z99 HF.out]
   ·repeat(first|with_reducible exact HB.out|with_reducible refine Below.setCell ?_ (by simp<;>omega) _)
set_option maxHeartbeats 400000 in
theorem yf2(a:Option Addr)(m cap:Nat)(id:Int)(zs:List Int)(w:World)(hA:za0 w a zs)(hm:m<=zs.length)(hlen:m<=9223372036854775807):
 Calls Tryz.prog 125 #[.slice a m cap,.int .i64 id] w fun e w'=>e=.returned (.int .i64 (yl4 zs m id))/\w'=w:=by
 have HA:Hid _:=hA;clear hA;obtain⟨r,HR⟩:=nmd (yl4 zs m id);rw[HR.out];go_enter Tryz.func125,Tryz.ntmps125
 go_wp2_with fail
 go_loop [8] (fun t=>∃k:Nat,k<=m/\t=.int .i64 k/\∀j,j<k->zs.getD j 0≠id) (fun t=>m - (intOf t).toNat)
 case atStart=>exact⟨0,Nat.zero_le _,rfl,fun j hj=>by omega⟩
 case round=>
  obtain⟨k,hk,rfl,hno⟩:=hrel;have HN:Hid _:=hno;clear hno;by_cases hlt:k<m
  ·obtain⟨b,off,rfl,hcs⟩:=za0.some HA.out (j:=k) (by omega)
   have ct:=hcs k (by omega);clear hcs;obtain⟨t,HT⟩:=nmd (zs.getD k 0);rw[HT.out]at ct;by_cases he:id=t
   ·have heb:(id==t)=true:=by simp[he]
    have HV:Hid _:=HR.symm.trans (yo5 hlt (HT.trans he.symm) HN.out);clear he;go_wp2;go_ret;exact⟨zm7 HV.symm,rfl⟩
   ·have heb:(id==t)=false:=by simp[he]
    have HS:Hid _:=zK1 HN.out (by rw[HT.out];exact fun x=>he x.symm);clear he;go_wp2;exact⟨⟨k+1,by omega,by go_num,HS.out⟩,by simp[intOf];omega⟩
  ·have hkl:k=m:=by omega
   have HV:Hid _:=HR.symm.trans (yf8 (hkl▸HN.out));clear hkl;go_wp2;go_ret;exact⟨zm7 HV.symm,rfl⟩
set_option maxHeartbeats 400000 in
theorem z04(a:Option Addr)(m cap:Nat)(id:Int)(zs:List Int)(w:World)(hA:za0 w a zs)(hm:m<=zs.length)(hlen:m<=9223372036854775807):
 Calls Tryz.prog 147 #[.slice a m cap,.int .i64 id] w fun e w'=>e=.returned (.bool (zr8 zs m id))/\w'=w:=by
 have HA:Hid _:=hA;clear hA;rw[<-yl6];obtain⟨t,HT⟩:=nmd (yl4 zs m id);rw[HT.out];go_enter Tryz.func147,Tryz.ntmps147
 go_wp2_with fail
 refine(yf2 a m cap id zs w HA.out hm hlen).mono ?_;rintro e w1 ⟨rfl,rfl⟩;rw[HT.out];go_wp2;go_ret;exact⟨by simp,rfl⟩
set_option maxHeartbeats 1000000 in
theorem z57(n fine id:Int)(a ao av:Option Addr)(lt cap ko co kv cv:Nat)(zs:List Int)(w:World)(hA:za0 w av zs)(hl:zs.length=kv*5)(hlen:kv<=9223372036854775807):
 Calls Tryz.prog 138 #[.agg #[.int .i64 n,.slice a lt cap,.slice ao ko co,.slice av kv cv,.int .i64 fine],.int .i64 id] w fun e w'=>e=.returned (.tuple #[.agg #[.int .i64 (zb5 zs kv id 0),.int .i64 (zb5 zs kv id 1),.int .i64 (zb5 zs kv id 2),.int .i64 (zb5 zs kv id 3),.int .i64 (zb5 zs kv id 4)],.bool (fnd5T zs kv id)])/\Below w.heap.size w w':=by
 have HB0:Hid (Below w.heap.size w ((w.alloc (Obj.cells #[Value.int .i64 n,Value.slice a lt cap,Value.slice ao ko co,Value.slice av kv cv,Value.int .i64 fine] 30)).alloc (Obj.cells #[Value.int .i64 0,Value.int .i64 0,Value.int .i64 0,Value.int .i64 0,Value.int .i64 0] 41))):=((Below.refl _ _).alloc (Nat.le_refl _) _).alloc (by simp) _;have HA:Hid (za0 w av zs):=hA;have HL:Hid _:=hl;clear hA hl;go_enter Tryz.func138,Tryz.ntmps138
 go_wp2_with fail
 have Q0:Hid (((w.alloc (Obj.cells #[Value.int .i64 n,Value.slice a lt cap,Value.slice ao ko co,Value.slice av kv cv,Value.int .i64 fine] 30)).alloc (Obj.cells #[Value.int .i64 0,Value.int .i64 0,Value.int .i64 0,Value.int .i64 0,Value.int .i64 0] 41)).heap[w.heap.size+1]? =_):=heap_alloc2_new _ _ _;generalize(w.alloc (Obj.cells #[Value.int .i64 n,Value.slice a lt cap,Value.slice ao ko co,Value.slice av kv cv,Value.int .i64 fine] 30)).alloc (Obj.cells #[Value.int .i64 0,Value.int .i64 0,Value.int .i64 0,Value.int .i64 0,Value.int .i64 0] 41)=W at*;go_loopw[11] (fun t wr=>∃k:Nat,k<=kv/\t=.int .i64 k/\(∀j,j<k->og5 zs j 0≠id)/\Below w.heap.size w wr/\wr.heap[w.heap.size+1]? =some (.cells #[Value.int .i64 0,Value.int .i64 0,Value.int .i64 0,Value.int .i64 0,Value.int .i64 0] 41 (0,0))) (fun t _=>kv - (intOf t).toNat)
 case atStart=>exact⟨0,Nat.zero_le _,rfl,fun j hj=>by omega,HB0.out,Q0.out⟩
 case round=>
  clear HB0 Q0;obtain⟨k,hk,rfl,hno,hb,hq⟩:=hrel;have HN:Hid _:=hno;have HB:Hid _:=hb;have HQ:Hid _:=hq;obtain⟨q0,q1,q2,q3,q4⟩:=za8 hq;have f0:=fun i=>frozen_of_row _ _ i _ _ hq;have hqlt:=za3 hq;clear hno hb hq;by_cases hlt:k<kv
  ·obtain⟨b,off,rfl,hcs⟩:=za0.some (za0.below HA.out HB.out) (j:=k*5) (by rw[HL.out];omega)
   obtain⟨r0,r1,r2,r3,r4⟩:=z48 hcs HL.out k hlt;clear hcs;obtain⟨o0,H0⟩:=nmd (og5 zs k 0);obtain⟨o1,H1⟩:=nmd (og5 zs k 1);obtain⟨o2,H2⟩:=nmd (og5 zs k 2);obtain⟨o3,H3⟩:=nmd (og5 zs k 3);obtain⟨o4,H4⟩:=nmd (og5 zs k 4);rw[H0.out]at r0;rw[H1.out]at r1;rw[H2.out]at r2;rw[H3.out]at r3;rw[H4.out]at r4;have hlb:=block_lt_of_cell r0;simp at hlb;by_cases he:o0=id
   ·have heb:(o0==id)=true:=by simp[he]
    have HF:Hid _:=ya8 hlt (by rw[H0.out];exact he) HN.out;clear he;go_wp2;refine bodyPost_ret (v:=.tuple #[.agg #[.int .i64 o0,.int .i64 o1,.int .i64 o2,.int .i64 o3,.int .i64 o4],.bool true]) (by simp[results,Tryz.results138,go_sem,hqlt,q0,q1,q2,q3,q4]) rfl ⟨?_,?_⟩
    ·rw[zQ7 HF.out];simp only[zP7 HF.out,H0.out,H1.out,H2.out,H3.out,H4.out]
    ·repeat(first|with_reducible exact HB.out|with_reducible refine Below.setCell ?_ (by simp<;>omega) _|with_reducible refine Below.alloc ?_ (by simp[World.setCell];exact HB.out.size) _)
   ·have heb:(o0==id)=false:=by simp[he]
    have HS:Hid _:=zD6 HN.out (by rw[H0.out];exact he);clear he;go_wp2;refine⟨⟨k+1,by omega,by go_num,HS.out,HB.out.alloc HB.out.size _,?_⟩,by simp[intOf];omega⟩;rw[heap_alloc_old _ _ (za3 HQ.out)];exact HQ.out
  ·have hkx:k=kv:=by omega
   have HF:Hid _:=zK2 (hkx▸HN.out);clear hkx;go_wp2;refine bodyPost_ret (v:=.tuple #[.agg #[.int .i64 0,.int .i64 0,.int .i64 0,.int .i64 0,.int .i64 0],.bool false]) (by simp[results,Tryz.results138,go_sem,q0,q1,q2,q3,q4]) rfl ⟨?_,?_⟩
   ·rw[zA2 HF.out];simp only[z96 HF.out]
   ·repeat(first|with_reducible exact HB.out|with_reducible refine Below.setCell ?_ (by simp<;>omega) _)
set_option maxHeartbeats 400000 in
theorem ye8(n x y:Nat)(v0 v1 v2 v3 v4:Int)(a ar:Option Addr)(len cap kr cr:Nat)(zs:List Int)(w:World)(hn:n<=16)(hx:x<n)(hy:y<n)(hl:zs.length=n*n)(hlen:len=n*n)(hA:za0 w a zs):
 Calls Tryz.prog 117 #[.agg #[.int .i64 n,.slice a len cap,.int .i64 v0,.int .i64 v1,.int .i64 v2,.int .i64 v3,.int .i64 v4,.slice ar kr cr],.int .i64 x,.int .i64 y] w fun e w'=>e=.returned (.int .i64 (zs.getD (x*n+y) 0))/\Below w.heap.size w w':=by
 subst hlen;have hnn:=zu2 n n hn hn;have hxy:x*n+y<n*n:=by
  have:=Nat.mul_le_mul_right n (show x+1<=n by omega);rw[Nat.add_mul]at this;omega
 obtain⟨bb,off,rfl,hcs⟩:=hA.some (j:=x*n+y) (by omega);have ct:=hcs (x*n+y) (by omega);have hlt:=block_lt_of_cell ct;clear hcs hA;generalize zs.getD (x*n+y) 0=t at ct;have hwm:wrap64 ((x:Int)*(n:Int))=(x:Int)*(n:Int):=IntWalk.wrap64_in _ (by rw[<-Int.natCast_mul];omega);simp at hlt;clear hl;go_enter Tryz.func117,Tryz.ntmps117;go_wp2;go_ret;exact⟨rfl,(Below.refl _ _).alloc (Nat.le_refl _) _⟩
theorem yq3(n x y:Int)(v0 v1 v2 v3 v4:Int)(a ar:Option Addr)(cap kr cr:Nat)(zs:List Int)(w:World)(hm:zm2 n zs=true)(hx:0<=x/\x<n)(hy:0<=y/\y<n)(hA:za0 w a zs):
 Calls Tryz.prog 117 #[.agg #[.int .i64 n,.slice a zs.length cap,.int .i64 v0,.int .i64 v1,.int .i64 v2,.int .i64 v3,.int .i64 v4,.slice ar kr cr],.int .i64 x,.int .i64 y] w fun e w'=>e=.returned (.int .i64 (tmI n zs x y))/\Below w.heap.size w w':=by
 obtain⟨h1,h2,h3,_⟩:=zi7 hm;obtain⟨N,rfl⟩:∃N:Nat,n=N:=⟨n.toNat,by omega⟩;obtain⟨X,rfl⟩:∃X:Nat,x=X:=⟨x.toNat,by omega⟩;obtain⟨Y,rfl⟩:∃Y:Nat,y=Y:=⟨y.toNat,by omega⟩;have hl:zs.length=N*N:=by rw[<-Int.natCast_mul]at h3;omega
 exact ye8 N X Y _ _ _ _ _ a ar zs.length cap kr cr zs w (by omega) (by omega) (by omega) hl hl hA
set_option maxHeartbeats 400000 in
theorem zf2(n p:Int)(s:Value)(w:World)(h1:1<=n)(h2:n<=16):
 Calls Tryz.prog 136 #[.agg #[.int .i64 n,s],.int .i64 p] w fun e w'=>e=.returned (.bool (inB p 0 (n - 1)))/\Below w.heap.size w w':=by
 go_enter Tryz.func136,Tryz.ntmps136
 go_wp2_with(go_at_call 44;refine(zc1 _ _ _ _).mono ?_;rintro e w' ⟨rfl,rfl⟩)
 go_ret;exact⟨rfl,(Below.refl _ _).alloc (Nat.le_refl _) _⟩
set_option maxHeartbeats 400000 in
theorem zf1(f t:Int)(w:World):
 Calls Tryz.prog 137 #[.int .i64 f,.int .i64 t] w fun e w'=>e=.returned (.bool (zg5 f t))/\w'=w:=by
 by_cases h1:0<=f
 ·by_cases h2:f<=t
  ·by_cases h3:t<=1000000
   ·rw[ye1 h1 h2 h3]
    go_enter Tryz.func137,Tryz.ntmps137;go_wp2;go_ret;exact⟨by simp,rfl⟩
   ·rw[zz0 (by omega)]
    go_enter Tryz.func137,Tryz.ntmps137;go_wp2;go_ret;exact⟨by simp,rfl⟩
  ·rw[zz0 (by omega)]
   go_enter Tryz.func137,Tryz.ntmps137;go_wp2;go_ret;exact⟨by simp,rfl⟩
 ·rw[zz0 (by omega)]
  go_enter Tryz.func137,Tryz.ntmps137;go_wp2;go_ret;exact⟨by simp,rfl⟩
set_option maxHeartbeats 400000 in
theorem z49(n o0 o1 o2 o3 o4 o5:Int)(s:Value)(w:World)(hn1:1<=n)(hn2:n<=16):
 Calls Tryz.prog 109 #[.agg #[.int .i64 n,s],.agg #[.int .i64 o0,.int .i64 o1,.int .i64 o2,.int .i64 o3,.int .i64 o4,.int .i64 o5]] w fun e w'=>e=.returned (.bool (zp7 n o1 o2 o3 o4 o5))/\Below w.heap.size w w':=by
 have HB0:Hid (Below w.heap.size w ((w.alloc (Obj.cells #[Value.int .i64 n,s] 26)).alloc (Obj.cells #[Value.int .i64 o0,Value.int .i64 o1,Value.int .i64 o2,Value.int .i64 o3,Value.int .i64 o4,Value.int .i64 o5] 95))):=((Below.refl _ _).alloc (Nat.le_refl _) _).alloc (by simp) _;have R0:Hid (((w.alloc (Obj.cells #[Value.int .i64 n,s] 26)).alloc (Obj.cells #[Value.int .i64 o0,Value.int .i64 o1,Value.int .i64 o2,Value.int .i64 o3,Value.int .i64 o4,Value.int .i64 o5] 95)).heap[w.heap.size+1]? =some (.cells #[Value.int .i64 o0,Value.int .i64 o1,Value.int .i64 o2,Value.int .i64 o3,Value.int .i64 o4,Value.int .i64 o5] 95 (0,0))):=heap_alloc2_new _ _ _;have HLT:Hid (w.heap.size+1<((w.alloc (Obj.cells #[Value.int .i64 n,s] 26)).alloc (Obj.cells #[Value.int .i64 o0,Value.int .i64 o1,Value.int .i64 o2,Value.int .i64 o3,Value.int .i64 o4,Value.int .i64 o5] 95)).heap.size):=by
  show _<_;simp
 cases h0:inB o1 0 (n - 1)
 ·go_enter Tryz.func109,Tryz.ntmps109
  go_wp2_with(first
   |(go_at_call 136
     refine(zf2 _ _ _ _ hn1 hn2).mono ?_;rintro e w2 ⟨rfl,hb2⟩;have BL:=HB0.trans (hb2.mono HB0.size);obtain⟨k0,k1,k2,k3,k4,k5⟩:=zf8 (za1 hb2 HLT.out R0.out);clear hb2)
   |(go_at_call 44;refine(zc1 _ _ _ _).mono ?_;rintro e w' ⟨rfl,rfl⟩)
   |(go_at_call 137;refine(zf1 _ _ _).mono ?_;rintro e w' ⟨rfl,rfl⟩))
  go_ret;exact⟨zb4 (by simp[zp7,h0]),BL⟩
 ·cases h1:inB o2 0 1000
  ·go_enter Tryz.func109,Tryz.ntmps109
   go_wp2_with(first
    |(go_at_call 136
      refine(zf2 _ _ _ _ hn1 hn2).mono ?_;rintro e w2 ⟨rfl,hb2⟩;have BL:=HB0.trans (hb2.mono HB0.size);obtain⟨k0,k1,k2,k3,k4,k5⟩:=zf8 (za1 hb2 HLT.out R0.out);clear hb2)
    |(go_at_call 44;refine(zc1 _ _ _ _).mono ?_;rintro e w' ⟨rfl,rfl⟩)
    |(go_at_call 137;refine(zf1 _ _ _).mono ?_;rintro e w' ⟨rfl,rfl⟩))
   go_ret;exact⟨zb4 (by simp[zp7,h0,h1]),BL⟩
  ·cases h2:zg5 o3 o4
   ·go_enter Tryz.func109,Tryz.ntmps109
    go_wp2_with(first
     |(go_at_call 136
       refine(zf2 _ _ _ _ hn1 hn2).mono ?_;rintro e w2 ⟨rfl,hb2⟩;have BL:=HB0.trans (hb2.mono HB0.size);obtain⟨k0,k1,k2,k3,k4,k5⟩:=zf8 (za1 hb2 HLT.out R0.out);clear hb2)
     |(go_at_call 44;refine(zc1 _ _ _ _).mono ?_;rintro e w' ⟨rfl,rfl⟩)
     |(go_at_call 137;refine(zf1 _ _ _).mono ?_;rintro e w' ⟨rfl,rfl⟩))
    go_ret;exact⟨zb4 (by simp[zp7,h0,h1,h2]),BL⟩
   ·cases h3:inB o5 0 10000
    ·go_enter Tryz.func109,Tryz.ntmps109
     go_wp2_with(first
      |(go_at_call 136
        refine(zf2 _ _ _ _ hn1 hn2).mono ?_;rintro e w2 ⟨rfl,hb2⟩;have BL:=HB0.trans (hb2.mono HB0.size);obtain⟨k0,k1,k2,k3,k4,k5⟩:=zf8 (za1 hb2 HLT.out R0.out);clear hb2)
      |(go_at_call 44;refine(zc1 _ _ _ _).mono ?_;rintro e w' ⟨rfl,rfl⟩)
      |(go_at_call 137;refine(zf1 _ _ _).mono ?_;rintro e w' ⟨rfl,rfl⟩))
     go_ret;exact⟨zb4 (by simp[zp7,h0,h1,h2,h3]),BL⟩
    ·go_enter Tryz.func109,Tryz.ntmps109
     go_wp2_with(first
      |(go_at_call 136
        refine(zf2 _ _ _ _ hn1 hn2).mono ?_;rintro e w2 ⟨rfl,hb2⟩;have BL:=HB0.trans (hb2.mono HB0.size);obtain⟨k0,k1,k2,k3,k4,k5⟩:=zf8 (za1 hb2 HLT.out R0.out);clear hb2)
      |(go_at_call 44;refine(zc1 _ _ _ _).mono ?_;rintro e w' ⟨rfl,rfl⟩)
      |(go_at_call 137;refine(zf1 _ _ _).mono ?_;rintro e w' ⟨rfl,rfl⟩))
     go_ret;exact⟨zb4 (by simp[zp7,h0,h1,h2,h3]),BL⟩
set_option maxHeartbeats 400000 in
theorem zx7(n o0 o1 o2 o3 o4:Int)(s:Value)(w:World)(hn1:1<=n)(hn2:n<=16):
 Calls Tryz.prog 110 #[.agg #[.int .i64 n,s],.agg #[.int .i64 o0,.int .i64 o1,.int .i64 o2,.int .i64 o3,.int .i64 o4]] w fun e w'=>e=.returned (.bool (zt9 n o1 o2 o3 o4))/\Below w.heap.size w w':=by
 have HB0:Hid (Below w.heap.size w ((w.alloc (Obj.cells #[Value.int .i64 n,s] 26)).alloc (Obj.cells #[Value.int .i64 o0,Value.int .i64 o1,Value.int .i64 o2,Value.int .i64 o3,Value.int .i64 o4] 41))):=((Below.refl _ _).alloc (Nat.le_refl _) _).alloc (by simp) _;have R0:Hid (((w.alloc (Obj.cells #[Value.int .i64 n,s] 26)).alloc (Obj.cells #[Value.int .i64 o0,Value.int .i64 o1,Value.int .i64 o2,Value.int .i64 o3,Value.int .i64 o4] 41)).heap[w.heap.size+1]? =some (.cells #[Value.int .i64 o0,Value.int .i64 o1,Value.int .i64 o2,Value.int .i64 o3,Value.int .i64 o4] 41 (0,0))):=heap_alloc2_new _ _ _;have HLT:Hid (w.heap.size+1<((w.alloc (Obj.cells #[Value.int .i64 n,s] 26)).alloc (Obj.cells #[Value.int .i64 o0,Value.int .i64 o1,Value.int .i64 o2,Value.int .i64 o3,Value.int .i64 o4] 41)).heap.size):=by
  show _<_;simp
 cases h0:inB o1 0 (n - 1)
 ·go_enter Tryz.func110,Tryz.ntmps110
  go_wp2_with(first
   |(go_at_call 136
     refine(zf2 _ _ _ _ hn1 hn2).mono ?_;rintro e w2 ⟨rfl,hb2⟩;have BL:=HB0.trans (hb2.mono HB0.size);obtain⟨k0,k1,k2,k3,k4⟩:=za8 (za1 hb2 HLT.out R0.out);clear hb2)
   |(go_at_call 44;refine(zc1 _ _ _ _).mono ?_;rintro e w' ⟨rfl,rfl⟩)
   |(go_at_call 137;refine(zf1 _ _ _).mono ?_;rintro e w' ⟨rfl,rfl⟩))
  go_ret;exact⟨zb4 (by simp[zt9,h0]),BL⟩
 ·cases h1:inB o2 0 1000
  ·go_enter Tryz.func110,Tryz.ntmps110
   go_wp2_with(first
    |(go_at_call 136
      refine(zf2 _ _ _ _ hn1 hn2).mono ?_;rintro e w2 ⟨rfl,hb2⟩;have BL:=HB0.trans (hb2.mono HB0.size);obtain⟨k0,k1,k2,k3,k4⟩:=za8 (za1 hb2 HLT.out R0.out);clear hb2)
    |(go_at_call 44;refine(zc1 _ _ _ _).mono ?_;rintro e w' ⟨rfl,rfl⟩)
    |(go_at_call 137;refine(zf1 _ _ _).mono ?_;rintro e w' ⟨rfl,rfl⟩))
   go_ret;exact⟨zb4 (by simp[zt9,h0,h1]),BL⟩
  ·cases h2:zg5 o3 o4
   ·go_enter Tryz.func110,Tryz.ntmps110
    go_wp2_with(first
     |(go_at_call 136
       refine(zf2 _ _ _ _ hn1 hn2).mono ?_;rintro e w2 ⟨rfl,hb2⟩;have BL:=HB0.trans (hb2.mono HB0.size);obtain⟨k0,k1,k2,k3,k4⟩:=za8 (za1 hb2 HLT.out R0.out);clear hb2)
     |(go_at_call 44;refine(zc1 _ _ _ _).mono ?_;rintro e w' ⟨rfl,rfl⟩)
     |(go_at_call 137;refine(zf1 _ _ _).mono ?_;rintro e w' ⟨rfl,rfl⟩))
    go_ret;exact⟨zb4 (by simp[zt9,h0,h1,h2]),BL⟩
   ·go_enter Tryz.func110,Tryz.ntmps110
    go_wp2_with(first
     |(go_at_call 136
       refine(zf2 _ _ _ _ hn1 hn2).mono ?_;rintro e w2 ⟨rfl,hb2⟩;have BL:=HB0.trans (hb2.mono HB0.size);obtain⟨k0,k1,k2,k3,k4⟩:=za8 (za1 hb2 HLT.out R0.out);clear hb2)
     |(go_at_call 44;refine(zc1 _ _ _ _).mono ?_;rintro e w' ⟨rfl,rfl⟩)
     |(go_at_call 137;refine(zf1 _ _ _).mono ?_;rintro e w' ⟨rfl,rfl⟩))
    go_ret;exact⟨zb4 (by simp[zt9,h0,h1,h2]),BL⟩
set_option maxHeartbeats 1000000 in
theorem zr4(n fine:Int)(a ao av:Option Addr)(lt cap ko co kv cv:Nat)(zs:List Int)(w:World)(hn1:1<=n)(hn2:n<=16)(hA:za0 w ao zs)(hl:zs.length=ko*6)(hlen:ko<=9223372036854775807):
 Calls Tryz.prog 72 #[.agg #[.int .i64 n,.slice a lt cap,.slice ao ko co,.slice av kv cv,.int .i64 fine]] w fun e w'=>e=.returned (.bool (zo3 n zs ko))/\Below w.heap.size w w':=by
 have HB0:Hid (Below w.heap.size w (w.alloc (Obj.cells #[Value.int .i64 n,Value.slice a lt cap,Value.slice ao ko co,Value.slice av kv cv,Value.int .i64 fine] 30))):=(Below.refl _ _).alloc (Nat.le_refl _) _;have HA:Hid _:=hA;have HL:Hid _:=hl;clear hA hl;by_cases hmany:ko<=12
 ·go_enter Tryz.func72,Tryz.ntmps72
  go_wp2_with fail
  go_loopw[3,13] (fun l t wr=>∃k:Nat,k<=ko/\t=.int .i64 k/\l=.int .i64 (zj8 zs k)/\zq4 n zs k/\Below w.heap.size w wr/\wr.heap[w.heap.size]? =some (.cells #[Value.int .i64 n,Value.slice a lt cap,Value.slice ao ko co,Value.slice av kv cv,Value.int .i64 fine] 30 (0,0))) (fun _ t _=>ko - (intOf t).toNat)
  case atStart=>exact⟨0,Nat.zero_le _,rfl,rfl,z55 _ _,HB0.out,heap_alloc_new _ _⟩
  case round=>
   obtain⟨k,hk,rfl,rfl,ht,hb,g3⟩:=hrel;have hbd:=z56 ht;have HT:Hid _:=ht;obtain⟨c0,c1,c2,c3,c4⟩:=za8 g3;obtain⟨l0,HL0⟩:=nmd (zj8 zs k);rw[HL0.out]at hbd⊢;have G3:Hid _:=g3;have HB:Hid _:=hb;clear ht;by_cases hlt:k<ko
   ·obtain⟨b,off,rfl,hcs⟩:=za0.some (za0.below HA.out hb) (j:=k*6) (by rw[HL.out];omega)
    obtain⟨r0,r1,r2,r3,r4,r5⟩:=zq3 hcs HL.out k hlt;clear hcs g3 hb;obtain⟨o0,H0⟩:=nmd (og6 zs k 0);obtain⟨o1,H1⟩:=nmd (og6 zs k 1);obtain⟨o2,H2⟩:=nmd (og6 zs k 2);obtain⟨o3,H3⟩:=nmd (og6 zs k 3);obtain⟨o4,H4⟩:=nmd (og6 zs k 4);obtain⟨o5,H5⟩:=nmd (og6 zs k 5);rw[H0.out]at r0;rw[H1.out]at r1;rw[H2.out]at r2;rw[H3.out]at r3;rw[H4.out]at r4;rw[H5.out]at r5;have hlb:=block_lt_of_cell r0;simp at hlb;have HB1:Hid (Below w.heap.size w (wr.alloc (Obj.cells #[Value.int .i64 o0,Value.int .i64 o1,Value.int .i64 o2,Value.int .i64 o3,Value.int .i64 o4,Value.int .i64 o5] 95))):=HB.alloc HB.size _;have G31:Hid ((wr.alloc (Obj.cells #[Value.int .i64 o0,Value.int .i64 o1,Value.int .i64 o2,Value.int .i64 o3,Value.int .i64 o4,Value.int .i64 o5] 95)).heap[w.heap.size]? =_):=(heap_alloc_old _ _ (za3 G3.out)).trans G3.out;have G41:Hid ((wr.alloc (Obj.cells #[Value.int .i64 o0,Value.int .i64 o1,Value.int .i64 o2,Value.int .i64 o3,Value.int .i64 o4,Value.int .i64 o5] 95)).heap[wr.heap.size]? =_):=heap_alloc_new _ _;have hlw:=za3 G3.out;cases h1:inB o0 (l0+1) 1000000000
    ·have HN:Hid (zo3 n zs ko=false):=zx5 hlt (zA8 (by rw[H0.out,HL0.out,h1];simp))
     go_wp2_with(first
      |(go_at_call 44;refine(zc1 _ _ _ _).mono ?_;rintro e w' ⟨rfl,rfl⟩))
     go_ret;exact⟨zb4 HN.symm,HB1.out⟩
    ·cases h2:zp7 n o1 o2 o3 o4 o5
     ·have HN:Hid _:=zx5 hlt (zA8 (by rw[H1.out,H2.out,H3.out,H4.out,H5.out,h2];simp))
      go_wp2_with(first
       |(go_at_call 44;refine(zc1 _ _ _ _).mono ?_;rintro e w' ⟨rfl,rfl⟩)
       |(go_at_call 109;refine(z49 n _ _ _ _ _ _ _ _ hn1 hn2).mono ?_;rintro e w2 ⟨rfl,hb2⟩))
      go_ret;exact⟨zb4 HN.symm,HB1.trans (hb2.mono HB1.size)⟩
     ·have HS:Hid (zq4 n zs (k+1)):=by
       have:=yn4 HT.out (by rw[H0.out,HL0.out];exact h1) (by rw[H1.out,H2.out,H3.out,H4.out,H5.out];exact h2);exact zv5 HT.out this.1 this.2
      go_wp2_with(first
       |(go_at_call 44;refine(zc1 _ _ _ _).mono ?_;rintro e w' ⟨rfl,rfl⟩)
       |(go_at_call 109;refine(z49 n _ _ _ _ _ _ _ _ hn1 hn2).mono ?_;rintro e w2 ⟨rfl,hb2⟩;obtain⟨q0,q1,q2,q3,q4,q5⟩:=zf8 (za1 hb2 (za3 G41.out) G41.out)))
      obtain⟨B2,R2⟩:=zx6 hb2 HB1.out G31.out;refine⟨⟨k+1,by omega,by go_num,by show _=Value.int .i64 (og6 zs k 0);rw[H0.out],HS.out,B2,R2⟩,by simp[intOf];omega⟩
   ·have hkx:k=ko:=by omega
    have HN:Hid _:=zJ4 hmany (hkx▸HT.out);clear hkx g3 hb;go_wp2;go_ret;exact⟨zb4 HN.symm,HB.out⟩
 ·have HN:Hid (zo3 n zs ko=false):=zW9 hmany
  go_enter Tryz.func72,Tryz.ntmps72;go_wp2;go_ret;exact⟨zb4 HN.symm,HB0.out⟩
set_option maxHeartbeats 1000000 in
theorem zu6(n fine:Int)(a ao av:Option Addr)(lt cap ko co kv cv:Nat)(zs:List Int)(w:World)(hn1:1<=n)(hn2:n<=16)(hA:za0 w av zs)(hl:zs.length=kv*5)(hlen:kv<=9223372036854775807):
 Calls Tryz.prog 73 #[.agg #[.int .i64 n,.slice a lt cap,.slice ao ko co,.slice av kv cv,.int .i64 fine]] w fun e w'=>e=.returned (.bool (zu0 n zs kv))/\Below w.heap.size w w':=by
 have HB0:Hid (Below w.heap.size w (w.alloc (Obj.cells #[Value.int .i64 n,Value.slice a lt cap,Value.slice ao ko co,Value.slice av kv cv,Value.int .i64 fine] 30))):=(Below.refl _ _).alloc (Nat.le_refl _) _;have HA:Hid _:=hA;have HL:Hid _:=hl;clear hA hl;by_cases hmany:kv<=5
 ·go_enter Tryz.func73,Tryz.ntmps73
  go_wp2_with fail
  go_loopw[3,13] (fun l t wr=>∃k:Nat,k<=kv/\t=.int .i64 k/\l=.int .i64 (zj6 zs k)/\zq5 n zs k/\Below w.heap.size w wr/\wr.heap[w.heap.size]? =some (.cells #[Value.int .i64 n,Value.slice a lt cap,Value.slice ao ko co,Value.slice av kv cv,Value.int .i64 fine] 30 (0,0))) (fun _ t _=>kv - (intOf t).toNat)
  case atStart=>exact⟨0,Nat.zero_le _,rfl,rfl,z50 _ _,HB0.out,heap_alloc_new _ _⟩
  case round=>
   obtain⟨k,hk,rfl,rfl,ht,hb,g3⟩:=hrel;have hbd:=z36 ht;have HT:Hid _:=ht;obtain⟨c0,c1,c2,c3,c4⟩:=za8 g3;obtain⟨l0,HL0⟩:=nmd (zj6 zs k);rw[HL0.out]at hbd⊢;have G3:Hid _:=g3;have HB:Hid _:=hb;clear ht;by_cases hlt:k<kv
   ·obtain⟨b,off,rfl,hcs⟩:=za0.some (za0.below HA.out hb) (j:=k*5) (by rw[HL.out];omega)
    obtain⟨r0,r1,r2,r3,r4⟩:=z48 hcs HL.out k hlt;clear hcs g3 hb;obtain⟨o0,H0⟩:=nmd (og5 zs k 0);obtain⟨o1,H1⟩:=nmd (og5 zs k 1);obtain⟨o2,H2⟩:=nmd (og5 zs k 2);obtain⟨o3,H3⟩:=nmd (og5 zs k 3);obtain⟨o4,H4⟩:=nmd (og5 zs k 4);rw[H0.out]at r0;rw[H1.out]at r1;rw[H2.out]at r2;rw[H3.out]at r3;rw[H4.out]at r4;have hlb:=block_lt_of_cell r0;simp at hlb;have HB1:Hid (Below w.heap.size w (wr.alloc (Obj.cells #[Value.int .i64 o0,Value.int .i64 o1,Value.int .i64 o2,Value.int .i64 o3,Value.int .i64 o4] 41))):=HB.alloc HB.size _;have G31:Hid ((wr.alloc (Obj.cells #[Value.int .i64 o0,Value.int .i64 o1,Value.int .i64 o2,Value.int .i64 o3,Value.int .i64 o4] 41)).heap[w.heap.size]? =_):=(heap_alloc_old _ _ (za3 G3.out)).trans G3.out;have G41:Hid ((wr.alloc (Obj.cells #[Value.int .i64 o0,Value.int .i64 o1,Value.int .i64 o2,Value.int .i64 o3,Value.int .i64 o4] 41)).heap[wr.heap.size]? =_):=heap_alloc_new _ _;have hlw:=za3 G3.out;cases h1:inB o0 (l0+1) 1000000000
    ·have HN:Hid (zu0 n zs kv=false):=zx9 hlt (zA1 (by rw[H0.out,HL0.out,h1];simp))
     go_wp2_with(first
      |(go_at_call 44;refine(zc1 _ _ _ _).mono ?_;rintro e w' ⟨rfl,rfl⟩))
     go_ret;exact⟨zb4 HN.symm,HB1.out⟩
    ·cases h2:zt9 n o1 o2 o3 o4
     ·have HN:Hid _:=zx9 hlt (zA1 (by rw[H1.out,H2.out,H3.out,H4.out,h2];simp))
      go_wp2_with(first
       |(go_at_call 44;refine(zc1 _ _ _ _).mono ?_;rintro e w' ⟨rfl,rfl⟩)
       |(go_at_call 110;refine(zx7 n _ _ _ _ _ _ _ hn1 hn2).mono ?_;rintro e w2 ⟨rfl,hb2⟩))
      go_ret;exact⟨zb4 HN.symm,HB1.trans (hb2.mono HB1.size)⟩
     ·have HS:Hid (zq5 n zs (k+1)):=by
       have:=yn5 HT.out (by rw[H0.out,HL0.out];exact h1) (by rw[H1.out,H2.out,H3.out,H4.out];exact h2);exact zv1 HT.out this.1 this.2
      go_wp2_with(first
       |(go_at_call 44;refine(zc1 _ _ _ _).mono ?_;rintro e w' ⟨rfl,rfl⟩)
       |(go_at_call 110;refine(zx7 n _ _ _ _ _ _ _ hn1 hn2).mono ?_;rintro e w2 ⟨rfl,hb2⟩;obtain⟨q0,q1,q2,q3,q4⟩:=za8 (za1 hb2 (za3 G41.out) G41.out)))
      obtain⟨B2,R2⟩:=zx6 hb2 HB1.out G31.out;refine⟨⟨k+1,by omega,by go_num,by show _=Value.int .i64 (og5 zs k 0);rw[H0.out],HS.out,B2,R2⟩,by simp[intOf];omega⟩
   ·have hkx:k=kv:=by omega
    have HN:Hid _:=zI7 hmany (hkx▸HT.out);clear hkx g3 hb;go_wp2;go_ret;exact⟨zb4 HN.symm,HB.out⟩
 ·have HN:Hid (zu0 n zs kv=false):=zW3 hmany
  go_enter Tryz.func73,Tryz.ntmps73;go_wp2;go_ret;exact⟨zb4 HN.symm,HB0.out⟩
theorem Tryz.info41:(Tryz.prog.info? 147).map (fun i=>(i.zero,i.size))=some (some (.agg (cellsOf zo1)),256):=by kernel_rfl
def GW(w wr:World)(n:Nat)(a:Option Addr)(cap:Nat)(z0:Array Value)(gl:List Int):Prop:=
 wr.heap.size=w.heap.size+3/\Below w.heap.size w wr/\wr.heap[w.heap.size]? =some (.cells #[.int .i64 n,.slice a (n*n) cap] 26 (0,0))∧
 wr.heap[w.heap.size+1]? =some (.cells z0 147 (0,0))/\wr.heap[w.heap.size+1+1]? =some (.cells (cellsOf gl) 147 (0,0))
theorem GW.step{w wr:World}{n:Nat}{a:Option Addr}{cap:Nat}{z0:Array Value}{zs:List Int}{x y:Nat}{t:Int}(h:GW w wr n a cap z0 (zf7 n zs x y))(hx:x<n)(hy:y<n)(hn:n<=16)(ht:zs.getD (x*n+y) 0=t):
 GW w (wr.setCell ⟨w.heap.size+1+1,x*16+y,none⟩ (.int .i64 t)) n a cap z0 (zf7 n zs x (y+1)):=by
 obtain⟨g1,g2,g3,g4,g5⟩:=h;refine⟨by simpa[World.setCell]using g1,g2.setCell (by simp;omega) _,?_,?_,?_⟩
 ·rw[heap_setCell_other _ _ _ _ (by simp;omega)];exact g3
 ·rw[heap_setCell_other _ _ _ _ (by simp)];exact g4
 ·rw[heap_setCell_same _ _ _ _ _ _ g5,z46,<-ht,zL6 n zs x y hx hy hn]
theorem ys1:(Tryz.prog.info? 147).map (·.size)=some 256:=(zero_of_info Tryz.info41).2
theorem zk6{l:List Int}(h:l.length=256):(Tryz.prog.info? 147).map (·.size)=some (cellsOf l).size:=by
 rw[zk1,h];exact ys1
theorem zy1(tmps:Array Value)(W:World)(g:Nat)(l:List Int)(b:Bool)(hl:l.length=256)
 (hp:tmps.getD 2 undef=.pointer (some ⟨g,0,none⟩)) (hb:tmps.getD 3 undef=.bool b) (hg:W.heap[g]? =some (.cells (cellsOf l) 147 (0,0))):
 (results Tryz.f108 tmps).run Tryz.prog W=.ok (.tuple #[.agg (cellsOf l),.bool b]) W:=by
 rw[results_cell_tmp Tryz.results108,hp,hb];simp only[asAddr,Sem.run_pure,Result.andThen_ok,run_loadVar_row W g 147 147 (cellsOf l) (0,0) _ hg Tryz.underlying147 rfl (zk6 hl)]
set_option maxHeartbeats 1000000 in
theorem ya6(n:Nat)(a:Option Addr)(cap:Nat)(zs:List Int)(w:World)(h1:1<=n)(h2:n<=16)(hl:zs.length=n*n)(hA:za0 w a zs):
 Calls Tryz.prog 108 #[.agg #[.int .i64 n,.slice a zs.length cap]] w fun e w'=>e=.returned (.tuple #[.agg (cellsOf (zq2 n zs)),.bool (zm2 n zs)])/\Below w.heap.size w w':=by
 have hz:=(zero_of_info Tryz.info41).1;generalize hz0:cellsOf zo1=z0 at hz;have HZ:Hid _:=hz0;clear hz0;have hnn:=zu2 n n h2 h2;have hd1:inB (n:Int) 1 16=true:=zm0 (by omega);have hnw:wrap64 ((n:Int)*(n:Int))=(n:Int)*(n:Int):=IntWalk.wrap64_in _ (by rw[<-Int.natCast_mul];omega);have HA:Hid (za0 w a zs):=hA;clear hA;rw[hl];have HL:Hid _:=hl;clear hl;go_enter Tryz.func108,Tryz.ntmps108
 go_wp2_with(go_at_call 44;refine(zc1 _ _ _ _).mono ?_;rintro e w' ⟨rfl,rfl⟩)
 go_loopw[26] (fun t wr=>∃x:Nat,x<=n/\t=.int .i64 x/\GW w wr n a cap z0 (zf7 n zs x 0)/\yd9 n zs x 0) (fun t _=>n - (intOf t).toNat)
 case atStart=>
  refine⟨0,Nat.zero_le _,rfl,⟨by simp,?_,?_,?_,?_⟩,ya7 _ _⟩
  ·exact(((Below.refl _ _).alloc (Nat.le_refl _) _).alloc (by simp) _).alloc (by simp;omega) _
  ·rw[heap_alloc_old _ _ (by simp;omega),heap_alloc_old _ _ (by simp)]
   exact heap_alloc_new _ _
  ·rw[heap_alloc_old _ _ (by simp)]
   exact heap_alloc2_new _ _ _
  ·rw[zN8,HZ.out]
   have:=heap_alloc_new ((w.alloc (Obj.cells #[Value.int .i64 n,Value.slice a (n*n) cap] 26)).alloc (Obj.cells z0 147)) (Obj.cells z0 147);simpa using this
 case round=>
  obtain⟨x,hx,rfl,hG,hok⟩:=hrel;obtain⟨g1,g2,g3,g4,g5⟩:=hG;have c0:=cell_of_row _ _ 0 _ _ _ g3;have c1:=cell_of_row _ _ 1 _ _ _ g3;simp at c0 c1;by_cases hlt:x<n
  ·have G4:Hid _:=g4
   have G5:Hid _:=g5;have HO:Hid _:=hok;clear g4 g5 hok
   go_wp2_with fail
   go_loopw[31] (fun t wr=>∃y:Nat,y<=n/\t=.int .i64 y/\GW w wr n a cap z0 (zf7 n zs x y)/\yd9 n zs x y) (fun t _=>n - (intOf t).toNat)
   case atStart=>exact⟨0,Nat.zero_le _,rfl,⟨g1,g2,g3,G4.out,G5.out⟩,HO.out⟩
   case round=>
    clear g1 g2 g3 c0 c1 G4 G5 HO;obtain⟨y,hy,rfl,hG,hok⟩:=hrel;have HG:Hid (GW w wr n a cap z0 (zf7 n zs x y)):=hG;obtain⟨g1,g2,g3,g4,g5⟩:=hG;have c0:=cell_of_row _ _ 0 _ _ _ g3;have c1:=cell_of_row _ _ 1 _ _ _ g3;simp at c0 c1;by_cases hylt:y<n
    ·have hxy:x*n+y<n*n:=by
      have:=Nat.mul_le_mul_right n (show x+1<=n by omega);rw[Nat.add_mul]at this;omega
     obtain⟨bb,off,rfl,hcs⟩:=za0.some (za0.below HA.out g2) (j:=x*n+y) (by rw[HL.out];exact hxy);have ct:=hcs (x*n+y) (by rw[HL.out];exact hxy);clear hcs;generalize htt:zs.getD (x*n+y) 0=t at ct;have HT:Hid _:=htt;clear htt;have cg:=cell_of_row _ _ (x*16+y) _ _ _ g5;rw[zo9 _ _ (by rw[zh3];omega)]at cg;have fg:=frozen_of_row _ _ (x*16+y) _ _ g5;have HO:Hid (yd9 n zs x y):=hok;clear hok;have hwm:wrap64 ((x:Int)*(n:Int))=(x:Int)*(n:Int):=IntWalk.wrap64_in _ (by rw[<-Int.natCast_mul];omega);by_cases hgood:0<=t/\t<=10000/\(x=y->t=0)
     ·have hvd:inB t 0 10000=true:=zm0 (by omega)
      have HS:Hid (yd9 n zs x (y+1)):=ya2 HO.out (by rw[HT.out];exact hgood.1) (by rw[HT.out];exact hgood.2.1) (by rw[HT.out];exact hgood.2.2);clear HO g3 g4 g5 g2 g1;by_cases hxe:x=y
      ·have hne:((x:Int)==(y:Int))=true:=by simp;omega
       have hne':((y:Int)==(y:Int))=true:=by simp
       have ht0:(t !=0)=false:=by simp[hgood.2.2 hxe]
       have HXE:Hid _:=hxe;clear hgood hxe
       go_wp2_with(first
        |(go_at_call 44;refine(zc1 _ _ _ _).mono ?_;rintro e w' ⟨rfl,rfl⟩))
       refine⟨⟨y+1,by omega,by go_num,HG.step hlt hylt h2 HT.out,HS.out⟩,by simp[intOf];omega⟩
      ·have hne:((x:Int)==(y:Int))=false:=by simp;omega
       clear hgood hxe
       go_wp2_with(first
        |(go_at_call 44;refine(zc1 _ _ _ _).mono ?_;rintro e w' ⟨rfl,rfl⟩))
       refine⟨⟨y+1,by omega,by go_num,HG.step hlt hylt h2 HT.out,HS.out⟩,by simp[intOf];omega⟩
     ·have HB:Hid _:=yk0 n zs x y hlt hylt HL.out (by rw[HT.out];exact hgood)
      have hzz:∀(wr:World),wr.heap[w.heap.size+1]? =some (.cells z0 147 (0,0))->True:=fun _ _=>trivial;clear HO g3 g5 g1 hzz;by_cases hv:0<=t/\t<=10000
      ·have hvd:inB t 0 10000=true:=zm0 (by omega)
       have hxe:x=y:=by omega
       have hne:((x:Int)==(y:Int))=true:=by simp;omega
       have ht0:(t !=0)=true:=by simp;omega
       clear hgood hxe hv
       go_wp2_with(first
        |(go_at_call 44;refine(zc1 _ _ _ _).mono ?_;rintro e w' ⟨rfl,rfl⟩)
        |(refine wpList_store_row rfl 147 (.tmp 2) (.tmp 56) rfl (w.heap.size+1) z0 rfl rfl 147 z0 g4 (by rw[<-HZ.out];exact zk6 ze0) rfl (by rw[<-HZ.out];exact zj4 _) ?_))
       refine bodyPost_ret (v:=.tuple #[.agg (cellsOf zo1),.bool false]) (zy1 _ _ (w.heap.size+1) zo1 false ze0 rfl rfl ?_) rfl ⟨?_,?_⟩
       ·rw[HZ.out];exact setRow_heap _ _ _ _ _ _ g4
       ·exact zv2 (by rw[zl3 HB.out]) HB.symm
       ·exact zi2 g2 (by omega) _
      ·have hvd:=zq8 hv
       clear hgood hv
       go_wp2_with(first
        |(go_at_call 44;refine(zc1 _ _ _ _).mono ?_;rintro e w' ⟨rfl,rfl⟩)
        |(refine wpList_store_row rfl 147 (.tmp 2) (.tmp 56) rfl (w.heap.size+1) z0 rfl rfl 147 z0 g4 (by rw[<-HZ.out];exact zk6 ze0) rfl (by rw[<-HZ.out];exact zj4 _) ?_))
       refine bodyPost_ret (v:=.tuple #[.agg (cellsOf zo1),.bool false]) (zy1 _ _ (w.heap.size+1) zo1 false ze0 rfl rfl ?_) rfl ⟨?_,?_⟩
       ·rw[HZ.out];exact setRow_heap _ _ _ _ _ _ g4
       ·exact zv2 (by rw[zl3 HB.out]) HB.symm
       ·exact zi2 g2 (by omega) _
    ·have hye:y=n:=by omega
     have HO:Hid (yd9 n zs (x+1) 0):=yj8 (hye▸hok);have HG':Hid (GW w wr n a cap z0 (zf7 n zs (x+1) 0)):=by
      have:=HG.out;rw[hye,zU3]at this;exact this
     clear hok hye HG g3 g4 g5
     go_wp2_with fail
     refine⟨⟨x+1,by omega,by go_num,HG'.out,HO.out⟩,by simp[intOf];omega⟩
  ·have hge:n<=x:=by omega
   have Hxn:Hid (x=n):=by show x=n;omega
   go_wp2_with(first
    |(refine wpList_load_row rfl 147 (.tmp 4) rfl (w.heap.size+1+1) rfl 147 (cellsOf (zf7 n zs x 0)) (0,0) _ g5 Tryz.underlying147 rfl (zk6 (zh3 _ _ _ _)) ?_)
    |(refine wpList_store_row rfl 147 (.tmp 2) (.tmp 64) rfl (w.heap.size+1) (cellsOf (zf7 n zs x 0)) rfl rfl 147 z0 g4 (zk6 (zh3 _ _ _ _)) (by rw[<-HZ.out,zk1,zk1,ze0,zh3]) (zj4 _) ?_))
   refine bodyPost_ret (v:=.tuple #[.agg (cellsOf (zf7 n zs x 0)),.bool true]) (zy1 _ _ (w.heap.size+1) (zf7 n zs x 0) true (zh3 _ _ _ _) rfl rfl ?_) rfl ⟨?_,?_⟩
   ·exact setRow_heap _ _ _ _ _ _ g4
   ·have e:=Hxn.out
    have hm:=zJ8 n zs h1 h2 HL.out (e▸hok);exact zv2 (by rw[zH7 hm,e]) hm.symm
   ·exact zi2 g2 (by omega) _
set_option maxHeartbeats 1000000 in
theorem yk3(n:Int)(a:Option Addr)(len cap:Nat)(w:World)(hn:¬(1<=n/\n<=16)):
 Calls Tryz.prog 108 #[.agg #[.int .i64 n,.slice a len cap]] w fun e w'=>e=.returned (.tuple #[.agg (cellsOf zo1),.bool false])/\Below w.heap.size w w':=by
 have hz:=(zero_of_info Tryz.info41).1;generalize hz0:cellsOf zo1=z0 at hz;have HZ:Hid _:=hz0;clear hz0;have hd1:=zq8 hn;clear hn;go_enter Tryz.func108,Tryz.ntmps108
 go_wp2_with fail
 refine(zc1 _ _ _ _).mono ?_;rintro e w' ⟨rfl,rfl⟩;have HG4:Hid (((((w.alloc (Obj.cells #[Value.int .i64 n,Value.slice a len cap] 26)).alloc (Obj.cells z0 147)).alloc (Obj.cells z0 147)).heap)[w.heap.size+1]? =some (.cells z0 147 (0,0))):=by
  show _=_;rw[heap_alloc_old _ _ (by simp)];exact heap_alloc2_new _ _ _
 go_wp2_with(
  with_reducible refine wpList_store_row ?_ 147 (.tmp 2) (.tmp 23) ?_ (w.heap.size+1) z0 ?_ ?_ 147 z0 ?_ ?_ ?_ ?_ ?_
  ·rfl
  ·rfl
  ·rfl
  ·rfl
  ·exact HG4.out
  ·rw[<-HZ.out];exact zk6 ze0
  ·rfl
  ·rw[<-HZ.out];exact zj4 _)
 refine bodyPost_ret (v:=.tuple #[.agg (cellsOf zo1),.bool false]) (zy1 _ _ (w.heap.size+1) zo1 false ze0 rfl rfl ?_) rfl ⟨by rw[HZ.out],?_⟩
 ·rw[HZ.out];exact setRow_heap _ _ _ _ _ _ HG4.out
 ·exact zi2 ((((Below.refl _ _).alloc (Nat.le_refl _) _).alloc (by simp) _).alloc (by simp;omega) _) (by omega) _
set_option maxHeartbeats 1000000 in
theorem yi4(n:Nat)(a:Option Addr)(len cap:Nat)(w:World)(h1:1<=n)(h2:n<=16)(hl:len≠n*n):
 Calls Tryz.prog 108 #[.agg #[.int .i64 n,.slice a len cap]] w fun e w'=>e=.returned (.tuple #[.agg (cellsOf zo1),.bool false])/\Below w.heap.size w w':=by
 have hz:=(zero_of_info Tryz.info41).1;generalize hz0:cellsOf zo1=z0 at hz;have HZ:Hid _:=hz0;clear hz0;have hnn:=zu2 n n h2 h2;have hd1:inB (n:Int) 1 16=true:=zm0 (by omega);have hnw:wrap64 ((n:Int)*(n:Int))=(n:Int)*(n:Int):=IntWalk.wrap64_in _ (by rw[<-Int.natCast_mul];omega);have hne:((len:Int)!=(n:Int)*(n:Int))=true:=by rw[bne_iff_ne,<-Int.natCast_mul];omega
 have G4:((((w.alloc (Obj.cells #[Value.int .i64 n,.slice a len cap] 26)).alloc (Obj.cells z0 147)).alloc (Obj.cells z0 147)).heap)[w.heap.size+1]? =some (.cells z0 147 (0,0)):=by
  rw[heap_alloc_old _ _ (by simp)];exact heap_alloc2_new _ _ _
 have HG4:Hid _:=G4;clear G4 hl;go_enter Tryz.func108,Tryz.ntmps108
 go_wp2_with(first
  |(go_at_call 44;refine(zc1 _ _ _ _).mono ?_;rintro e w' ⟨rfl,rfl⟩)
  |(refine wpList_store_row rfl 147 (.tmp 2) (.tmp 23) rfl (w.heap.size+1) z0 rfl rfl 147 z0 HG4.out (by rw[<-HZ.out];exact zk6 ze0) rfl (by rw[<-HZ.out];exact zj4 _) ?_))
 refine bodyPost_ret (v:=.tuple #[.agg (cellsOf zo1),.bool false]) (zy1 _ _ (w.heap.size+1) zo1 false ze0 rfl rfl ?_) rfl ⟨by rw[HZ.out],?_⟩
 ·rw[HZ.out];exact setRow_heap _ _ _ _ _ _ HG4.out
 ·exact zi2 ((((Below.refl _ _).alloc (Nat.le_refl _) _).alloc (by simp) _).alloc (by simp;omega) _) (by omega) _
theorem yj9(n:Int)(a:Option Addr)(cap:Nat)(zs:List Int)(w:World)(hA:za0 w a zs):
 Calls Tryz.prog 108 #[.agg #[.int .i64 n,.slice a zs.length cap]] w fun e w'=>e=.returned (.tuple #[.agg (cellsOf (zq2 n zs)),.bool (zm2 n zs)])/\Below w.heap.size w w':=by
 by_cases hn:1<=n/\n<=16
 ·obtain⟨m,rfl⟩:=Int.eq_ofNat_of_zero_le (show 0<=n by omega)
  by_cases hl:zs.length=m*m
  ·exact ya6 m a cap zs w (by omega) (by omega) hl hA
  ·have hm:zm2 (m:Int) zs=false:=zx2 fun h=>hl (by have:=h.2.2.1;rw[<-Int.natCast_mul]at this;omega)
   rw[zl3 hm,hm];exact yi4 m a zs.length cap w (by omega) (by omega) hl
 ·have hm:zm2 n zs=false:=zx2 fun h=>hn ⟨h.1,h.2.1⟩
  rw[zl3 hm,hm];exact yk3 n _ _ _ w hn
set_option maxHeartbeats 400000 in
theorem zp6(n:Int)(a:Option Addr)(cap:Nat)(zs:List Int)(w:World)(hA:za0 w a zs):
 Calls Tryz.prog 71 #[.agg #[.int .i64 n,.slice a zs.length cap]] w fun e w'=>e=.returned (.bool (zm2 n zs))/\Below w.heap.size w w':=by
 have HB0:Hid (Below w.heap.size w (w.alloc (Obj.cells #[Value.int .i64 n,Value.slice a zs.length cap] 26))):=
  (Below.refl _ _).alloc (Nat.le_refl _) _
 have HA:Hid (za0 w a zs):=hA;clear hA;have hz:=(zero_of_info Tryz.info41).1;go_enter Tryz.func71,Tryz.ntmps71
 go_wp2_with fail
 refine(yj9 n a cap zs _ (HA.below HB0.out)).mono ?_;rintro e w1 ⟨rfl,hb⟩;have HB1:Hid _:=hb;clear hb;generalize hz0:cellsOf zo1=z0 at hz;have HZ:Hid _:=hz0;clear hz0;generalize hgr:cellsOf (zq2 n zs)=gr;have HGR:Hid _:=hgr;clear hgr
 go_wp2_with(
  with_reducible refine wpList_store_row ?_ 147 (.tmp 3) (.tmp 8) ?_ w1.heap.size gr ?_ ?_ 147 z0 ?_ ?_ ?_ ?_ ?_
  ·rfl
  ·rfl
  ·rfl
  ·rfl
  ·exact heap_alloc_new _ _
  ·rw[<-HGR.out];exact zk6 (zu7 _ _)
  ·rw[<-HZ.out,<-HGR.out,zk1,zk1,ze0,zu7]
  ·rw[<-HGR.out];exact zj4 _)
 go_ret;refine⟨rfl,zi2 ((HB0.trans (HB1.mono (by simp<;>omega))).alloc ?_ _) ?_ _⟩
 all_goals
  have:=HB1.size;simp at this;omega
set_option maxHeartbeats 1000000 in
theorem z05(n fine:Int)(a ao av:Option Addr)(cap ko co kv cv:Nat)(zs os vs:List Int)(w:World)(hA:za0 w a zs)(hO:za0 w ao os)(hV:za0 w av vs)(hlo:os.length=ko*6)(hlv:vs.length=kv*5)(hko:ko<=9223372036854775807)(hkv:kv<=9223372036854775807):
 Calls Tryz.prog 29 #[.agg #[.int .i64 n,.slice a zs.length cap,.slice ao ko co,.slice av kv cv,.int .i64 fine]] w fun e w'=>e=.returned (.bool (zb8 n zs os vs ko kv fine))/\Below w.heap.size w w':=by
 have HB0:Hid (Below w.heap.size w (w.alloc (Obj.cells #[Value.int .i64 n,Value.slice a zs.length cap,Value.slice ao ko co,Value.slice av kv cv,Value.int .i64 fine] 30))):=(Below.refl _ _).alloc (Nat.le_refl _) _;have HA:Hid (za0 w a zs):=hA;have HO:Hid (za0 w ao os):=hO;have HV:Hid (za0 w av vs):=hV;have HLO:Hid _:=hlo;have HLV:Hid _:=hlv;clear hA hO hV hlo hlv;cases h1:zm2 n zs
 ·have HM:Hid _:=h1
  have HC:Hid (zb8 n zs os vs ko kv fine=false):=by show _=_;simp[zb8,h1]
  clear h1;go_enter Tryz.func29,Tryz.ntmps29
  go_wp2_with fail
  refine(zp6 n a cap zs _ (HA.below HB0.out)).mono ?_;rintro e w1 ⟨rfl,hb⟩;rw[HM.out];obtain⟨b1,r1⟩:=yi8 hb;clear hb;go_wp2;go_ret;exact⟨zb4 HC.symm,b1⟩
 ·obtain⟨hn1,hn2,_,_⟩:=zi7 h1
  have HM:Hid _:=h1;cases h2:zo3 n os ko
  ·have HC:Hid (zb8 n zs os vs ko kv fine=false):=by show _=_;simp[zb8,h1,h2]
   have HO2:Hid _:=h2;clear h1 h2;go_enter Tryz.func29,Tryz.ntmps29
   go_wp2_with fail
   refine(zp6 n a cap zs _ (HA.below HB0.out)).mono ?_;rintro e w1 ⟨rfl,hb⟩;rw[HM.out];obtain⟨b1,r1⟩:=yi8 hb;obtain⟨c0,c1,c2,c3,c4⟩:=za8 r1;have B1:Hid _:=b1;clear hb b1 r1
   go_wp2_with fail
   refine(zr4 n fine a ao av _ _ _ _ _ _ os _ hn1 hn2 (HO.below B1.out) HLO.out hko).mono ?_;rintro e w2 ⟨rfl,hb⟩;rw[HO2.out];go_wp2;go_ret;exact⟨zb4 HC.symm,B1.trans (hb.mono B1.size)⟩
  ·have HO2:Hid _:=h2
   cases h3:zu0 n vs kv
   ·have HC:Hid (zb8 n zs os vs ko kv fine=false):=by show _=_;simp[zb8,h1,h2,h3]
    have HV2:Hid _:=h3;clear h1 h2 h3;go_enter Tryz.func29,Tryz.ntmps29
    go_wp2_with fail
    refine(zp6 n a cap zs _ (HA.below HB0.out)).mono ?_;rintro e w1 ⟨rfl,hb⟩;rw[HM.out];obtain⟨b1,r1⟩:=yi8 hb;obtain⟨c0,c1,c2,c3,c4⟩:=za8 r1;have B1:Hid _:=b1;have R1:Hid _:=r1;clear hb b1 r1
    go_wp2_with fail
    refine(zr4 n fine a ao av _ _ _ _ _ _ os _ hn1 hn2 (HO.below B1.out) HLO.out hko).mono ?_;rintro e w2 ⟨rfl,hb⟩;rw[HO2.out];obtain⟨b2,r2⟩:=zx6 hb B1.out R1.out;clear c0 c1 c2 c3 c4;obtain⟨c0,c1,c2,c3,c4⟩:=za8 r2;have B2:Hid _:=b2;clear hb b2 r2
    go_wp2_with fail
    refine(zu6 n fine a ao av _ _ _ _ _ _ vs _ hn1 hn2 (HV.below B2.out) HLV.out hkv).mono ?_;rintro e w3 ⟨rfl,hb⟩;rw[HV2.out];go_wp2;go_ret;exact⟨zb4 HC.symm,B2.trans (hb.mono B2.size)⟩
   ·have HC:Hid (zb8 n zs os vs ko kv fine=inB fine 0 1000000):=by show _=_;simp[zb8,h1,h2,h3]
    have HV2:Hid _:=h3;clear h1 h2 h3;go_enter Tryz.func29,Tryz.ntmps29
    go_wp2_with fail
    refine(zp6 n a cap zs _ (HA.below HB0.out)).mono ?_;rintro e w1 ⟨rfl,hb⟩;rw[HM.out];obtain⟨b1,r1⟩:=yi8 hb;obtain⟨c0,c1,c2,c3,c4⟩:=za8 r1;have B1:Hid _:=b1;have R1:Hid _:=r1;clear hb b1 r1
    go_wp2_with fail
    refine(zr4 n fine a ao av _ _ _ _ _ _ os _ hn1 hn2 (HO.below B1.out) HLO.out hko).mono ?_;rintro e w2 ⟨rfl,hb⟩;rw[HO2.out];obtain⟨b2,r2⟩:=zx6 hb B1.out R1.out;clear c0 c1 c2 c3 c4;obtain⟨c0,c1,c2,c3,c4⟩:=za8 r2;have B2:Hid _:=b2;have R2:Hid _:=r2;clear hb b2 r2
    go_wp2_with fail
    refine(zu6 n fine a ao av _ _ _ _ _ _ vs _ hn1 hn2 (HV.below B2.out) HLV.out hkv).mono ?_;rintro e w3 ⟨rfl,hb⟩;rw[HV2.out];obtain⟨b3,r3⟩:=zx6 hb B2.out R2.out;clear c0 c1 c2 c3 c4;obtain⟨c0,c1,c2,c3,c4⟩:=za8 r3;clear hb r3
    go_wp2_with(go_at_call 44;refine(zc1 _ _ _ _).mono ?_;rintro e w' ⟨rfl,rfl⟩)
    go_ret;exact⟨zb4 HC.symm,b3⟩
structure PS where
 f:Bool
 i:Nat
 v:Int
def ps0:PS:=⟨false,0,0⟩
def z83(ok:Nat->Bool)(dl:Nat->Int)(s:PS)(k:Nat):PS:=if ok k=true/\(s.f=false∨dl k<s.v)then⟨true,k,dl k⟩else s
def pst(ok:Nat->Bool)(dl:Nat->Int):Nat->PS
 |0=>ps0
 |k+1=>z83 ok dl (pst ok dl k) k
theorem zF7(ok:Nat->Bool)(dl:Nat->Int)(k:Nat):pst ok dl (k+1)=z83 ok dl (pst ok dl k) k:=rfl
theorem zJ1{ok:Nat->Bool}{dl:Nat->Int}{s:PS}{k:Nat}(h1:ok k=true)(h2:s.f=false):z83 ok dl s k=⟨true,k,dl k⟩:=if_pos ⟨h1,.inl h2⟩
theorem zH9{ok:Nat->Bool}{dl:Nat->Int}{s:PS}{k:Nat}(h1:ok k=true)(h2:dl k<s.v):z83 ok dl s k=⟨true,k,dl k⟩:=if_pos ⟨h1,.inr h2⟩
theorem z78{ok:Nat->Bool}{dl:Nat->Int}{s:PS}{k:Nat}(h1:ok k=false):z83 ok dl s k=s:=if_neg fun h=>by have:=h.1;rw[h1]at this;cases this
theorem zH5{ok:Nat->Bool}{dl:Nat->Int}{s:PS}{k:Nat}(h1:s.f=true)(h2:¬dl k<s.v):z83 ok dl s k=s:=if_neg fun h=>by
 rcases h.2 with h|h
 ·rw[h1]at h;cases h
 ·exact h2 h
theorem zS8{ok:Nat->Bool}{dl:Nat->Int}(h:∀k,ok k=false):∀m,pst ok dl m=ps0
 |0=>rfl
 |m+1=>by rw[zF7,zS8 h m,z78 (h m)]
theorem zF6{ok:Nat->Bool}{dl:Nat->Int}:∀m,(pst ok dl m).f=true->ok (pst ok dl m).i=true/\dl (pst ok dl m).i=(pst ok dl m).v/\(pst ok dl m).i<m
 |0=>fun h=>by cases h
 |m+1=>fun h=>by
  rw[zF7]at h⊢;unfold z83 at h⊢;split
  ·rename_i hc
   exact⟨hc.1,rfl,Nat.lt_succ_self m⟩
  ·rename_i hc
   rw[if_neg hc]at h;obtain⟨h1,h2,h3⟩:=zF6 m h;exact⟨h1,h2,by omega⟩
set_option maxHeartbeats 400000 in
theorem z12(a b:Option Addr)(c1 c2:Nat)(xs ys:List Int)(w:World)(hA:za0 w a xs)(hB:za0 w b ys)(hl1:xs.length<=1125899906842624):
 Calls Tryz.prog 27 #[.slice a xs.length c1,.slice b ys.length c2] w fun e w'=>e=.returned (.bool (decide (xs=ys)))/\Below w.heap.size w w':=by
 by_cases hl:xs.length=ys.length
 ·have HA:Hid _:=hA
  have HB:Hid _:=hB;have HL:Hid _:=hl;rw[hl]at hl1⊢;clear hA hB hl;go_enter Tryz.func27,Tryz.ntmps27
  go_wp2_with fail
  go_loopw[5] (fun t wr=>∃k:Nat,k<=ys.length/\t=.int .i64 k/\Below w.heap.size w wr/\xs.take k=ys.take k) (fun t _=>ys.length - (intOf t).toNat)
  case atStart=>exact⟨0,Nat.zero_le _,rfl,Below.refl _ _,by simp⟩
  case round=>
   obtain⟨k,hk,rfl,hb,he⟩:=hrel;have HE:Hid _:=he;clear he;by_cases hlt:k<ys.length
   ·have hxk:k<xs.length:=by rw[HL.out];exact hlt
    obtain⟨b1,o1,rfl,hc1⟩:=za0.some (za0.below HA.out hb) hxk;obtain⟨b2,o2,rfl,hc2⟩:=za0.some (za0.below HB.out hb) hlt;have ct1:=hc1 k hxk;have ct2:=hc2 k hlt;clear hc1 hc2;generalize ht1:xs.getD k 0=t1 at ct1;generalize ht2:ys.getD k 0=t2 at ct2;have H1:Hid _:=ht1;have H2:Hid _:=ht2;clear ht1 ht2;by_cases ht:t1=t2
    ·have htb:(t1 !=t2)=false:=by simp[ht]
     have HT:Hid _:=ht;clear ht;go_wp2
     go_quiet (fail)
     go_wp2;refine⟨⟨k+1,by omega,by go_num,below_drewN hb _,?_⟩,by simp[intOf];omega⟩;rw[ze2 xs k hxk,ze2 ys k hlt,HE.out,H1.out,H2.out,HT.out]
    ·have htb:(t1 !=t2)=true:=by simp[ht]
     have HN:Hid (decide (xs=ys)=false):=by
      apply decide_eq_false;intro e;exact ht (by rw[<-H1.out,<-H2.out,e])
     clear ht;go_wp2
     go_quiet (fail)
     go_wp2;go_ret;exact⟨zb4 HN.symm,below_drewN hb _⟩
   ·have HN:Hid (decide (xs=ys)=true):=by
     apply decide_eq_true;have h:=HE.out
     rwa [List.take_of_length_le (by rw[HL.out];omega),List.take_of_length_le (by omega)]at h
    go_wp2;go_ret;exact⟨zb4 HN.symm,hb⟩
 ·have HN:Hid (decide (xs=ys)=false):=decide_eq_false fun e=>hl (by rw[e])
  have hne:((xs.length:Int)!=(ys.length:Int))=true:=by rw[bne_iff_ne];omega
  clear hA hB hl;go_enter Tryz.func27,Tryz.ntmps27;go_wp2;go_ret;exact⟨zb4 HN.symm,Below.refl _ _⟩
set_option maxHeartbeats 1000000 in
theorem z90(v:Int)(a b:Option Addr)(c1 c2:Nat)(xs:List Int)(w:World)(hA:za0 w a xs)(hB:za0 w b xs)(hl:xs.length<=1000):
 Calls Tryz.prog 28 #[.agg #[.int .i64 v,.slice a xs.length c1],.agg #[.int .i64 v,.slice b xs.length c2]] w fun e w'=>e=.returned (.bool true)/\Below w.heap.size w w':=by
 have B0:Hid (Below w.heap.size w ((w.alloc (Obj.cells #[Value.int .i64 v,Value.slice a xs.length c1] 43)).alloc (Obj.cells #[Value.int .i64 v,Value.slice b xs.length c2] 43))):=((Below.refl _ _).alloc (Nat.le_refl _) _).alloc (by simp) _;have P0:Hid (((w.alloc (Obj.cells #[Value.int .i64 v,Value.slice a xs.length c1] 43)).alloc (Obj.cells #[Value.int .i64 v,Value.slice b xs.length c2] 43)).heap[w.heap.size]? =some (.cells #[Value.int .i64 v,Value.slice a xs.length c1] 43 (0,0))):=heap_alloc2_old _ _ _;have Q0:Hid (((w.alloc (Obj.cells #[Value.int .i64 v,Value.slice a xs.length c1] 43)).alloc (Obj.cells #[Value.int .i64 v,Value.slice b xs.length c2] 43)).heap[w.heap.size+1]? =some (.cells #[Value.int .i64 v,Value.slice b xs.length c2] 43 (0,0))):=heap_alloc2_new _ _ _;have HA:Hid (za0 w a xs):=hA;have HB:Hid (za0 w b xs):=hB;clear hA hB;have hve:(v==v)=true:=by simp
 have SAM:Hid (∀W,za0 W a xs->za0 W b xs->Calls Tryz.prog 27 #[.slice a xs.length c1,.slice b xs.length c2] W fun e w'=>e=.returned (.bool true)/\Below W.heap.size W w'):=fun W h1 h2=>by
  have:=z12 a b c1 c2 xs xs W h1 h2 (by omega);rw[show decide (xs=xs)=true by simp]at this;exact this
 go_enter Tryz.func28,Tryz.ntmps28;obtain⟨p0,p1⟩:=za2 P0.out;obtain⟨q0,q1⟩:=za2 Q0.out;obtain⟨m,HM⟩:=nmd xs.length;rw[HM.out]at B0 p0 p1 q0 q1 SAM⊢
 go_wp2_with fail
 generalize(w.alloc (Obj.cells #[Value.int .i64 v,Value.slice a m c1] 43)).alloc (Obj.cells #[Value.int .i64 v,Value.slice b m c2] 43)=W0 at*
 first
  |(refine(SAM.out _ (HA.below B0.out) (HB.below B0.out)).mono ?_
    rintro e w1 ⟨rfl,hb⟩;have B1:Hid _:=B0.trans (hb.mono B0.size);clear hb;go_wp2;go_ret;exact⟨by first|rfl|simp,B1.out⟩)
  |(have e0:=fun s:Kin W0=>s.cell p0
    have e1:=fun s:Kin W0=>s.cell p1;have e2:=fun s:Kin W0=>s.cell q0;have e3:=fun s:Kin W0=>s.cell q1;have hkin:=Kin.there W0;refine zb2 (by kernel_rfl) (by kernel_rfl) ?_
    repeat(go_big_quiet_step ((go_at_call 27;with_reducible exact Kin.call (SAM.out _ ((HA.below B0.out).below (Kin.below _)) ((HB.below B0.out).below (Kin.below _))))))
    refine wpQuiet_nil ?_;rintro _ ⟨s,rfl⟩;go_wp2;go_ret;exact⟨by first|rfl|simp,B0.trans (s.below.mono B0.size)⟩)
end Go.Proofs.YtjobhigmdaiinaaGreat
