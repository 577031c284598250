import Derived.Test.YtkchnomkiboihaaGreatPack7
import Derived.Test.YtkchnomkiboihaaGreatDrawRoute
set_option linter.unusedSimpArgs false
set_option maxHeartbeats 40000000
set_option maxRecDepth 10000
namespace Go.Proofs.YtkchnomkiboihaaGreat
open RowKit renaming Below→Za,Hid→Zb
open Go renaming Calls→Zc,Addr→Zd
theorem qF:type_of% @Go.wpAnyH_done:=@Go.wpAnyH_done
theorem qG:type_of% @Go.wp_region_held_drew:=@Go.wp_region_held_drew
theorem qH:type_of% @List.length_eq_zero_iff:=@List.length_eq_zero_iff
theorem qI:type_of% @Nat.lt_irrefl:=@Nat.lt_irrefl
open Value renaming slice→za,int→ze,oneCell'→zq
open IntKind renaming i64→zd
open Obj renaming cells→zg
open Proofs.Tryz renaming prog→zh
open Go renaming World→zi
open World renaming ownsRow→zk,cell?→zC
open Go.RowKit
open Q
structure PD(w W:zi)(q:Nat)(a:Option Zd)(bs:List Int)(c:Nat)(cs:Array Value)(kp:Nat)(rs ls:Value)(R:List RT)(L:List Int):Prop where
 gr:w.grownBy W (some q)
 r0:∃p,RD w q a bs c p
 r:∃p,RD W q a bs c p
 bc:W.heap[w.heap.size]? =some (.cells cs 30 (0,0))
 b0:W.heap[w.heap.size+1]? =some (zg #[za none 0 0,za none 0 0] 33 (0,0))
 bp:W.heap[kp]? =some (zg #[rs,ls] 33 (0,0))
 hk:w.heap.size+1<kp
 po:PO W (w.heap.size+2) rs R ls L
section
variable {w W W':zi} {q:Nat} {a:Option Zd} {bs:List Int} {c:Nat} {cs:Array Value} {kp:Nat} {rs ls jm gG:Value} {R R':List RT} {L L':List Int}
theorem PD.lt(h:PD w W q a bs c cs kp rs ls R L):q<w.heap.size:=by
 obtain⟨p,hr⟩:=h.r0;exact za2 hr.1
theorem PD.size(h:PD w W q a bs c cs kp rs ls R L):w.heap.size+3<=W.heap.size:=by
 have:=za2 h.bp;have:=h.hk;omega
theorem PD.read{p:Nat}(h:PD w W q a bs c cs kp rs ls R L)(hr:RD W' q a bs c p)(hg:W.grownBy W' (some q)):PD w W' q a bs c cs kp rs ls R L:=by
 have hl:=h.lt;have hk:=h.hk;exact⟨zb4 h.gr hg,h.r0,⟨p,hr⟩,za6 hg h.bc (fun e=>by injection e with e;omega),za6 hg h.b0 (fun e=>by injection e with e;omega),za6 hg h.bp (fun e=>by injection e with e;omega),h.hk,h.po.other hg (.inl (by omega))⟩
theorem PD.below(h:PD w W q a bs c cs kp rs ls R L)(hb:Za W.heap.size W W'):PD w W' q a bs c cs kp rs ls R L:=by
 obtain⟨p,hr⟩:=h.r;exact⟨zp9 h.gr hb,h.r0,⟨p,hr.below hb⟩,za0 hb (za2 h.bc) h.bc,za0 hb (za2 h.b0) h.b0,za0 hb (za2 h.bp) h.bp,h.hk,h.po.below hb⟩
theorem PD.ints{g:Nat}{zs:List Int}(h:PD w W q a bs c cs kp rs ls R L)(hz:za3 w (some ⟨g,0,none⟩) zs)(aq:g≠q):za3 W (some ⟨g,0,none⟩) zs:=zg0 hz h.gr aq
theorem PD.put{i:Nat}{row:Option Nat}{u:Value}(h:PD w W q a bs c cs kp rs ls R L)(hg:W.grownBy W' row)(aM:∀k,row=some k->w.heap.size+2<=k/\k≠kp)(aJ:(#[rs,ls]:Array Value).setIfInBounds i u= #[jm,gG])(hp:PO W' (w.heap.size+2) jm R' gG L'):PD w (W'.setCell ⟨kp,i,none⟩ u) q a bs c cs kp jm gG R' L':=by
 obtain⟨p,hr⟩:=h.r;obtain⟨p0,cO⟩:=h.r0;have hk:=h.hk;have hs:=zb3 W' kp i u;have bh:∀b,some kp=some b->w.heap.size<=b:=fun b e=>by injection e with e;omega
 have ld:∀b,row=some b->w.heap.size<=b:=fun b e=>by have:=(aM b e).1;omega
 have eT:=za6 hg h.bp (fun e=>(aM _ e.symm).2 rfl);refine⟨zd2 (zd2 h.gr hg ld) hs bh,h.r0,⟨p,RD.kept2 cO (RD.kept2 cO hr hg ld) hs bh⟩,za6 hs (za6 hg h.bc (fun e=>by have:=(aM _ e.symm).1;omega)) (fun e=>by injection e with e;omega),za6 hs (za6 hg h.b0 (fun e=>by have:=(aM _ e.symm).1;omega)) (fun e=>by injection e with e;omega),?_,h.hk,hp.box eT⟩;rw[<-aJ];exact ze1 (i:=i) u eT
theorem PD.rowR'(h:PD w W q a bs c cs kp rs ls R L):∀k,rs.ownBlock=some k->w.heap.size+2<=k/\k≠kp:=fun k e=>⟨(h.po.r.lt k e).1,fun e2=>zg4 h.po.r h.bp (by decide) (by rw[e,e2])⟩
theorem PD.rowL'(h:PD w W q a bs c cs kp rs ls R L):∀k,ls.ownBlock=some k->w.heap.size+2<=k/\k≠kp:=fun k e=>⟨(h.po.l.lt k e).1,fun e2=>zg4 h.po.l h.bp (by decide) (by rw[e,e2])⟩
theorem PD.set2(h:PD w W q a bs c cs kp rs ls R L)(hp:PO W (w.heap.size+2) jm R' gG L'):PD w ((W.setCell ⟨kp,0,none⟩ jm).setCell ⟨kp,1,none⟩ gG) q a bs c cs kp jm gG R' L':=by
 have oF:W.grownBy W none:=⟨rfl,rfl,rfl,zT _,fun _ _ _=>rfl⟩;obtain⟨p,hr⟩:=h.r;obtain⟨p0,cO⟩:=h.r0;have hk:=h.hk;have hs:W.grownBy ((W.setCell ⟨kp,0,none⟩ jm).setCell ⟨kp,1,none⟩ gG) (some kp):=zb4 (zb3 _ _ _ _) (zb3 _ _ _ _);have bh:∀b,some kp=some b->w.heap.size<=b:=fun b e=>by injection e with e;omega
 refine⟨zd2 h.gr hs bh,h.r0,⟨p,RD.kept2 cO hr hs bh⟩,za6 hs h.bc (fun e=>by injection e with e;omega),za6 hs h.b0 (fun e=>by injection e with e;omega),?_,h.hk,(hp.box h.bp).box (by
  have:=ze1 (i:=0) jm h.bp;simpa using this)⟩
 have:=ze1 (i:=1) gG (ze1 (i:=0) jm h.bp);simpa using this
theorem PD.setL(h:PD w W q a bs c cs kp rs ls R L)(hl:W.ownsRow (w.heap.size+2) 2 1 gG L'.length (L'.map (ze zd))):PD w (W.setCell ⟨kp,1,none⟩ gG) q a bs c cs kp rs gG R L':=
 h.put (i:=1) (u:=gG) (row:=none) (W':=W) ⟨rfl,rfl,rfl,zT _,fun _ _ _=>rfl⟩ (fun k e=>by cases e) rfl ⟨h.po.r,h.po.s,hl⟩
end
theorem z84(ra la:Option Zd)(rc ln lc nr:Nat)(R:List RT)(ab:Int)(x:RT)(w:zi)(hR:za9 w ra R)(hn:R.length<=1048576)(ny:R.length=nr)(hx:zc7 R ab=x):
 Zc zh 70 #[.agg #[za ra nr rc,za la ln lc],ze zd ab] w fun e w'=>e=.returned (.agg #[ze zd ab,za x.a x.ids.length x.c])/\Za w.heap.size w w':=by
 subst ny hx;exact z24 ra la rc ln lc R ab w hR hn
theorem yi8(l:List Int)(k:Nat)(x:Int)(hk:k<=l.length):(insL l k x).length=l.length+1:=by simp[insL];omega
theorem yj1{l:List Int}{k:Nat}{x:Int}:∀z∈insL l k x,z∈l∨z=x:=fun z hz=>by
 unfold insL at hz;rcases yj.1 hz with h|h
 ·exact .inl (List.mem_of_mem_take h)
 ·rcases yx.1 h with h|h
  ·exact .inr h
  ·exact .inl (yQ h)
theorem zw5(n fi ab:Int)(g zl cg go ko co gv kv cv:Nat)(zs O V:List Int)(x:RT)(W:zi)(hA:za3 W (some ⟨g,0,none⟩) zs)(hO:za3 W (some ⟨go,0,none⟩) O)(hV:za3 W (some ⟨gv,0,none⟩) V)(aN:zs.length=zl)(an:O.length=ko*6)(au:V.length=kv*5)(cN:ko<=12)(sq:kv<=5)(hx:(x.a=none/\x.ids=[]/\x.c=0)∨((∃gx,x.a=some ⟨gx,0,none⟩)/\za3 W x.a x.ids/\x.ids.length<=x.c))(h9:x.ids.length<=100)(id y:Int)(hy:0<=y/\y<=(x.ids.length:Int)):
 Zc zh 71 #[.agg #[ze zd n,za (some ⟨g,0,none⟩) zl cg,za (some ⟨go,0,none⟩) ko co,za (some ⟨gv,0,none⟩) kv cv,ze zd fi],.agg #[ze zd ab,za x.a x.ids.length x.c],ze zd id,ze zd y] W (fun e w'=>∃ch D xs,ye5 W ch ab D xs e w'/\(ch=true->xs.length=x.ids.length+1/\∀z∈xs,z∈x.ids∨z=id)):=by
 subst aN;obtain⟨xv,xa,cF,xc⟩:=x;simp only at hx h9 hy⊢;rcases hx with⟨rfl,rfl,rfl⟩|⟨⟨gx,rfl⟩,hI,hc⟩
 ·refine(zo9 n fi ab _ _ _ cg ko co kv cv zs O V W hA hO hV an au (by omega) (by omega) id y _ rfl _ rfl _ rfl).mono ?_
  intro e w' h;refine⟨_,_,_,h,fun gm=> ?_⟩;rw[gm];exact⟨yi8 _ _ _ (by simp at hy⊢;omega),yj1⟩
 ·refine(zp1 n fi ab _ _ _ gx 0 cg ko co kv cv xc zs O V cF W hA hO hV hI an au (by omega) (by omega) (by omega) hc id y _ rfl _ rfl _ rfl).mono ?_
  intro e w' h;refine⟨_,_,_,h,fun gm=> ?_⟩;rw[gm];exact⟨yi8 _ _ _ (by omega),yj1⟩
section
variable {w W W':zi} {q:Nat} {a:Option Zd} {bs:List Int} {c:Nat} {n fi:Int} {g zl cg go ko co gv kv cv:Nat} {kp:Nat} {rs ls:Value} {R:List RT} {L:List Int}
theorem PD.keepL{cs:Array Value}{gl m cl:Nat}{f:Nat->Int}(h:PD w W q a bs c cs kp rs (za (some ⟨gl,0,none⟩) m cl) R L)(hm:L.length=m)(hf:∀y,L.getD y 0=f y):W.cell? ⟨kp,1,none⟩=some (za (some ⟨gl,0,none⟩) m cl)/\∀y:Nat,y<m->W.cell? ⟨gl,y,none⟩=some (ze zd (f y)):=by
 refine⟨(za1 h.bp).2,fun y hy=> ?_⟩;have hl:=h.po.l;rw[hm]at hl;obtain⟨b,off,e,hc⟩:=zd4 hl y (by rw[hm];exact hy);simp at e;obtain⟨rfl,rfl⟩:=e;rw[hf y]at hc;simpa using hc
theorem PD.keepV{V:List Int}{f:Nat->Int}(h:PD w W q a bs c #[ze zd n,za (some ⟨g,0,none⟩) zl cg,za (some ⟨go,0,none⟩) ko co,za (some ⟨gv,0,none⟩) kv cv,ze zd fi] kp rs ls R L)(hV:za3 w (some ⟨gv,0,none⟩) V/\gv≠q)(au:V.length=kv*5)(hf:∀y,V.getD (y*5) 0=f y):W.cell? ⟨kp,0,none⟩=some rs/\W.cell? ⟨kp,1,none⟩=some ls/\W.cell? ⟨w.heap.size,3,none⟩=some (za (some ⟨gv,0,none⟩) kv cv)/\∀y:Nat,y<kv->W.cell? ⟨gv,y*5,none⟩=some (ze zd (f y)):=by
 obtain⟨p0,p1⟩:=za1 h.bp;refine⟨p0,p1,(zc6 h.bc).2.2.2.1,fun y hy=> ?_⟩;rw[<-hf y];obtain⟨_,_,e,hc⟩:=(h.ints hV.1 hV.2) (y*5) (by omega);simp at e;obtain⟨rfl,rfl⟩:=e;simpa using hc
theorem PD.setX{cs xs:Array Value}{kx:Nat}{u v:Value}(h:PD w W q a bs c cs kp rs ls R L)(hx:W.heap[kx]? =some (.cells xs 80 (0,0)))(hk:w.heap.size+1<kx)(hr:rs.ownBlock≠some kx):PD w ((W.setCell ⟨kx,0,none⟩ u).setCell ⟨kx,1,none⟩ v) q a bs c cs kp rs ls R L:=by
 obtain⟨p,lH⟩:=h.r;obtain⟨p0,cO⟩:=h.r0;have DN:kx≠kp:=fun e=>by
  have:=h.bp;rw[<-e,hx]at this;simp at this
 have hs:W.grownBy ((W.setCell ⟨kx,0,none⟩ u).setCell ⟨kx,1,none⟩ v) (some kx):=zb4 (zb3 _ _ _ _) (zb3 _ _ _ _);have bh:∀b,some kx=some b->w.heap.size<=b:=fun b e=>by injection e with e;omega
 exact⟨zd2 h.gr hs bh,h.r0,⟨p,RD.kept2 cO lH hs bh⟩,za6 hs h.bc (fun e=>by injection e with e;omega),za6 hs h.b0 (fun e=>by injection e with e;omega),za6 hs h.bp (fun e=>DN (by injection e with e;exact e.symm)),h.hk,⟨zk3 h.po.r hs hr,fun s hm=>zk3 (h.po.s s hm) hs (zg4 (h.po.s s hm) hx (by decide)),zk3 h.po.l hs (zg4 h.po.l hx (by decide))⟩⟩
theorem z86{W:zi}{kx:Nat}{xs:Value×Value}{u v:Value}{T:TypeId}(hx:W.heap[kx]? =some (zg #[xs.1,xs.2] T (0,0))):((W.setCell ⟨kx,0,none⟩ u).setCell ⟨kx,1,none⟩ v).heap[kx]? =some (zg #[u,v] T (0,0)):=by
 have:=ze1 (i:=1) v (ze1 (i:=0) u hx);simpa using this
theorem PD.keep7{kx:Nat}{u v:Value}{T:TypeId}(h:PD w W q a bs c #[ze zd n,za (some ⟨g,0,none⟩) zl cg,za (some ⟨go,0,none⟩) ko co,za (some ⟨gv,0,none⟩) kv cv,ze zd fi] kp rs ls R L)(hx:W.heap[kx]? =some (zg #[u,v] T (0,0))):W.cell? ⟨w.heap.size,0,none⟩=some (ze zd n)/\W.cell? ⟨w.heap.size,1,none⟩=some (za (some ⟨g,0,none⟩) zl cg)/\W.cell? ⟨w.heap.size,2,none⟩=some (za (some ⟨go,0,none⟩) ko co)/\W.cell? ⟨w.heap.size,3,none⟩=some (za (some ⟨gv,0,none⟩) kv cv)/\W.cell? ⟨w.heap.size,4,none⟩=some (ze zd fi)/\W.cell? ⟨kx,0,none⟩=some u/\W.cell? ⟨kx,1,none⟩=some v:=by
 obtain⟨c0,c1,c2,c3,c4⟩:=zc6 h.bc;obtain⟨x0,x1⟩:=za1 hx;exact⟨c0,c1,c2,c3,c4,x0,x1⟩
theorem yp5{S:List RT}{r:RT}{j:Nat}(hk:S.map RT.key=(setL R r).map RT.key)(hR:∀x∈R,x.ids≠[]/\x.ids.length+j<=9)(hr:r.ids≠[]/\r.ids.length+(j - 1)<=9):S.length<=R.length+1/\∀s∈S,s.ids≠[]/\s.ids.length+(j - 1)<=9:=by
 obtain⟨h1,h2⟩:=zy7 R r;refine⟨?_,fun s hs=> ?_⟩
 ·have:=congrArg List.length hk
  simp only[qz]at this;omega
 ·have hm:s.key∈(setL R r).map RT.key:=by rw[<-hk];exact List.mem_map_of_mem hs
  obtain⟨x,hx,e⟩:=yF.1 hm;have e2:x.ids=s.ids:=congrArg Prod.snd e;rw[<-e2];rcases h1 x hx with h|h
  ·have:=hR x h
   exact⟨this.1,by omega⟩
  ·rw[h];exact hr
theorem yC2{S:List RT}{r:RT}{P:Int->Prop}(hk:S.map RT.key=(setL R r).map RT.key)(hR:∀x∈R,∀z∈x.ids,P z)(hr:∀z∈r.ids,P z):∀s∈S,∀z∈s.ids,P z:=fun s hs=>by
 have hm:s.key∈(setL R r).map RT.key:=by rw[<-hk];exact List.mem_map_of_mem hs
 obtain⟨x,hx,e⟩:=yF.1 hm;have e2:x.ids=s.ids:=congrArg Prod.snd e;rw[<-e2];rcases(zy7 R r).1 x hx with h|h
 ·exact hR x h
 ·rw[h];exact hr
def DJ(R:List RT)(ls:Value):Prop:=∀s∈R,∀k,ls.ownBlock=some k->(za s.a s.ids.length s.c).ownBlock≠some k
theorem PD.addL{cs:Array Value}{gG:Value}{L':List Int}(h:PD w W q a bs c cs kp rs ls R L)(Cu:DJ R ls)(hg:W.grownBy W' ls.ownBlock)(ho:W'.ownsRow (w.heap.size+2) 2 1 gG L'.length (L'.map (ze zd))):PD w (W'.setCell ⟨kp,1,none⟩ gG) q a bs c cs kp rs gG R L':=by
 have key:∀(T:TypeId) (size n:Nat) (v:Value) (xs:List Value),W.ownsRow (w.heap.size+2) T size v n xs->(∀k,ls.ownBlock=some k->v.ownBlock≠some k)->W'.ownsRow (w.heap.size+2) T size v n xs:=fun T size n v xs hv aq=>by
  refine hv.kept hg ?_;cases hb:v.ownBlock with
  |none=>exact .inl rfl
  |some k=>exact .inr (fun e=>aq k e.symm hb)
 refine h.put (i:=1) (u:=gG) hg (fun k e=>h.rowL' k e) rfl ⟨key _ _ _ _ _ h.po.r (fun k e e2=> ?_),fun s hs=>key _ _ _ _ _ (h.po.s s hs) (Cu s hs),ho⟩;have aM:∃cs,W.heap[k]? =some (.cells cs 2 (0,0)):=by
  obtain⟨_,⟨h3,_⟩|⟨g',ac,az,h3,_,h4,_⟩⟩:=h.po.l
  ·rw[h3]at e;cases e
  ·rw[h3]at e
   simp[Value.ownBlock]at e;exact⟨az,by rw[<-e];exact h4⟩
 obtain⟨QY,aJ⟩:=aM;exact zg4 h.po.r aJ (by decide) e2
theorem PD.addR{cs:Array Value}{jm:Value}{r:RT}(h:PD w W q a bs c cs kp rs ls R L)(hr:W.ownsRow (w.heap.size+2) 2 1 (za r.a r.ids.length r.c) r.ids.length (r.ids.map (ze zd)))(hg:W.grownBy W' rs.ownBlock)(ho:W'.ownsRow (w.heap.size+2) 80 2 jm (R.length+1) (zj5 R++zq1 r)):PD w (W'.setCell ⟨kp,0,none⟩ jm) q a bs c cs kp jm ls (R++[r]) L:=
 h.put (i:=0) (u:=jm) hg (fun k e=>h.rowR' k e) rfl (h.po.more hr hg ho)
theorem DJ.new{cs:Array Value}{gG:Value}(h:PD w W q a bs c cs kp rs ls R L)(hn:∀k,gG.ownBlock=some k->W.heap.size<=k):DJ R gG:=fun s hs k e e2=>by
 have:=(h.po.s s hs).lt k e2;have:=hn k e;omega
end
def LN(cb:Bool)(ls:Value):Prop:=cb=true->∃g m c,ls=za (some ⟨g,0,none⟩) m c
def yk6(P:Int->Prop)(cb:Bool)(w:zi)(q:Nat)(a:Option Zd)(bs:List Int)(c:Nat)(e:Ending)(w':zi):Prop:=∃(rs ls:Value) (R:List RT) (L:List Int),e=.returned (.agg #[rs,ls])/\R.length<=10/\(∀r∈R,r.ids.length<=9)/\L.length<=13/\(∀x∈L,-9223372036854775808<=x/\x<9223372036854775808)/\w.grownBy w' (some q)/\(∃p,RD w' q a bs c p)/\PO w' w.heap.size rs R ls L/\(∀r∈R,∀z∈r.ids,P z)/\LN cb ls
theorem zI5:(Tryz.prog.info? 33).map (·.size)=some 2:=by kernel_rfl
theorem PD.done{P:Int->Prop}{cb:Bool}{w W:zi}{q:Nat}{a:Option Zd}{bs:List Int}{c:Nat}{cs:Array Value}{kp:Nat}{rs ls:Value}{R:List RT}{L:List Int}(h:PD w W q a bs c cs kp rs ls R L)(hR:R.length<=10)(mi:∀r∈R,r.ids.length<=9)(hL:L.length<=13)(hw:∀x∈L,-9223372036854775808<=x/\x<9223372036854775808)(hP:∀r∈R,∀z∈r.ids,P z)(hN:LN cb ls)(A:Act)(hp:A.tmps.getD 4 undef=.pointer (some ⟨w.heap.size+1,0,none⟩))(uu:A.defers=[]):
 bodyPost zh Tryz.f27 (yk6 P cb w q a bs c) Exit.ret A ((W.setCell ⟨w.heap.size+1,0,none⟩ rs).setCell ⟨w.heap.size+1,1,none⟩ ls):=by
 obtain⟨p,hr⟩:=h.r;obtain⟨p0,cO⟩:=h.r0;have bh:∀b,some (w.heap.size+1)=some b->w.heap.size<=b:=fun b e=>by injection e with e;omega
 have hs:W.grownBy ((W.setCell ⟨w.heap.size+1,0,none⟩ rs).setCell ⟨w.heap.size+1,1,none⟩ ls) (some (w.heap.size+1)):=zb4 (zb3 _ _ _ _) (zb3 _ _ _ _);have aM:((W.setCell ⟨w.heap.size+1,0,none⟩ rs).setCell ⟨w.heap.size+1,1,none⟩ ls).heap[w.heap.size+1]? =some (zg #[rs,ls] 33 (0,0)):=by
  have:=ze1 (i:=1) ls (ze1 (i:=0) rs h.b0);simpa using this
 refine xe (v:=.agg #[rs,ls]) (results_cell_row Tryz.results27 _ _ (w.heap.size+1) 33 _ (0,0) _ hp aM Tryz.underlying33 rfl zI5) uu
  ⟨rs,ls,R,L,rfl,hR,mi,hL,hw,zd2 h.gr hs bh,⟨p,RD.kept2 cO hr hs bh⟩,((h.po.set (by omega)).set (by omega)).base (by omega),hP,hN⟩
theorem y69(P:Int->Prop)(q p c:Nat)(n fi:Int)(g zl cg go ko co gv kv cv:Nat)(zs O V:List Int)(a:Option Zd)(bs:List Int)(w:zi)(h:RD w q a bs c p)(hZ:za3 w (some ⟨g,0,none⟩) zs)(hO:za3 w (some ⟨go,0,none⟩) O)(hV:za3 w (some ⟨gv,0,none⟩) V)(JK:g≠q)(lE:go≠q)(vI:gv≠q)(aN:zs.length=zl)(an:O.length=ko*6)(au:V.length=kv*5)(eA:1<=ko)(cN:ko<=12)(jK:1<=kv)(sq:kv<=5)(Cw:zd0 n zs O V ko kv fi=true->∀x∈yv3 O ko,-9223372036854775808<=x/\x<9223372036854775808)(nu:∀y,y<ko->P (O.getD (y*6) 0))(BT:∀x:Int,-9223372036854775808<=x->x<9223372036854775808->P x):
 Zc zh 27 #[.pointer (some ⟨q,0,none⟩),.agg #[ze zd n,za (some ⟨g,0,none⟩) zl cg,za (some ⟨go,0,none⟩) ko co,za (some ⟨gv,0,none⟩) kv cv,ze zd fi]] w (yk6 P (zd0 n zs O V ko kv fi) w q a bs c):=by
 have Df:=za4 nu;have wU:=za4 BT;clear nu BT;have H:=za4 h;have HZ:Zb (za3 w (some ⟨g,0,none⟩) zs/\g≠q):=⟨hZ,JK⟩;have HO:Zb (za3 w (some ⟨go,0,none⟩) O/\go≠q):=⟨hO,lE⟩;have HV:Zb (za3 w (some ⟨gv,0,none⟩) V/\gv≠q):=⟨hV,vI⟩;have ck:=za4 aN;have aF:=za4 an;have aE:=za4 au;obtain⟨cb,cU⟩:=nmd (zd0 n zs O V ko kv fi);rw[cU.X];obtain⟨K,HK⟩:=nmd (if cb=true then ko else 0);obtain⟨X,HX⟩:=nmd (if cb=true then yv3 O ko else []);have rZ:Zb (X.length=K/\K<=12/\∀x∈X,-9223372036854775808<=x/\x<9223372036854775808):=by
  rw[<-HX.X,<-HK.X];cases hb:cb
  ·exact⟨rfl,by simp,fun x hx=>by simp at hx⟩
  ·simp only[if_true]
   exact⟨by simp[yv3],cN,Cw (cU.X.trans hb)⟩
 have Pr:=rZ.X.2.1;clear h hZ hO hV JK lE vI aN an au Cw;obtain⟨fv,eP⟩:∃f:Nat->Int,Zb (∀y,V.getD (y*5) 0=f y):=⟨fun y=>V.getD (y*5) 0,fun _=>rfl⟩;have B0:Zb (Za w.heap.size w ((w.alloc (zg #[ze zd n,za (some ⟨g,0,none⟩) zl cg,za (some ⟨go,0,none⟩) ko co,za (some ⟨gv,0,none⟩) kv cv,ze zd fi] 30)).alloc (zg #[za none 0 0,za none 0 0] 33))):=(zP _).alloc (by simp) _;have C0:Zb (((w.alloc (zg #[ze zd n,za (some ⟨g,0,none⟩) zl cg,za (some ⟨go,0,none⟩) ko co,za (some ⟨gv,0,none⟩) kv cv,ze zd fi] 30)).alloc (zg #[za none 0 0,za none 0 0] 33)).heap[w.heap.size]? =some (zg #[ze zd n,za (some ⟨g,0,none⟩) zl cg,za (some ⟨go,0,none⟩) ko co,za (some ⟨gv,0,none⟩) kv cv,ze zd fi] 30 (0,0))):=xm _ _ _;have A0:Zb (((w.alloc (zg #[ze zd n,za (some ⟨g,0,none⟩) zl cg,za (some ⟨go,0,none⟩) ko co,za (some ⟨gv,0,none⟩) kv cv,ze zd fi] 30)).alloc (zg #[za none 0 0,za none 0 0] 33)).heap[w.heap.size+1]? =some (zg #[za none 0 0,za none 0 0] 33 (0,0))):=xh _ _ _;go_enter Tryz.func27,Tryz.ntmps27;obtain⟨c0,c1,c2,c3,c4⟩:=zc6 C0.X;have C1:=zR3 n fi (some ⟨g,0,none⟩) (some ⟨go,0,none⟩) (some ⟨gv,0,none⟩) cg ko co kv cv zs O V ((w.alloc (zg #[ze zd n,za (some ⟨g,0,none⟩) zl cg,za (some ⟨go,0,none⟩) ko co,za (some ⟨gv,0,none⟩) kv cv,ze zd fi] 30)).alloc (zg #[za none 0 0,za none 0 0] 33)) (HZ.X.1.below B0.X) (HO.X.1.below B0.X) (HV.X.1.below B0.X) aF.X aE.X (by omega) (by omega) cb K X cU.X HK.X HX.X;rw[ck.X]at C1
 go_wp2_with(first
  |(go_at_call 69
    go_must(refine C1.mono ?_)
    rintro e w1 ⟨sl,rfl,gj,ir⟩;obtain⟨la,m7,e⟩:=zp0 ir;subst e;have dS:Zb (LN cb (za la K m7)):=fun h=>by
     have hk:=HK.X;rw[z7 h]at hk;rcases own_kinds ir with⟨_,e0⟩|⟨g9,c9,e9,-,-⟩
     ·omega
     ·exact⟨_,_,_,e9⟩
    have P1:Zb (PD w (w1.alloc (zg #[za none 0 0,(za la K m7)] 33)) q a bs c #[ze zd n,za (some ⟨g,0,none⟩) zl cg,za (some ⟨go,0,none⟩) ko co,za (some ⟨gv,0,none⟩) kv cv,ze zd fi] w1.heap.size (za none 0 0) (za la K m7) [] X):=by
     have aC:Za w.heap.size w w1:=B0.X.trans (gj.mono B0.X.size);have ha:Za w1.heap.size w1 (w1.alloc (zg #[za none 0 0,(za la K m7)] 33)):=zP _;have cG:=aC.trans (ha.mono aC.size);have hc:=za0 gj (za2 C0.X) C0.X;have hr:=za0 gj (za2 A0.X) A0.X;refine⟨zp9 (zt1 _ _) cG,⟨p,H.X⟩,⟨p,H.X.below cG⟩,za0 ha (za2 hc) hc,za0 ha (za2 hr) hr,zS _ _,za2 hr,⟨xZ _ _ _ _,(fun s hs=>by cases hs),?_⟩⟩;rw[rZ.X.1];exact zb5 (ir.alloc _) (by simp)
    obtain⟨pp,oO⟩:=P1.X.r;clear gj ir)
  |(go_at_call 31
    go_must(refine(zc5 q pp c 10 a bs (w1.alloc (zg #[za none 0 0,(za la K m7)] 33)) oO (by omega)).mono ?_)
    rintro e w2 ⟨i0,p2,rfl,bX,cD,hr,hg⟩;have P2:=za4 (P1.X.read hr hg);obtain⟨i0,rfl⟩:=xp bX;have jl:i0<=9:=by omega
    clear hr hg bX cD oO))
 obtain⟨kp,y_⟩:=nmd w1.heap.size;rw[y_.X]at P2⊢;clear P1 C1 c0 c1 c2 c3 c4 B0 C0 A0;go_loopw[7] (fun t wr=>∃(j:Nat) (rs ls:Value) (R:List RT) (L:List Int),R.length+j<=9/\(∀r∈R,r.ids≠[]/\r.ids.length+j<=9)/\L.length<=12/\(∀x∈L,-9223372036854775808<=x/\x<9223372036854775808)/\t=ze zd j/\DJ R ls/\LN cb ls/\(∀r∈R,∀z∈r.ids,P z)/\PD w wr q a bs c #[ze zd n,za (some ⟨g,0,none⟩) zl cg,za (some ⟨go,0,none⟩) ko co,za (some ⟨gv,0,none⟩) kv cv,ze zd fi] kp rs ls R L) (fun t _=>(intOf t).toNat)
 case atStart=>exact⟨i0,_,_,[],X,by simpa using jl,(fun r hr=>by cases hr),by rw[rZ.X.1];exact Pr,rZ.X.2.2,rfl,(fun s hs=>by cases hs),dS.X,(fun s hs=>by cases hs),P2.X⟩
 case round=>
  clear P2;obtain⟨j,rs,ls,R,L,NC,sr,sj,Ba,rfl,Cu,gh,Jt,hd⟩:=hrel;have pS:Zb _:=gh;have ou:=za4 Jt;have eV:=za4 sr;have kK:=za4 Ba;obtain⟨ra,rc,e⟩:=zp0 hd.po.r;subst e;obtain⟨ak,cl,e⟩:=zp0 hd.po.l;subst e;have D4:=za4 hd;have AJ:=za4 Cu;clear hd sr Ba Cu Jt gh;obtain⟨nr,cY⟩:=nmd R.length;obtain⟨m,HM⟩:=nmd L.length;rw[cY.X]at NC D4;rw[HM.X]at sj D4 AJ;obtain⟨p0,p1⟩:=za1 D4.X.bp;obtain⟨c0,c1,c2,c3,c4⟩:=zc6 D4.X.bc;have PT:(0:Int)<(kv:Int):=by omega
  by_cases hcond:0<j/\cb=true/\0<m
  ·obtain⟨hj,iZ,hm⟩:=hcond
   subst iZ;have B':(0:Int)<(j:Int):=by omega
   have Qq:(0:Int)<(m:Int):=by omega
   obtain⟨gl,e⟩:∃gl,ak=some ⟨gl,0,none⟩:=by
    rcases own_kinds D4.X.po.l with⟨_,e0⟩|⟨gl,c',e,_,_⟩
    ·rw[HM.X]at e0;omega
    ·simp only[qA]at e;exact⟨gl,e.1⟩
   subst e;obtain⟨fl,fb⟩:∃f:Nat->Int,Zb (∀y,L.getD y 0=f y):=⟨fun y=>L.getD y 0,fun _=>rfl⟩;obtain⟨p4,lw⟩:=D4.X.r;have R4:=za4 lw;clear lw;have kS:=(D4.X.below (y5 _ _).drew).keepL HM.X fb.X
   go_wp2_with fail
   go_region_held3 (fun W=>W.cell? ⟨kp,1,none⟩=some (za (some ⟨gl,0,none⟩) m cl)/\∀y:Nat,y<m->W.cell? ⟨gl,y,none⟩=some (ze zd (fl y))) (first|with_reducible exact kS|go_keep) ((first
    |(go_at_call 31
      with_reducible refine(zc5 q p4 c m a bs wr.drew (R4.X.below (y5 _ _).drew) (by omega)).mono ?_
      rintro e w5 ⟨y,p5,rfl,bX,cD,hr,hg⟩;obtain⟨y,rfl⟩:=xp bX;have pI:y<m:=by omega
      have iG:(y:Int)<(m:Int):=by omega
      have D5:=za4 ((D4.X.below (y5 _ _).drew).read hr hg);have kS:=D5.X.keepL HM.X fb.X;clear hr hg bX cD)))
   obtain⟨id,bH⟩:=nmd (fl y);rw[bH.X];have Ek:Zb (P id):=by
    show P id;have bI:id∈L:=by
     rw[<-bH.X,<-fb.X y,zQ,zR (by rw[HM.X];exact pI)];simp
    exact wU.X id (kK.X id bI).1 (kK.X id bI).2
   clear D4 R4 kS pI iG p0 p1 c0 c1 c2 c3 c4;go_upto_region 6 with fail;go_cut [9]from 20 to 82 (fun s9 wx=>∃(kx:Nat) (v6:Int) (x6:RT),s9=.pointer (some ⟨kx,0,none⟩)/\zc7 R v6=x6/\w.heap.size+1<kx/\PD w wx q a bs c #[ze zd n,za (some ⟨g,0,none⟩) zl cg,za (some ⟨go,0,none⟩) ko co,za (some ⟨gv,0,none⟩) kv cv,ze zd fi] kp (za ra nr rc) (za (some ⟨gl,0,none⟩) m cl) R L/\wx.heap[kx]? =some (zg #[ze zd v6,za x6.a x6.ids.length x6.c] 80 (0,0)))
   case first=>
    have kS:=(D5.X.below (y5 _ _).drew).keepV HV.X aE.X eP.X;refine qG (S:=(fun W=>W.cell? ⟨kp,0,none⟩=some (za ra nr rc)/\W.cell? ⟨kp,1,none⟩=some (za (some ⟨gl,0,none⟩) m cl)/\W.cell? ⟨w.heap.size,3,none⟩=some (za (some ⟨gv,0,none⟩) kv cv)/\∀y:Nat,y<kv->W.cell? ⟨gv,y*5,none⟩=some (ze zd (fv y)))) (by kernel_rfl) ?_ fun aa=> ?_
    ·exact kS
    have D1:=za4 (D5.X.below (y5 _ _).drew);clear D5;generalize w5.drew=W1 at*;refine tkH 0 aa ?_;refine tkH 1 aa ?_;refine tkH 2 aa ?_;refine tkH 3 aa ?_;refine tkH 4 aa ?_;refine tkH 5 aa ?_;refine tkH 6 aa ?_;refine xQ (rs:=[7,12]) (by kernel_rfl) (by simp) ?_;refine xL rfl (fun K hK=> ?_) ?_
    ·skip
     obtain⟨pb,fI⟩:=D1.X.r;go_simp;refine(zc5 q pb c kv a bs _ fI (by omega)).mono ?_;rintro e wb ⟨y6,p6,rfl,bX,cD,hr,hg⟩;obtain⟨y6,rfl⟩:=xp bX;have pI:y6<kv:=by omega
     have iG:(y6:Int)<(kv:Int):=by omega
     have Db:=za4 (D1.X.read hr hg);clear hr hg bX cD fI
     (try go_wp2_with fail)
     refine hoW hK (Db.X.keepV HV.X aE.X eP.X) fun aa=> ?_;clear hK K;refine tkH 8 aa ?_;refine tkH 9 aa ?_;refine tkH 10 aa ?_;refine xQ (rs:=[11,12]) (by kernel_rfl) (by simp) ?_;refine xL rfl (fun K hK=> ?_) ?_
     ·skip
      obtain⟨x6,mh⟩:=nmd (zc7 R (fv y6));have ry:za9 wb ra R:=by
       have cZ:=Db.X.po;rw[<-cY.X]at cZ;exact cZ.at
      go_simp;refine(z84 ra (some ⟨gl,0,none⟩) rc m cl nr R (fv y6) x6 _ ry (by rw[cY.X];omega) cY.X mh.X).mono ?_;rintro e wl ⟨rfl,hb⟩;have Dl:=za4 (Db.X.below hb);clear hb ry
      (try go_wp2_with fail)
      refine hoW hK (Dl.X.keepV HV.X aE.X eP.X) fun aa=> ?_;clear hK K;refine rdH 12 fun K hK=> ?_;have Da:Zb (PD w (wl.alloc (zg #[ze zd 0,za none 0 0] 80)) q a bs c #[ze zd n,za (some ⟨g,0,none⟩) zl cg,za (some ⟨go,0,none⟩) ko co,za (some ⟨gv,0,none⟩) kv cv,ze zd fi] kp (za ra nr rc) (za (some ⟨gl,0,none⟩) m cl) R L):=Dl.X.below (zP _);have BX:=za4 (zS wl (zg #[ze zd 0,za none 0 0] 80));have a8:Zb (((za ra nr rc):Value).ownBlock≠some wl.heap.size):=fun e=>qI _ (Dl.X.po.r.lt _ e).2;have dw:w.heap.size+1<wl.heap.size:=by have:=Dl.X.size;omega
      go_simp;refine hoW hK (Da.X.keepV HV.X aE.X eP.X) fun aa=> ?_;clear hK K;obtain⟨kx,lB⟩:=nmd wl.heap.size;rw[lB.X]at BX a8 dw⊢;generalize wl.alloc _=Wa at*;refine rdH 13 fun K hK=> ?_;obtain⟨z0,z1⟩:=za1 BX.X;have zf:=fun i=>yZ _ _ i _ _ BX.X;have Ds:Zb (PD w ((Wa.setCell ⟨kx,0,none⟩ (ze zd (fv y6))).setCell ⟨kx,1,none⟩ (za x6.a x6.ids.length x6.c)) q a bs c #[ze zd n,za (some ⟨g,0,none⟩) zl cg,za (some ⟨go,0,none⟩) ko co,za (some ⟨gv,0,none⟩) kv cv,ze zd fi] kp (za ra nr rc) (za (some ⟨gl,0,none⟩) m cl) R L):=Da.X.setX BX.X dw a8.X;have BS:Zb (((Wa.setCell ⟨kx,0,none⟩ (ze zd (fv y6))).setCell ⟨kx,1,none⟩ (za x6.a x6.ids.length x6.c)).heap[kx]? =some (zg #[ze zd (fv y6),za x6.a x6.ids.length x6.c] 80 (0,0))):=z86 (xs:=(_,_)) BX.X;go_simp;refine hoW hK (Ds.X.keepV HV.X aE.X eP.X) fun aa=> ?_;clear hK K;refine qF (by kernel_rfl) ?_ _
      (try go_wp2_with fail)
      go_meet;exact⟨kx,fv y6,x6,rfl,mh.X,dw,Ds.X,BS.X⟩
     refine xL rfl (fun K hK=> ?_) xP;have Da:Zb (PD w (wb.alloc (zg #[ze zd 0,za none 0 0] 80)) q a bs c #[ze zd n,za (some ⟨g,0,none⟩) zl cg,za (some ⟨go,0,none⟩) ko co,za (some ⟨gv,0,none⟩) kv cv,ze zd fi] kp (za ra nr rc) (za (some ⟨gl,0,none⟩) m cl) R L):=Db.X.below (zP _);have BX:=za4 (zS wb (zg #[ze zd 0,za none 0 0] 80));have a8:Zb (((za ra nr rc):Value).ownBlock≠some wb.heap.size):=fun e=>qI _ (Db.X.po.r.lt _ e).2;have dw:w.heap.size+1<wb.heap.size:=by have:=Db.X.size;omega
     go_simp;refine hoW hK (Da.X.keepV HV.X aE.X eP.X) fun aa=> ?_;clear hK K;obtain⟨kx,lB⟩:=nmd wb.heap.size;rw[lB.X]at BX a8 dw⊢;generalize wb.alloc _=Wa at*;refine rdH 11 fun K hK=> ?_;obtain⟨x6,mh⟩:=nmd (zc7 R (fv y6));have ry:za9 Wa ra R:=by
      have cZ:=Da.X.po;rw[<-cY.X]at cZ;exact cZ.at
     go_simp;refine(z84 ra (some ⟨gl,0,none⟩) rc m cl nr R (fv y6) x6 _ ry (by rw[cY.X];omega) cY.X mh.X).mono ?_;rintro e wl ⟨rfl,hb⟩;have Dl:=za4 (Da.X.below hb);have BX:=za4 (za0 hb (za2 BX.X) BX.X);clear hb ry
     (try go_wp2_with fail)
     refine hoW hK (Dl.X.keepV HV.X aE.X eP.X) fun aa=> ?_;clear hK K;refine rdH 13 fun K hK=> ?_;obtain⟨z0,z1⟩:=za1 BX.X;have zf:=fun i=>yZ _ _ i _ _ BX.X;have Ds:Zb (PD w ((wl.setCell ⟨kx,0,none⟩ (ze zd (fv y6))).setCell ⟨kx,1,none⟩ (za x6.a x6.ids.length x6.c)) q a bs c #[ze zd n,za (some ⟨g,0,none⟩) zl cg,za (some ⟨go,0,none⟩) ko co,za (some ⟨gv,0,none⟩) kv cv,ze zd fi] kp (za ra nr rc) (za (some ⟨gl,0,none⟩) m cl) R L):=Dl.X.setX BX.X dw a8.X;have BS:Zb (((wl.setCell ⟨kx,0,none⟩ (ze zd (fv y6))).setCell ⟨kx,1,none⟩ (za x6.a x6.ids.length x6.c)).heap[kx]? =some (zg #[ze zd (fv y6),za x6.a x6.ids.length x6.c] 80 (0,0))):=z86 (xs:=(_,_)) BX.X;go_simp;refine hoW hK (Ds.X.keepV HV.X aE.X eP.X) fun aa=> ?_;clear hK K;refine qF (by kernel_rfl) ?_ _
     (try go_wp2_with fail)
     go_meet;exact⟨kx,fv y6,x6,rfl,mh.X,dw,Ds.X,BS.X⟩
    refine xL rfl (fun K hK=> ?_) xP;have Da:Zb (PD w (W1.alloc (zg #[ze zd 0,za none 0 0] 80)) q a bs c #[ze zd n,za (some ⟨g,0,none⟩) zl cg,za (some ⟨go,0,none⟩) ko co,za (some ⟨gv,0,none⟩) kv cv,ze zd fi] kp (za ra nr rc) (za (some ⟨gl,0,none⟩) m cl) R L):=D1.X.below (zP _);have BX:=za4 (zS W1 (zg #[ze zd 0,za none 0 0] 80));have a8:Zb (((za ra nr rc):Value).ownBlock≠some W1.heap.size):=fun e=>qI _ (D1.X.po.r.lt _ e).2;have dw:w.heap.size+1<W1.heap.size:=by have:=D1.X.size;omega
    go_simp;refine hoW hK (Da.X.keepV HV.X aE.X eP.X) fun aa=> ?_;clear hK K;obtain⟨kx,lB⟩:=nmd W1.heap.size;rw[lB.X]at BX a8 dw⊢;generalize W1.alloc _=Wa at*;refine rdH 7 fun K hK=> ?_;obtain⟨pb,fI⟩:=Da.X.r;go_simp;refine(zc5 q pb c kv a bs _ fI (by omega)).mono ?_;rintro e wb ⟨y6,p6,rfl,bX,cD,hr,hg⟩;obtain⟨y6,rfl⟩:=xp bX;have pI:y6<kv:=by omega
    have iG:(y6:Int)<(kv:Int):=by omega
    have Db:=za4 (Da.X.read hr hg);have BX:Zb (wb.heap[kx]? =some (zg #[ze zd 0,za none 0 0] 80 (0,0))):=za6 hg BX.X (fun e=>by injection e with e;have:=Db.X.lt;omega);clear hr hg bX cD fI
    (try go_wp2_with fail)
    refine hoW hK (Db.X.keepV HV.X aE.X eP.X) fun aa=> ?_;clear hK K;refine tkH 8 aa ?_;refine tkH 9 aa ?_;refine tkH 10 aa ?_;refine rdH 11 fun K hK=> ?_;obtain⟨x6,mh⟩:=nmd (zc7 R (fv y6));have ry:za9 wb ra R:=by
     have cZ:=Db.X.po;rw[<-cY.X]at cZ;exact cZ.at
    go_simp;refine(z84 ra (some ⟨gl,0,none⟩) rc m cl nr R (fv y6) x6 _ ry (by rw[cY.X];omega) cY.X mh.X).mono ?_;rintro e wl ⟨rfl,hb⟩;have Dl:=za4 (Db.X.below hb);have BX:=za4 (za0 hb (za2 BX.X) BX.X);clear hb ry
    (try go_wp2_with fail)
    refine hoW hK (Dl.X.keepV HV.X aE.X eP.X) fun aa=> ?_;clear hK K;refine rdH 13 fun K hK=> ?_;obtain⟨z0,z1⟩:=za1 BX.X;have zf:=fun i=>yZ _ _ i _ _ BX.X;have Ds:Zb (PD w ((wl.setCell ⟨kx,0,none⟩ (ze zd (fv y6))).setCell ⟨kx,1,none⟩ (za x6.a x6.ids.length x6.c)) q a bs c #[ze zd n,za (some ⟨g,0,none⟩) zl cg,za (some ⟨go,0,none⟩) ko co,za (some ⟨gv,0,none⟩) kv cv,ze zd fi] kp (za ra nr rc) (za (some ⟨gl,0,none⟩) m cl) R L):=Dl.X.setX BX.X dw a8.X;have BS:Zb (((wl.setCell ⟨kx,0,none⟩ (ze zd (fv y6))).setCell ⟨kx,1,none⟩ (za x6.a x6.ids.length x6.c)).heap[kx]? =some (zg #[ze zd (fv y6),za x6.a x6.ids.length x6.c] 80 (0,0))):=z86 (xs:=(_,_)) BX.X;go_simp;refine hoW hK (Ds.X.keepV HV.X aE.X eP.X) fun aa=> ?_;clear hK K;refine qF (by kernel_rfl) ?_ _
    (try go_wp2_with fail)
    go_meet;exact⟨kx,fv y6,x6,rfl,mh.X,dw,Ds.X,BS.X⟩
   case rest=>
    clear D5;obtain⟨kx,v6,x6,rfl,Fb,dw,hd,gY⟩:=hcut;have D6:=za4 hd;have lI:Zb ((x6.a=none/\x6.ids=[]/\x6.c=0)∨((∃gx,x6.a=some ⟨gx,0,none⟩)/\x6∈R)):=by
     rcases zv0 R v6 with hm6|hm6
     ·rw[Fb]at hm6
      refine .inr ⟨?_,hm6⟩;rcases own_kinds (D6.X.po.s x6 hm6)with⟨_,e0⟩|⟨gx,c',e,_,_⟩
      ·exact absurd (qH.1 e0) (eV.X x6 hm6).1
      ·simp only[qA]at e;exact⟨gx,e.1⟩
     ·rw[Fb]at hm6
      rw[hm6];exact .inl ⟨rfl,rfl,rfl⟩
    have Nz:x6.ids.length+j<=9:=by
     rcases lI.X with⟨_,e,_⟩|⟨_,hm6⟩
     ·rw[e];simp;omega
     ·exact(eV.X x6 hm6).2
    have j0:Zb (∀W,PD w W q a bs c #[ze zd n,za (some ⟨g,0,none⟩) zl cg,za (some ⟨go,0,none⟩) ko co,za (some ⟨gv,0,none⟩) kv cv,ze zd fi] kp (za ra nr rc) (za (some ⟨gl,0,none⟩) m cl) R L->((x6.a=none/\x6.ids=[]/\x6.c=0)∨((∃gx,x6.a=some ⟨gx,0,none⟩)/\za3 W x6.a x6.ids/\x6.ids.length<=x6.c))):=fun W hW=>lI.X.imp (fun h=>h) (fun h=>⟨h.1,hW.po.ints x6 h.2⟩);have Dg:Zb (∀z∈x6.ids,P z):=by
     rcases lI.X with⟨_,e,_⟩|⟨_,hm6⟩
     ·intro z BH;rw[e]at BH;cases BH
     ·exact ou.X x6 hm6
    obtain⟨xl,aY⟩:=nmd x6.ids.length;rw[aY.X]at gY Nz;have u_:=za4 gY;clear hd gY lI Fb;have x_:IntKind.i64.wrap ((xl:Int)+1)=(xl:Int)+1:=by rw[xu];omega
    go_upto_region 7 with fail;go_cut [10,11,12]from 20 to 82 (fun wD wC wA wx=>∃(kn:Nat) (vn Dv:Int) (ch:Bool) (ad:Option Zd) (ca:Nat) (xs:List Int),wD=.pointer (some ⟨kn,0,none⟩)/\wC=ze zd Dv/\wA=.bool ch/\(ch=true->xs.length=xl+1/\∀z∈xs,z∈x6.ids∨z=id)/\PD w wx q a bs c #[ze zd n,za (some ⟨g,0,none⟩) zl cg,za (some ⟨go,0,none⟩) ko co,za (some ⟨gv,0,none⟩) kv cv,ze zd fi] kp (za ra nr rc) (za (some ⟨gl,0,none⟩) m cl) R L/\wx.heap[kn]? =some (zg #[ze zd vn,za ad xs.length ca] 80 (0,0))/\wx.ownsRow (w.heap.size+2) 2 1 (za ad xs.length ca) xs.length (xs.map (ze zd)))
    case first=>
     have kS:=(D6.X.below (y5 _ _).drew).keep7 (za0 (y5 _ _).drew (za2 u_.X) u_.X);refine qG (S:=(fun W=>W.cell? ⟨w.heap.size,0,none⟩=some (ze zd n)/\W.cell? ⟨w.heap.size,1,none⟩=some (za (some ⟨g,0,none⟩) zl cg)/\W.cell? ⟨w.heap.size,2,none⟩=some (za (some ⟨go,0,none⟩) ko co)/\W.cell? ⟨w.heap.size,3,none⟩=some (za (some ⟨gv,0,none⟩) kv cv)/\W.cell? ⟨w.heap.size,4,none⟩=some (ze zd fi)/\W.cell? ⟨kx,0,none⟩=some (ze zd v6)/\W.cell? ⟨kx,1,none⟩=some (za x6.a xl x6.c))) (by kernel_rfl) ?_ fun aa=> ?_
     ·exact kS
     have D1:=za4 (D6.X.below (y5 _ _).drew);have X1:Zb (wc.drew.heap[kx]? =some (zg #[ze zd v6,za x6.a xl x6.c] 80 (0,0))):=za0 (y5 _ _).drew (za2 u_.X) u_.X;clear D6 u_;generalize wc.drew=W1 at*;refine tkH 0 aa ?_;refine tkH 1 aa ?_;refine tkH 2 aa ?_;refine tkH 3 aa ?_;refine tkH 4 aa ?_;refine tkH 5 aa ?_;refine tkH 6 aa ?_;refine tkH 7 aa ?_;refine xQ (rs:=[8,14]) (by kernel_rfl) (by simp) ?_;refine xL rfl (fun K hK=> ?_) ?_
     ·skip
      obtain⟨pb,fI⟩:=D1.X.r;go_simp;refine(zc5 q pb c ((xl:Int)+1) a bs _ fI (by omega)).mono ?_;rintro e wb ⟨y7,p7,rfl,bX,cD,hr,hg⟩;have CS:Zb (0<=y7/\y7<=(xl:Int)):=⟨bX,by omega⟩;have Db:=za4 (D1.X.read hr hg);have XB:Zb (wb.heap[kx]? =some (zg #[ze zd v6,za x6.a xl x6.c] 80 (0,0))):=za6 hg X1.X (fun e=>by injection e with e;have:=Db.X.lt;omega);clear hr hg bX cD fI
      (try go_wp2_with fail)
      refine hoW hK (Db.X.keep7 XB.X) fun aa=> ?_;clear hK K;refine xQ (rs:=[9,14]) (by kernel_rfl) (by simp) ?_;refine xL rfl (fun K hK=> ?_) ?_
      ·skip
       have C7:=zw5 n fi v6 g zl cg go ko co gv kv cv zs O V x6 wb (Db.X.ints HZ.X.1 HZ.X.2) (Db.X.ints HO.X.1 HO.X.2) (Db.X.ints HV.X.1 HV.X.2) ck.X aF.X aE.X cN sq (j0.X _ Db.X) (by rw[aY.X];omega) id y7 (by rw[aY.X];exact CS.X);rw[aY.X]at C7;go_simp;refine C7.mono ?_;rintro e wi ⟨ch,Dv,xs,⟨hb,ad,ca,rfl,ho⟩,aL⟩;have dS:=za4 aL;have Di:=za4 (Db.X.below hb);have XI:=za4 (za0 hb (za2 XB.X) XB.X);have OI:Zb (zk wi (w.heap.size+2) 2 1 (za ad xs.length ca) xs.length (xs.map (ze zd))):=zb5 ho (by have:=Db.X.size;omega);clear hb ho aL C7
       (try go_wp2_with fail)
       refine hoW hK (Di.X.keep7 XI.X) fun aa=> ?_;clear hK K;refine tkH 10 aa ?_;refine tkH 11 aa ?_;refine tkH 12 aa ?_;refine tkH 13 aa ?_;refine rdH 14 fun K hK=> ?_;have Da:Zb (PD w (wi.alloc (zg #[ze zd 0,za none 0 0] 80)) q a bs c #[ze zd n,za (some ⟨g,0,none⟩) zl cg,za (some ⟨go,0,none⟩) ko co,za (some ⟨gv,0,none⟩) kv cv,ze zd fi] kp (za ra nr rc) (za (some ⟨gl,0,none⟩) m cl) R L):=Di.X.below (zP _);have XA:Zb ((wi.alloc (zg #[ze zd 0,za none 0 0] 80)).heap[kx]? =some (zg #[ze zd v6,za x6.a xl x6.c] 80 (0,0))):=za0 (zP _) (za2 XI.X) XI.X;have BN:=za4 (zS wi (zg #[ze zd 0,za none 0 0] 80));have oB:Zb (((za ra nr rc):Value).ownBlock≠some wi.heap.size):=fun e=>qI _ (Di.X.po.r.lt _ e).2;have eL:Zb (kx<wi.heap.size):=za2 XI.X;have cL:w.heap.size+1<wi.heap.size:=by have:=Di.X.size;omega
       have OI:Zb (zk (wi.alloc (zg #[ze zd 0,za none 0 0] 80)) (w.heap.size+2) 2 1 (za ad xs.length ca) xs.length (xs.map (ze zd))):=OI.X.alloc _;go_simp;refine hoW hK (Da.X.keep7 XA.X) fun aa=> ?_;clear hK K;obtain⟨kn,gN⟩:=nmd wi.heap.size;rw[gN.X]at BN oB eL cL⊢;generalize wi.alloc _=Wa at*;refine rdH 15 fun K hK=> ?_;obtain⟨z0,z1⟩:=za1 BN.X;have zf:=fun i=>yZ _ _ i _ _ BN.X;have Ds:Zb (PD w ((Wa.setCell ⟨kn,0,none⟩ (ze zd (chI ch v6))).setCell ⟨kn,1,none⟩ (za ad xs.length ca)) q a bs c #[ze zd n,za (some ⟨g,0,none⟩) zl cg,za (some ⟨go,0,none⟩) ko co,za (some ⟨gv,0,none⟩) kv cv,ze zd fi] kp (za ra nr rc) (za (some ⟨gl,0,none⟩) m cl) R L):=Da.X.setX BN.X cL oB.X;have BS:Zb (((Wa.setCell ⟨kn,0,none⟩ (ze zd (chI ch v6))).setCell ⟨kn,1,none⟩ (za ad xs.length ca)).heap[kn]? =some (zg #[ze zd (chI ch v6),za ad xs.length ca] 80 (0,0))):=z86 (xs:=(_,_)) BN.X;have nK:Wa.grownBy ((Wa.setCell ⟨kn,0,none⟩ (ze zd (chI ch v6))).setCell ⟨kn,1,none⟩ (za ad xs.length ca)) (some kn):=zb4 (zb3 _ _ _ _) (zb3 _ _ _ _);have XS:Zb (((Wa.setCell ⟨kn,0,none⟩ (ze zd (chI ch v6))).setCell ⟨kn,1,none⟩ (za ad xs.length ca)).heap[kx]? =some (zg #[ze zd v6,za x6.a xl x6.c] 80 (0,0))):=za6 nK XA.X (fun e=>by injection e with e;have:=eL.X;omega);have OS:Zb (zk ((Wa.setCell ⟨kn,0,none⟩ (ze zd (chI ch v6))).setCell ⟨kn,1,none⟩ (za ad xs.length ca)) (w.heap.size+2) 2 1 (za ad xs.length ca) xs.length (xs.map (ze zd))):=zk3 OI.X nK (zg4 OI.X BN.X (by decide));clear nK;go_simp;refine hoW hK (Ds.X.keep7 XS.X) fun aa=> ?_;clear hK K;generalize((Wa.setCell ⟨kn,0,none⟩ _).setCell ⟨kn,1,none⟩ _)=Ws at*;refine rdH 16 fun K hK=> ?_;go_simp;refine hoW hK (Ds.X.keep7 XS.X) fun aa=> ?_;clear hK K;refine rdH 17 fun K hK=> ?_;go_simp;refine hoW hK (Ds.X.keep7 XS.X) fun aa=> ?_;clear hK K;refine qF (by kernel_rfl) ?_ _
       (try go_wp2_with fail)
       go_meet;exact⟨kn,_,Dv,ch,ad,ca,xs,rfl,rfl,rfl,dS.X,Ds.X,BS.X,OS.X⟩
      refine xL rfl (fun K hK=> ?_) xP;have Da:Zb (PD w (wb.alloc (zg #[ze zd 0,za none 0 0] 80)) q a bs c #[ze zd n,za (some ⟨g,0,none⟩) zl cg,za (some ⟨go,0,none⟩) ko co,za (some ⟨gv,0,none⟩) kv cv,ze zd fi] kp (za ra nr rc) (za (some ⟨gl,0,none⟩) m cl) R L):=Db.X.below (zP _);have XA:Zb ((wb.alloc (zg #[ze zd 0,za none 0 0] 80)).heap[kx]? =some (zg #[ze zd v6,za x6.a xl x6.c] 80 (0,0))):=za0 (zP _) (za2 XB.X) XB.X;have BN:=za4 (zS wb (zg #[ze zd 0,za none 0 0] 80));have oB:Zb (((za ra nr rc):Value).ownBlock≠some wb.heap.size):=fun e=>qI _ (Db.X.po.r.lt _ e).2;have eL:Zb (kx<wb.heap.size):=za2 XB.X;have cL:w.heap.size+1<wb.heap.size:=by have:=Db.X.size;omega
      go_simp;refine hoW hK (Da.X.keep7 XA.X) fun aa=> ?_;clear hK K;obtain⟨kn,gN⟩:=nmd wb.heap.size;rw[gN.X]at BN oB eL cL⊢;generalize wb.alloc _=Wa at*;refine rdH 9 fun K hK=> ?_;have C7:=zw5 n fi v6 g zl cg go ko co gv kv cv zs O V x6 Wa (Da.X.ints HZ.X.1 HZ.X.2) (Da.X.ints HO.X.1 HO.X.2) (Da.X.ints HV.X.1 HV.X.2) ck.X aF.X aE.X cN sq (j0.X _ Da.X) (by rw[aY.X];omega) id y7 (by rw[aY.X];exact CS.X);rw[aY.X]at C7;go_simp;refine C7.mono ?_;rintro e wi ⟨ch,Dv,xs,⟨hb,ad,ca,rfl,ho⟩,aL⟩;have dS:=za4 aL;have Di:=za4 (Da.X.below hb);have XI:=za4 (za0 hb (za2 XA.X) XA.X);have BN:=za4 (za0 hb (za2 BN.X) BN.X);have OI:Zb (zk wi (w.heap.size+2) 2 1 (za ad xs.length ca) xs.length (xs.map (ze zd))):=zb5 ho (by have:=Da.X.size;omega);clear hb ho aL C7
      (try go_wp2_with fail)
      refine hoW hK (Di.X.keep7 XI.X) fun aa=> ?_;clear hK K;refine tkH 10 aa ?_;refine tkH 11 aa ?_;refine tkH 12 aa ?_;refine tkH 13 aa ?_;refine rdH 15 fun K hK=> ?_;obtain⟨z0,z1⟩:=za1 BN.X;have zf:=fun i=>yZ _ _ i _ _ BN.X;have Ds:Zb (PD w ((wi.setCell ⟨kn,0,none⟩ (ze zd (chI ch v6))).setCell ⟨kn,1,none⟩ (za ad xs.length ca)) q a bs c #[ze zd n,za (some ⟨g,0,none⟩) zl cg,za (some ⟨go,0,none⟩) ko co,za (some ⟨gv,0,none⟩) kv cv,ze zd fi] kp (za ra nr rc) (za (some ⟨gl,0,none⟩) m cl) R L):=Di.X.setX BN.X cL oB.X;have BS:Zb (((wi.setCell ⟨kn,0,none⟩ (ze zd (chI ch v6))).setCell ⟨kn,1,none⟩ (za ad xs.length ca)).heap[kn]? =some (zg #[ze zd (chI ch v6),za ad xs.length ca] 80 (0,0))):=z86 (xs:=(_,_)) BN.X;have nK:wi.grownBy ((wi.setCell ⟨kn,0,none⟩ (ze zd (chI ch v6))).setCell ⟨kn,1,none⟩ (za ad xs.length ca)) (some kn):=zb4 (zb3 _ _ _ _) (zb3 _ _ _ _);have XS:Zb (((wi.setCell ⟨kn,0,none⟩ (ze zd (chI ch v6))).setCell ⟨kn,1,none⟩ (za ad xs.length ca)).heap[kx]? =some (zg #[ze zd v6,za x6.a xl x6.c] 80 (0,0))):=za6 nK XI.X (fun e=>by injection e with e;have:=eL.X;omega);have OS:Zb (zk ((wi.setCell ⟨kn,0,none⟩ (ze zd (chI ch v6))).setCell ⟨kn,1,none⟩ (za ad xs.length ca)) (w.heap.size+2) 2 1 (za ad xs.length ca) xs.length (xs.map (ze zd))):=zk3 OI.X nK (zg4 OI.X BN.X (by decide));clear nK;go_simp;refine hoW hK (Ds.X.keep7 XS.X) fun aa=> ?_;clear hK K;generalize((wi.setCell ⟨kn,0,none⟩ _).setCell ⟨kn,1,none⟩ _)=Ws at*;refine rdH 16 fun K hK=> ?_;go_simp;refine hoW hK (Ds.X.keep7 XS.X) fun aa=> ?_;clear hK K;refine rdH 17 fun K hK=> ?_;go_simp;refine hoW hK (Ds.X.keep7 XS.X) fun aa=> ?_;clear hK K;refine qF (by kernel_rfl) ?_ _
      (try go_wp2_with fail)
      go_meet;exact⟨kn,_,Dv,ch,ad,ca,xs,rfl,rfl,rfl,dS.X,Ds.X,BS.X,OS.X⟩
     refine xL rfl (fun K hK=> ?_) xP;have Da:Zb (PD w (W1.alloc (zg #[ze zd 0,za none 0 0] 80)) q a bs c #[ze zd n,za (some ⟨g,0,none⟩) zl cg,za (some ⟨go,0,none⟩) ko co,za (some ⟨gv,0,none⟩) kv cv,ze zd fi] kp (za ra nr rc) (za (some ⟨gl,0,none⟩) m cl) R L):=D1.X.below (zP _);have XA:Zb ((W1.alloc (zg #[ze zd 0,za none 0 0] 80)).heap[kx]? =some (zg #[ze zd v6,za x6.a xl x6.c] 80 (0,0))):=za0 (zP _) (za2 X1.X) X1.X;have BN:=za4 (zS W1 (zg #[ze zd 0,za none 0 0] 80));have oB:Zb (((za ra nr rc):Value).ownBlock≠some W1.heap.size):=fun e=>qI _ (D1.X.po.r.lt _ e).2;have eL:Zb (kx<W1.heap.size):=za2 X1.X;have cL:w.heap.size+1<W1.heap.size:=by have:=D1.X.size;omega
     go_simp;refine hoW hK (Da.X.keep7 XA.X) fun aa=> ?_;clear hK K;obtain⟨kn,gN⟩:=nmd W1.heap.size;rw[gN.X]at BN oB eL cL⊢;generalize W1.alloc _=Wa at*;refine rdH 8 fun K hK=> ?_;obtain⟨pb,fI⟩:=Da.X.r;go_simp;refine(zc5 q pb c ((xl:Int)+1) a bs _ fI (by omega)).mono ?_;rintro e wb ⟨y7,p7,rfl,bX,cD,hr,hg⟩;have CS:Zb (0<=y7/\y7<=(xl:Int)):=⟨bX,by omega⟩;have Db:=za4 (Da.X.read hr hg);have XB:Zb (wb.heap[kx]? =some (zg #[ze zd v6,za x6.a xl x6.c] 80 (0,0))):=za6 hg XA.X (fun e=>by injection e with e;have:=Db.X.lt;omega);have BN:Zb (wb.heap[kn]? =some (zg #[ze zd 0,za none 0 0] 80 (0,0))):=za6 hg BN.X (fun e=>by injection e with e;have:=Db.X.lt;omega);clear hr hg bX cD fI
     (try go_wp2_with fail)
     refine hoW hK (Db.X.keep7 XB.X) fun aa=> ?_;clear hK K;refine rdH 9 fun K hK=> ?_;have C7:=zw5 n fi v6 g zl cg go ko co gv kv cv zs O V x6 wb (Db.X.ints HZ.X.1 HZ.X.2) (Db.X.ints HO.X.1 HO.X.2) (Db.X.ints HV.X.1 HV.X.2) ck.X aF.X aE.X cN sq (j0.X _ Db.X) (by rw[aY.X];omega) id y7 (by rw[aY.X];exact CS.X);rw[aY.X]at C7;go_simp;refine C7.mono ?_;rintro e wi ⟨ch,Dv,xs,⟨hb,ad,ca,rfl,ho⟩,aL⟩;have dS:=za4 aL;have Di:=za4 (Db.X.below hb);have XI:=za4 (za0 hb (za2 XB.X) XB.X);have BN:=za4 (za0 hb (za2 BN.X) BN.X);have OI:Zb (zk wi (w.heap.size+2) 2 1 (za ad xs.length ca) xs.length (xs.map (ze zd))):=zb5 ho (by have:=Db.X.size;omega);clear hb ho aL C7
     (try go_wp2_with fail)
     refine hoW hK (Di.X.keep7 XI.X) fun aa=> ?_;clear hK K;refine tkH 10 aa ?_;refine tkH 11 aa ?_;refine tkH 12 aa ?_;refine tkH 13 aa ?_;refine rdH 15 fun K hK=> ?_;obtain⟨z0,z1⟩:=za1 BN.X;have zf:=fun i=>yZ _ _ i _ _ BN.X;have Ds:Zb (PD w ((wi.setCell ⟨kn,0,none⟩ (ze zd (chI ch v6))).setCell ⟨kn,1,none⟩ (za ad xs.length ca)) q a bs c #[ze zd n,za (some ⟨g,0,none⟩) zl cg,za (some ⟨go,0,none⟩) ko co,za (some ⟨gv,0,none⟩) kv cv,ze zd fi] kp (za ra nr rc) (za (some ⟨gl,0,none⟩) m cl) R L):=Di.X.setX BN.X cL oB.X;have BS:Zb (((wi.setCell ⟨kn,0,none⟩ (ze zd (chI ch v6))).setCell ⟨kn,1,none⟩ (za ad xs.length ca)).heap[kn]? =some (zg #[ze zd (chI ch v6),za ad xs.length ca] 80 (0,0))):=z86 (xs:=(_,_)) BN.X;have nK:wi.grownBy ((wi.setCell ⟨kn,0,none⟩ (ze zd (chI ch v6))).setCell ⟨kn,1,none⟩ (za ad xs.length ca)) (some kn):=zb4 (zb3 _ _ _ _) (zb3 _ _ _ _);have XS:Zb (((wi.setCell ⟨kn,0,none⟩ (ze zd (chI ch v6))).setCell ⟨kn,1,none⟩ (za ad xs.length ca)).heap[kx]? =some (zg #[ze zd v6,za x6.a xl x6.c] 80 (0,0))):=za6 nK XI.X (fun e=>by injection e with e;have:=eL.X;omega);have OS:Zb (zk ((wi.setCell ⟨kn,0,none⟩ (ze zd (chI ch v6))).setCell ⟨kn,1,none⟩ (za ad xs.length ca)) (w.heap.size+2) 2 1 (za ad xs.length ca) xs.length (xs.map (ze zd))):=zk3 OI.X nK (zg4 OI.X BN.X (by decide));clear nK;go_simp;refine hoW hK (Ds.X.keep7 XS.X) fun aa=> ?_;clear hK K;generalize((wi.setCell ⟨kn,0,none⟩ _).setCell ⟨kn,1,none⟩ _)=Ws at*;refine rdH 16 fun K hK=> ?_;go_simp;refine hoW hK (Ds.X.keep7 XS.X) fun aa=> ?_;clear hK K;refine rdH 17 fun K hK=> ?_;go_simp;refine hoW hK (Ds.X.keep7 XS.X) fun aa=> ?_;clear hK K;refine qF (by kernel_rfl) ?_ _
     (try go_wp2_with fail)
     go_meet;exact⟨kn,_,Dv,ch,ad,ca,xs,rfl,rfl,rfl,dS.X,Ds.X,BS.X,OS.X⟩
    case rest=>
     clear D6 u_;obtain⟨kn,vn,Dv,ch,ad,ca,xs,rfl,rfl,rfl,aL,hd,Jc,ae⟩:=hcut;have D7:=za4 hd;have B7:=za4 Jc;have O7:=za4 ae;clear hd Jc ae;cases ch
     ·clear aL
      go_wp2;go_roundw
      case rel=>exact⟨j - 1,_,_,R,L,by rw[cY.X];omega,(fun r hr=>⟨(eV.X r hr).1,by have:=(eV.X r hr).2;omega⟩),by rw[HM.X];exact sj,kK.X,by first|rfl|go_num,AJ.X,(fun _=>⟨_,_,_,rfl⟩),ou.X,D7.X⟩
      case measure=>simp[intOf];omega
     ·have tz:xs.length=xl+1:=(aL rfl).1
      have Nf:Zb (∀z∈xs,P z):=fun z BH=>((aL rfl).2 z BH).elim (Dg.X z) (fun h=>by rw[h];exact Ek.X)
      clear aL;obtain⟨gn,e⟩:∃gn,ad=some ⟨gn,0,none⟩:=by
       rcases own_kinds O7.X with⟨_,e0⟩|⟨gn,c',e,_,_⟩
       ·omega
       ·simp only[qA]at e;exact⟨gn,e.1⟩
      subst e;have IX:Zb (za3 wc (some ⟨gn,0,none⟩) xs):=zd4 O7.X;obtain⟨xn,eL⟩:=nmd xs.length;rw[eL.X]at tz B7;have mI:Zb (xs≠[]/\xs.length=xn):=⟨fun e=>by have:=eL.X;rw[e]at this;simp at this;omega,eL.X⟩;have IG:za9 wc ra R:=by
       have cZ:=D7.X.po;rw[<-cY.X]at cZ;exact cZ.at
      have IH:za3 wc (some ⟨gl,0,none⟩) L:=zd4 (by have:=D7.X.po.l;rw[HM.X]at this;exact this);have C8:=zw6 ra gl 0 rc cl gn 0 ca R L vn xs wc IG IH IX.X (by rw[cY.X];omega) (fun r hr=>⟨(eV.X r hr).1,by have:=(eV.X r hr).2;omega⟩) (by rw[HM.X];omega) ⟨mI.X.1,by rw[eL.X];omega⟩;rw[cY.X,HM.X,eL.X]at C8;have jw:=za4 tz;clear IG IH IX O7 tz x_;obtain⟨p0,p1⟩:=za1 D7.X.bp;obtain⟨n0,n1⟩:=za1 B7.X
      go_wp2_with(first
       |(go_at_call 72
         go_must(refine C8.mono ?_)
         go_must(rintro e w8 ⟨gJ,gA,i',jx,S8,rfl,iM,pn,jy⟩)
         have oL:Zb (S8.length<=R.length+1/\∀s∈S8,s.ids≠[]/\s.ids.length+(j - 1)<=9):=yp5 pn eV.X ⟨mI.X.1,by have:=mI.X.2;have:=jw.X;simp only;omega⟩;have Ns:Zb (∀s∈S8,∀z∈s.ids,P z):=yC2 pn ou.X Nf.X;obtain⟨n8,fN⟩:=nmd S8.length;have DB:=D7.X.below iM;have D8:Zb (PD w ((w8.setCell ⟨kp,0,none⟩ (za gJ n8 gA)).setCell ⟨kp,1,none⟩ (za (some ⟨i',0,none⟩) m jx)) q a bs c #[ze zd n,za (some ⟨g,0,none⟩) zl cg,za (some ⟨go,0,none⟩) ko co,za (some ⟨gv,0,none⟩) kv cv,ze zd fi] kp (za gJ n8 gA) (za (some ⟨i',0,none⟩) m jx) S8 L):=DB.set2 (by
          have:=jy.base (b0:=w.heap.size+2) (by have:=D7.X.size;omega);rw[HM.X,fN.X]at this;exact this)
         rw[fN.X,HM.X];obtain⟨e0,e1⟩:=za1 DB.bp;have ef:=fun i=>yZ _ _ i _ _ DB.bp;have I8:Zb (za3 ((w8.setCell ⟨kp,0,none⟩ (za gJ n8 gA)).setCell ⟨kp,1,none⟩ (za (some ⟨i',0,none⟩) m jx)) (some ⟨i',0,none⟩) L):=zd4 (by have:=D8.X.po.l;rw[HM.X]at this;exact this);clear iM pn jy DB)
       |(go_at_call 73
         go_must(refine(zG5 (some ⟨i',0,none⟩) jx m L id _ I8.X HM.X (by omega)).mono ?_)
         go_must(rintro e w9 ⟨g9,c9,rfl,mo,iV⟩)
         have DC:=D8.X.below mo;have D9:Zb (PD w (w9.setCell ⟨kp,1,none⟩ (za (some ⟨g9,0,none⟩) (zl5 L id).length c9)) q a bs c #[ze zd n,za (some ⟨g,0,none⟩) zl cg,za (some ⟨go,0,none⟩) ko co,za (some ⟨gv,0,none⟩) kv cv,ze zd fi] kp (za gJ n8 gA) (za (some ⟨g9,0,none⟩) (zl5 L id).length c9) S8 (zl5 L id)):=DC.setL (zb5 iV (by have:=D8.X.size;omega));have J9:Zb (DJ S8 (za (some ⟨g9,0,none⟩) (zl5 L id).length c9)):=DJ.new D8.X (fun k e=>(iV.lt k e).1);obtain⟨f0,f1⟩:=za1 DC.bp;have ff:=fun i=>yZ _ _ i _ _ DC.bp;clear mo iV DC))
      go_roundw
      case rel=>exact⟨j - 1,_,_,S8,zl5 L id,by have:=oL.X.1;rw[cY.X]at this;omega,oL.X.2,xj (zH4 _ _) (by rw[HM.X];exact sj),(fun x hx=>kK.X x (y35 hx)),by first|rfl|go_num,J9.X,(fun _=>⟨_,_,_,rfl⟩),Ns.X,D9.X⟩
      case measure=>simp[intOf];omega
  ·obtain⟨p4,lw⟩:=D4.X.r
   have R4:=za4 lw;clear lw;go_upto_region 3 with fail;go_cut [36]from 20 to 35 (fun NB wx=>NB=.bool false/\wr=wx)
   case first=>
    by_cases l':0<j
    ·have B':(0:Int)<(j:Int):=by omega
     cases cb
     ·clear hcond
      go_wp2_with fail
      go_meet;exact⟨rfl,rfl⟩
     ·have Ev:m=0:=by
       by_cases h0:0<m
       ·exact absurd ⟨l',rfl,h0⟩ hcond
       ·omega
      have QT:¬((0:Int)<(m:Int)):=by omega
      clear Ev hcond
      go_wp2_with fail
      go_meet;exact⟨rfl,rfl⟩
    ·have GI:j=0:=by omega
     subst GI;clear hcond l'
     go_wp2_with fail
     go_meet;exact⟨rfl,rfl⟩
   case rest=>
    obtain⟨rfl,rfl⟩:=hcut;clear hcond
    go_wp2_with fail
    refine(zc5 q p4 c 30 a bs _ R4.X (by omega)).mono ?_;rintro e w6 ⟨y6,p6,rfl,bX,cD,hr,hg⟩;obtain⟨y6,rfl⟩:=xp bX;have D6:=za4 (D4.X.read hr hg);clear hr hg D4 R4 bX cD p0 p1 c0 c1 c2 c3 c4;by_cases h29:y6=29
    ·subst h29
     go_wp2_with fail
     refine qG (S:=(fun _=>True)) (by kernel_rfl) ?_ fun aa=> ?_
     ·exact trivial
     have D1:=za4 (D6.X.below (y5 _ _).drew);clear D6;generalize w6.drew=W1 at*;refine tkH 0 aa ?_;refine tkH 2 aa ?_;refine xQ (rs:=[1,3]) (by kernel_rfl) (by simp) ?_;refine xL rfl (fun K hK=> ?_) ?_
     ·skip
      obtain⟨t0,t1⟩:=za1 D1.X.bp;go_simp;refine hoW hK trivial fun aa=> ?_;clear hK K;refine rdH 3 fun K hK=> ?_;obtain⟨pb,fI⟩:=D1.X.r;go_simp;refine(zn5 q pb c 1 6 a bs _ fI (by omega) (by omega) (by omega) (by omega)).mono ?_;rintro e wo ⟨f7,p7,rfl,oE,rL,hr,hg⟩;have Do:=za4 (D1.X.read hr hg);have Ct:Zb (-9223372036854775808<=f7/\f7<9223372036854775808):=⟨oE,rL⟩;clear hr hg oE rL fI
      (try go_wp2_with fail)
      refine hoW hK trivial fun aa=> ?_;clear hK K;refine rdH 4 fun K hK=> ?_;have Da:Zb (PD w (wo.alloc (zg #[ze zd f7] 2)) q a bs c #[ze zd n,za (some ⟨g,0,none⟩) zl cg,za (some ⟨go,0,none⟩) ko co,za (some ⟨gv,0,none⟩) kv cv,ze zd fi] kp (za ra nr rc) (za ak m cl) R L):=Do.X.below (zP _);have I7:=za4 (ze2 wo f7);go_simp;refine hoW hK trivial fun aa=> ?_;clear hK K;obtain⟨ka,dL⟩:=nmd wo.heap.size;rw[dL.X]at I7⊢;generalize wo.alloc _=Wa at*;refine rdH 5 fun K hK=> ?_;refine zd7 rfl (.tmp 88) (.tmp 91) rfl (w.heap.size+2) (za ak m cl) L m rfl (by have:=Da.X.po.l;rw[HM.X]at this;exact this) ka 0 1 1 [f7] rfl rfl I7.X (by omega) (by omega) (by have:=Da.X.size;omega) ?_;intro v' wp ho hg h_;rcases own_kinds ho with⟨_,e0⟩|⟨g9,c9,e9,-,-⟩
      ·omega
      subst e9;have Dp:Zb (PD w (wp.setCell ⟨kp,1,none⟩ (za (some ⟨g9,0,none⟩) (m+1) c9)) q a bs c #[ze zd n,za (some ⟨g,0,none⟩) zl cg,za (some ⟨go,0,none⟩) ko co,za (some ⟨gv,0,none⟩) kv cv,ze zd fi] kp (za ra nr rc) (za (some ⟨g9,0,none⟩) (m+1) c9) R (L++[f7])):=Da.X.addL AJ.X hg (by rw[xY,HM.X];exact ho);have eT:=za6 hg Da.X.bp (fun e=>(Da.X.rowL' _ e.symm).2 rfl);obtain⟨x4,y4⟩:=za1 eT;have xf:=fun i=>yZ _ _ i _ _ eT;clear ho hg h_ eT;refine hoW hK trivial fun aa=> ?_;clear hK K;refine tkH 6 aa ?_;refine rdH 7 fun K hK=> ?_;go_simp;refine hoW hK trivial fun aa=> ?_;clear hK K;clear x4 y4 xf;generalize wp.setCell ⟨kp,1,none⟩ _=Wz at*;refine qF (by kernel_rfl) ?_ _;obtain⟨t0,t1⟩:=za1 Dp.X.bp;obtain⟨b0,b1⟩:=za1 Dp.X.b0;have bf:=fun i=>yZ _ _ i _ _ Dp.X.b0;go_wp2;exact Dp.X.done (by rw[cY.X];omega) (fun r hr=>by have:=(eV.X r hr).2;omega) (by rw[xY,HM.X];simp;omega) (fun x hx=>(yj.1 hx).elim (kK.X x) (fun h=>by rw[show x=f7 by simpa using h];exact Ct.X)) ou.X (fun _=>⟨_,_,_,rfl⟩) _ (by rfl) (by rfl)
     refine xL rfl (fun K hK=> ?_) xP;obtain⟨pb,fI⟩:=D1.X.r;go_simp;refine(zn5 q pb c 1 6 a bs _ fI (by omega) (by omega) (by omega) (by omega)).mono ?_;rintro e wo ⟨f7,p7,rfl,oE,rL,hr,hg⟩;have Do:=za4 (D1.X.read hr hg);have Ct:Zb (-9223372036854775808<=f7/\f7<9223372036854775808):=⟨oE,rL⟩;clear hr hg oE rL fI
     (try go_wp2_with fail)
     refine hoW hK trivial fun aa=> ?_;clear hK K;refine xQ (rs:=[1,4]) (by kernel_rfl) (by simp) ?_;refine xL rfl (fun K hK=> ?_) ?_
     ·skip
      obtain⟨t0,t1⟩:=za1 Do.X.bp;go_simp;refine hoW hK trivial fun aa=> ?_;clear hK K;refine rdH 4 fun K hK=> ?_;have Da:Zb (PD w (wo.alloc (zg #[ze zd f7] 2)) q a bs c #[ze zd n,za (some ⟨g,0,none⟩) zl cg,za (some ⟨go,0,none⟩) ko co,za (some ⟨gv,0,none⟩) kv cv,ze zd fi] kp (za ra nr rc) (za ak m cl) R L):=Do.X.below (zP _);have I7:=za4 (ze2 wo f7);go_simp;refine hoW hK trivial fun aa=> ?_;clear hK K;obtain⟨ka,dL⟩:=nmd wo.heap.size;rw[dL.X]at I7⊢;generalize wo.alloc _=Wa at*;refine rdH 5 fun K hK=> ?_;refine zd7 rfl (.tmp 88) (.tmp 91) rfl (w.heap.size+2) (za ak m cl) L m rfl (by have:=Da.X.po.l;rw[HM.X]at this;exact this) ka 0 1 1 [f7] rfl rfl I7.X (by omega) (by omega) (by have:=Da.X.size;omega) ?_;intro v' wp ho hg h_;rcases own_kinds ho with⟨_,e0⟩|⟨g9,c9,e9,-,-⟩
      ·omega
      subst e9;have Dp:Zb (PD w (wp.setCell ⟨kp,1,none⟩ (za (some ⟨g9,0,none⟩) (m+1) c9)) q a bs c #[ze zd n,za (some ⟨g,0,none⟩) zl cg,za (some ⟨go,0,none⟩) ko co,za (some ⟨gv,0,none⟩) kv cv,ze zd fi] kp (za ra nr rc) (za (some ⟨g9,0,none⟩) (m+1) c9) R (L++[f7])):=Da.X.addL AJ.X hg (by rw[xY,HM.X];exact ho);have eT:=za6 hg Da.X.bp (fun e=>(Da.X.rowL' _ e.symm).2 rfl);obtain⟨x4,y4⟩:=za1 eT;have xf:=fun i=>yZ _ _ i _ _ eT;clear ho hg h_ eT;refine hoW hK trivial fun aa=> ?_;clear hK K;refine tkH 6 aa ?_;refine rdH 7 fun K hK=> ?_;go_simp;refine hoW hK trivial fun aa=> ?_;clear hK K;clear x4 y4 xf;generalize wp.setCell ⟨kp,1,none⟩ _=Wz at*;refine qF (by kernel_rfl) ?_ _;obtain⟨t0,t1⟩:=za1 Dp.X.bp;obtain⟨b0,b1⟩:=za1 Dp.X.b0;have bf:=fun i=>yZ _ _ i _ _ Dp.X.b0;go_wp2;exact Dp.X.done (by rw[cY.X];omega) (fun r hr=>by have:=(eV.X r hr).2;omega) (by rw[xY,HM.X];simp;omega) (fun x hx=>(yj.1 hx).elim (kK.X x) (fun h=>by rw[show x=f7 by simpa using h];exact Ct.X)) ou.X (fun _=>⟨_,_,_,rfl⟩) _ (by rfl) (by rfl)
     refine xL rfl (fun K hK=> ?_) xP;have Da:Zb (PD w (wo.alloc (zg #[ze zd f7] 2)) q a bs c #[ze zd n,za (some ⟨g,0,none⟩) zl cg,za (some ⟨go,0,none⟩) ko co,za (some ⟨gv,0,none⟩) kv cv,ze zd fi] kp (za ra nr rc) (za ak m cl) R L):=Do.X.below (zP _);have I7:=za4 (ze2 wo f7);go_simp;refine hoW hK trivial fun aa=> ?_;clear hK K;obtain⟨ka,dL⟩:=nmd wo.heap.size;rw[dL.X]at I7⊢;generalize wo.alloc _=Wa at*;refine rdH 1 fun K hK=> ?_;obtain⟨t0,t1⟩:=za1 Da.X.bp;go_simp;refine hoW hK trivial fun aa=> ?_;clear hK K;refine rdH 5 fun K hK=> ?_;refine zd7 rfl (.tmp 88) (.tmp 91) rfl (w.heap.size+2) (za ak m cl) L m rfl (by have:=Da.X.po.l;rw[HM.X]at this;exact this) ka 0 1 1 [f7] rfl rfl I7.X (by omega) (by omega) (by have:=Da.X.size;omega) ?_;intro v' wp ho hg h_;rcases own_kinds ho with⟨_,e0⟩|⟨g9,c9,e9,-,-⟩
     ·omega
     subst e9;have Dp:Zb (PD w (wp.setCell ⟨kp,1,none⟩ (za (some ⟨g9,0,none⟩) (m+1) c9)) q a bs c #[ze zd n,za (some ⟨g,0,none⟩) zl cg,za (some ⟨go,0,none⟩) ko co,za (some ⟨gv,0,none⟩) kv cv,ze zd fi] kp (za ra nr rc) (za (some ⟨g9,0,none⟩) (m+1) c9) R (L++[f7])):=Da.X.addL AJ.X hg (by rw[xY,HM.X];exact ho);have eT:=za6 hg Da.X.bp (fun e=>(Da.X.rowL' _ e.symm).2 rfl);obtain⟨x4,y4⟩:=za1 eT;have xf:=fun i=>yZ _ _ i _ _ eT;clear ho hg h_ eT;refine hoW hK trivial fun aa=> ?_;clear hK K;refine tkH 6 aa ?_;refine rdH 7 fun K hK=> ?_;go_simp;refine hoW hK trivial fun aa=> ?_;clear hK K;clear x4 y4 xf;generalize wp.setCell ⟨kp,1,none⟩ _=Wz at*;refine qF (by kernel_rfl) ?_ _;obtain⟨t0,t1⟩:=za1 Dp.X.bp;obtain⟨b0,b1⟩:=za1 Dp.X.b0;have bf:=fun i=>yZ _ _ i _ _ Dp.X.b0;go_wp2;exact Dp.X.done (by rw[cY.X];omega) (fun r hr=>by have:=(eV.X r hr).2;omega) (by rw[xY,HM.X];simp;omega) (fun x hx=>(yj.1 hx).elim (kK.X x) (fun h=>by rw[show x=f7 by simpa using h];exact Ct.X)) ou.X (fun _=>⟨_,_,_,rfl⟩) _ (by rfl) (by rfl)
    ·by_cases h28:y6=28
     ·subst h28
      clear h29;have kS:=zc6 (D6.X.below (y5 _ _).drew).bc
      go_wp2_with fail
      refine qG (S:=(fun W=>W.cell? ⟨w.heap.size,0,none⟩=some (ze zd n)/\W.cell? ⟨w.heap.size,1,none⟩=some (za (some ⟨g,0,none⟩) zl cg)/\W.cell? ⟨w.heap.size,2,none⟩=some (za (some ⟨go,0,none⟩) ko co)/\W.cell? ⟨w.heap.size,3,none⟩=some (za (some ⟨gv,0,none⟩) kv cv)/\W.cell? ⟨w.heap.size,4,none⟩=some (ze zd fi))) (by kernel_rfl) ?_ fun aa=> ?_
      ·exact kS
      have D1:=za4 (D6.X.below (y5 _ _).drew);clear D6;generalize w6.drew=W1 at*;refine tkH 0 aa ?_;refine tkH 2 aa ?_;refine tkH 3 aa ?_;refine xQ (rs:=[1,4]) (by kernel_rfl) (by simp) ?_;refine xL rfl (fun K hK=> ?_) ?_
      ·skip
       obtain⟨t0,t1⟩:=za1 D1.X.bp;go_simp;refine hoW hK (zc6 D1.X.bc) fun aa=> ?_;clear hK K;refine rdH 4 fun K hK=> ?_;obtain⟨pb,fI⟩:=D1.X.r;go_simp;refine(zK8 P q pb c n fi g zl cg go ko co gv kv cv O V a bs _ fI (D1.X.ints HO.X.1 HO.X.2) (D1.X.ints HV.X.1 HV.X.2) HO.X.2 HV.X.2 aF.X aE.X eA cN jK sq Df.X wU.X).mono ?_;rintro e wo ⟨ab,sl,Lr,rfl,gT,hg,⟨p7,hr⟩,ho,AK⟩;have CG:=za4 AK;clear AK;obtain⟨ax,cx,e⟩:=zp0 ho;subst e;have Do:=za4 (D1.X.read hr hg);have OX:Zb (wo.ownsRow (w.heap.size+2) 2 1 (za ax Lr.length cx) Lr.length (Lr.map (ze zd))):=zb5 ho (by have:=D1.X.size;omega);obtain⟨lr,mg⟩:=nmd Lr.length;rw[mg.X]at gT OX⊢;clear hr hg ho fI
       (try go_wp2_with fail)
       refine hoW hK (zc6 Do.X.bc) fun aa=> ?_;clear hK K;refine rdH 5 fun K hK=> ?_;have Da:Zb (PD w (wo.alloc (zg #[ze zd ab,za ax lr cx] 80)) q a bs c #[ze zd n,za (some ⟨g,0,none⟩) zl cg,za (some ⟨go,0,none⟩) ko co,za (some ⟨gv,0,none⟩) kv cv,ze zd fi] kp (za ra nr rc) (za ak m cl) R L):=Do.X.below (zP _);have OA:Zb (zk (wo.alloc (zg #[ze zd ab,za ax lr cx] 80)) (w.heap.size+2) 2 1 (za ax lr cx) lr (Lr.map (ze zd))):=OX.X.alloc _;have I7:Zb (∀j u,[ze zd ab,za ax lr cx][j]? =some u->zC (wo.alloc (zg #[ze zd ab,za ax lr cx] 80)) ⟨wo.heap.size,0+j,none⟩=some u):=ze0 _ _ _ _ _ rfl;go_simp;refine hoW hK (zc6 Da.X.bc) fun aa=> ?_;clear hK K;obtain⟨ka,dL⟩:=nmd wo.heap.size;rw[dL.X]at I7⊢;generalize wo.alloc _=Wa at*;refine rdH 6 fun K hK=> ?_;refine zd3 qB zm8 (by rfl) (by omega) rfl (.tmp 97) (.tmp 101) rfl (w.heap.size+2) (za ra nr rc) nr (zj5 R) rfl (by have:=Da.X.po.r;rw[cY.X]at this;exact this) ka 0 1 1 [ze zd ab,za ax lr cx] rfl rfl I7.X (by simp[zq]) (by omega) (by omega) (by have:=Da.X.size;omega) ?_;intro v' wp ho hg bd h_;rcases own_kinds ho with⟨_,e0⟩|⟨g9,c9,e9,-,-⟩
       ·omega
       subst e9;have Dp:Zb (PD w (wp.setCell ⟨kp,0,none⟩ (za (some ⟨g9,0,none⟩) (nr+1) c9)) q a bs c #[ze zd n,za (some ⟨g,0,none⟩) zl cg,za (some ⟨go,0,none⟩) ko co,za (some ⟨gv,0,none⟩) kv cv,ze zd fi] kp (za (some ⟨g9,0,none⟩) (nr+1) c9) (za ak m cl) (R++[⟨ab,ax,Lr,cx⟩]) L):=Da.X.addR (r:=⟨ab,ax,Lr,cx⟩) (by have:=OA.X;rw[<-mg.X]at this;exact this) hg (by rw[cY.X];show zk _ _ _ _ _ _ (_++[_,za _ Lr.length _]);rw[mg.X];exact ho);have eT:=za6 hg Da.X.bp (fun e=>(Da.X.rowR' _ e.symm).2 rfl);obtain⟨x4,y4⟩:=za1 eT;have xf:=fun i=>yZ _ _ i _ _ eT;have x':=za6 hg Da.X.bc (fun e=>by have:=(Da.X.rowR' _ e.symm).1;omega);clear ho hg bd h_ eT;refine hoW hK (zc6 x') fun aa=> ?_;clear hK K;refine tkH 7 aa ?_;refine rdH 8 fun K hK=> ?_;go_simp;refine hoW hK (zc6 Dp.X.bc) fun aa=> ?_;clear hK K;clear x4 y4 xf;generalize wp.setCell ⟨kp,0,none⟩ _=Wz at*;refine qF (by kernel_rfl) ?_ _;obtain⟨t0,t1⟩:=za1 Dp.X.bp;obtain⟨b0,b1⟩:=za1 Dp.X.b0;have bf:=fun i=>yZ _ _ i _ _ Dp.X.b0;go_wp2;exact Dp.X.done (by rw[xY,cY.X];simp;omega) (fun r hr=>(yj.1 hr).elim (fun h=>by have:=(eV.X r h).2;omega) (fun h=>by rw[show r=⟨ab,ax,Lr,cx⟩ by simpa using h];show Lr.length<=9;rw[mg.X];omega)) (by rw[HM.X];omega) kK.X (fun r hr=>(yj.1 hr).elim (ou.X r) (fun h=>by rw[show r=⟨ab,ax,Lr,cx⟩ by simpa using h];exact CG.X)) (by have:=pS.X;rw[HM.X]at this;exact this) _ (by rfl) (by rfl)
      refine xL rfl (fun K hK=> ?_) xP;obtain⟨pb,fI⟩:=D1.X.r;go_simp;refine(zK8 P q pb c n fi g zl cg go ko co gv kv cv O V a bs _ fI (D1.X.ints HO.X.1 HO.X.2) (D1.X.ints HV.X.1 HV.X.2) HO.X.2 HV.X.2 aF.X aE.X eA cN jK sq Df.X wU.X).mono ?_;rintro e wo ⟨ab,sl,Lr,rfl,gT,hg,⟨p7,hr⟩,ho,AK⟩;have CG:=za4 AK;clear AK;obtain⟨ax,cx,e⟩:=zp0 ho;subst e;have Do:=za4 (D1.X.read hr hg);have OX:Zb (wo.ownsRow (w.heap.size+2) 2 1 (za ax Lr.length cx) Lr.length (Lr.map (ze zd))):=zb5 ho (by have:=D1.X.size;omega);obtain⟨lr,mg⟩:=nmd Lr.length;rw[mg.X]at gT OX⊢;clear hr hg ho fI
      (try go_wp2_with fail)
      refine hoW hK (zc6 Do.X.bc) fun aa=> ?_;clear hK K;refine xQ (rs:=[1,5]) (by kernel_rfl) (by simp) ?_;refine xL rfl (fun K hK=> ?_) ?_
      ·skip
       obtain⟨t0,t1⟩:=za1 Do.X.bp;go_simp;refine hoW hK (zc6 Do.X.bc) fun aa=> ?_;clear hK K;refine rdH 5 fun K hK=> ?_;have Da:Zb (PD w (wo.alloc (zg #[ze zd ab,za ax lr cx] 80)) q a bs c #[ze zd n,za (some ⟨g,0,none⟩) zl cg,za (some ⟨go,0,none⟩) ko co,za (some ⟨gv,0,none⟩) kv cv,ze zd fi] kp (za ra nr rc) (za ak m cl) R L):=Do.X.below (zP _);have OA:Zb (zk (wo.alloc (zg #[ze zd ab,za ax lr cx] 80)) (w.heap.size+2) 2 1 (za ax lr cx) lr (Lr.map (ze zd))):=OX.X.alloc _;have I7:Zb (∀j u,[ze zd ab,za ax lr cx][j]? =some u->zC (wo.alloc (zg #[ze zd ab,za ax lr cx] 80)) ⟨wo.heap.size,0+j,none⟩=some u):=ze0 _ _ _ _ _ rfl;go_simp;refine hoW hK (zc6 Da.X.bc) fun aa=> ?_;clear hK K;obtain⟨ka,dL⟩:=nmd wo.heap.size;rw[dL.X]at I7⊢;generalize wo.alloc _=Wa at*;refine rdH 6 fun K hK=> ?_;refine zd3 qB zm8 (by rfl) (by omega) rfl (.tmp 97) (.tmp 101) rfl (w.heap.size+2) (za ra nr rc) nr (zj5 R) rfl (by have:=Da.X.po.r;rw[cY.X]at this;exact this) ka 0 1 1 [ze zd ab,za ax lr cx] rfl rfl I7.X (by simp[zq]) (by omega) (by omega) (by have:=Da.X.size;omega) ?_;intro v' wp ho hg bd h_;rcases own_kinds ho with⟨_,e0⟩|⟨g9,c9,e9,-,-⟩
       ·omega
       subst e9;have Dp:Zb (PD w (wp.setCell ⟨kp,0,none⟩ (za (some ⟨g9,0,none⟩) (nr+1) c9)) q a bs c #[ze zd n,za (some ⟨g,0,none⟩) zl cg,za (some ⟨go,0,none⟩) ko co,za (some ⟨gv,0,none⟩) kv cv,ze zd fi] kp (za (some ⟨g9,0,none⟩) (nr+1) c9) (za ak m cl) (R++[⟨ab,ax,Lr,cx⟩]) L):=Da.X.addR (r:=⟨ab,ax,Lr,cx⟩) (by have:=OA.X;rw[<-mg.X]at this;exact this) hg (by rw[cY.X];show zk _ _ _ _ _ _ (_++[_,za _ Lr.length _]);rw[mg.X];exact ho);have eT:=za6 hg Da.X.bp (fun e=>(Da.X.rowR' _ e.symm).2 rfl);obtain⟨x4,y4⟩:=za1 eT;have xf:=fun i=>yZ _ _ i _ _ eT;have x':=za6 hg Da.X.bc (fun e=>by have:=(Da.X.rowR' _ e.symm).1;omega);clear ho hg bd h_ eT;refine hoW hK (zc6 x') fun aa=> ?_;clear hK K;refine tkH 7 aa ?_;refine rdH 8 fun K hK=> ?_;go_simp;refine hoW hK (zc6 Dp.X.bc) fun aa=> ?_;clear hK K;clear x4 y4 xf;generalize wp.setCell ⟨kp,0,none⟩ _=Wz at*;refine qF (by kernel_rfl) ?_ _;obtain⟨t0,t1⟩:=za1 Dp.X.bp;obtain⟨b0,b1⟩:=za1 Dp.X.b0;have bf:=fun i=>yZ _ _ i _ _ Dp.X.b0;go_wp2;exact Dp.X.done (by rw[xY,cY.X];simp;omega) (fun r hr=>(yj.1 hr).elim (fun h=>by have:=(eV.X r h).2;omega) (fun h=>by rw[show r=⟨ab,ax,Lr,cx⟩ by simpa using h];show Lr.length<=9;rw[mg.X];omega)) (by rw[HM.X];omega) kK.X (fun r hr=>(yj.1 hr).elim (ou.X r) (fun h=>by rw[show r=⟨ab,ax,Lr,cx⟩ by simpa using h];exact CG.X)) (by have:=pS.X;rw[HM.X]at this;exact this) _ (by rfl) (by rfl)
      refine xL rfl (fun K hK=> ?_) xP;have Da:Zb (PD w (wo.alloc (zg #[ze zd ab,za ax lr cx] 80)) q a bs c #[ze zd n,za (some ⟨g,0,none⟩) zl cg,za (some ⟨go,0,none⟩) ko co,za (some ⟨gv,0,none⟩) kv cv,ze zd fi] kp (za ra nr rc) (za ak m cl) R L):=Do.X.below (zP _);have OA:Zb (zk (wo.alloc (zg #[ze zd ab,za ax lr cx] 80)) (w.heap.size+2) 2 1 (za ax lr cx) lr (Lr.map (ze zd))):=OX.X.alloc _;have I7:Zb (∀j u,[ze zd ab,za ax lr cx][j]? =some u->zC (wo.alloc (zg #[ze zd ab,za ax lr cx] 80)) ⟨wo.heap.size,0+j,none⟩=some u):=ze0 _ _ _ _ _ rfl;go_simp;refine hoW hK (zc6 Da.X.bc) fun aa=> ?_;clear hK K;obtain⟨ka,dL⟩:=nmd wo.heap.size;rw[dL.X]at I7⊢;generalize wo.alloc _=Wa at*;refine rdH 1 fun K hK=> ?_;obtain⟨t0,t1⟩:=za1 Da.X.bp;go_simp;refine hoW hK (zc6 Da.X.bc) fun aa=> ?_;clear hK K;refine rdH 6 fun K hK=> ?_;refine zd3 qB zm8 (by rfl) (by omega) rfl (.tmp 97) (.tmp 101) rfl (w.heap.size+2) (za ra nr rc) nr (zj5 R) rfl (by have:=Da.X.po.r;rw[cY.X]at this;exact this) ka 0 1 1 [ze zd ab,za ax lr cx] rfl rfl I7.X (by simp[zq]) (by omega) (by omega) (by have:=Da.X.size;omega) ?_;intro v' wp ho hg bd h_;rcases own_kinds ho with⟨_,e0⟩|⟨g9,c9,e9,-,-⟩
      ·omega
      subst e9;have Dp:Zb (PD w (wp.setCell ⟨kp,0,none⟩ (za (some ⟨g9,0,none⟩) (nr+1) c9)) q a bs c #[ze zd n,za (some ⟨g,0,none⟩) zl cg,za (some ⟨go,0,none⟩) ko co,za (some ⟨gv,0,none⟩) kv cv,ze zd fi] kp (za (some ⟨g9,0,none⟩) (nr+1) c9) (za ak m cl) (R++[⟨ab,ax,Lr,cx⟩]) L):=Da.X.addR (r:=⟨ab,ax,Lr,cx⟩) (by have:=OA.X;rw[<-mg.X]at this;exact this) hg (by rw[cY.X];show zk _ _ _ _ _ _ (_++[_,za _ Lr.length _]);rw[mg.X];exact ho);have eT:=za6 hg Da.X.bp (fun e=>(Da.X.rowR' _ e.symm).2 rfl);obtain⟨x4,y4⟩:=za1 eT;have xf:=fun i=>yZ _ _ i _ _ eT;have x':=za6 hg Da.X.bc (fun e=>by have:=(Da.X.rowR' _ e.symm).1;omega);clear ho hg bd h_ eT;refine hoW hK (zc6 x') fun aa=> ?_;clear hK K;refine tkH 7 aa ?_;refine rdH 8 fun K hK=> ?_;go_simp;refine hoW hK (zc6 Dp.X.bc) fun aa=> ?_;clear hK K;clear x4 y4 xf;generalize wp.setCell ⟨kp,0,none⟩ _=Wz at*;refine qF (by kernel_rfl) ?_ _;obtain⟨t0,t1⟩:=za1 Dp.X.bp;obtain⟨b0,b1⟩:=za1 Dp.X.b0;have bf:=fun i=>yZ _ _ i _ _ Dp.X.b0;go_wp2;exact Dp.X.done (by rw[xY,cY.X];simp;omega) (fun r hr=>(yj.1 hr).elim (fun h=>by have:=(eV.X r h).2;omega) (fun h=>by rw[show r=⟨ab,ax,Lr,cx⟩ by simpa using h];show Lr.length<=9;rw[mg.X];omega)) (by rw[HM.X];omega) kK.X (fun r hr=>(yj.1 hr).elim (ou.X r) (fun h=>by rw[show r=⟨ab,ax,Lr,cx⟩ by simpa using h];exact CG.X)) (by have:=pS.X;rw[HM.X]at this;exact this) _ (by rfl) (by rfl)
     ·have Re:((y6:Int)==29)=false:=by simp;omega
      have Rj:((y6:Int)==28)=false:=by simp;omega
      clear h29 h28;obtain⟨t0,t1⟩:=za1 D6.X.bp;obtain⟨b0,b1⟩:=za1 D6.X.b0;have bf:=fun i=>yZ _ _ i _ _ D6.X.b0;go_wp2;exact D6.X.done (by rw[cY.X];omega) (fun r hr=>by have:=(eV.X r hr).2;omega) (by rw[HM.X];omega) kK.X ou.X (by have:=pS.X;rw[HM.X]at this;exact this) _ (by rfl) (by rfl)
structure C0(w W:zi)(q:Nat)(a:Option Zd)(bs:List Int)(c:Nat):Prop where
 gr:w.grownBy W (some q)
 r0:∃p,RD w q a bs c p
 b0:W.heap[w.heap.size]? =some (zg #[ze zd 0,za none 0 0,za none 0 0,za none 0 0,ze zd 0] 30 (0,0))
theorem C0.read{w W W':zi}{q:Nat}{a:Option Zd}{bs:List Int}{c:Nat}(h:C0 w W q a bs c)(hg:W.grownBy W' (some q)):C0 w W' q a bs c:=by
 have hl:q<w.heap.size:=by obtain⟨p0,h0⟩:=h.r0;exact za2 h0.1
 exact⟨zb4 h.gr hg,h.r0,za6 hg h.b0 (fun e=>by injection e with e;omega)⟩
theorem C0.below{w W W':zi}{q:Nat}{a:Option Zd}{bs:List Int}{c:Nat}(h:C0 w W q a bs c)(hb:Za W.heap.size W W'):C0 w W' q a bs c:=
 ⟨zp9 h.gr hb,h.r0,za0 hb (za2 h.b0) h.b0⟩
theorem C0.size{w W:zi}{q:Nat}{a:Option Zd}{bs:List Int}{c:Nat}(h:C0 w W q a bs c):w.heap.size<W.heap.size:=za2 h.b0
theorem CD.new{w W:zi}{q:Nat}{a:Option Zd}{bs:List Int}{c p:Nat}{n:Int}{g zl cg:Nat}{zs:List Int}{fi:Int}(h:C0 w W q a bs c)(hr:RD W q a bs c p)(hi:za3 W (some ⟨g,0,none⟩) zs)(hg:w.heap.size<g)(hz:0<zs.length):CD w (W.alloc (zg #[ze zd n,za (some ⟨g,0,none⟩) zl cg,za none 0 0,za none 0 0,ze zd fi] 30)) q a bs c W.heap.size n g zl cg zs (za none 0 0) 0 [] (za none 0 0) 0 [] fi:=by
 have ha:Za W.heap.size W (W.alloc (zg #[ze zd n,za (some ⟨g,0,none⟩) zl cg,za none 0 0,za none 0 0,ze zd fi] 30)):=zP _;have DQ:g<W.heap.size:=by
  obtain⟨b,off,e,hc⟩:=hi 0 hz;simp at e;obtain⟨rfl,rfl⟩:=e;exact zV hc
 exact⟨(h.below ha).gr,h.r0,⟨p,hr.below ha⟩,(h.below ha).b0,zS _ _,⟨h.size,hg,by omega,hz⟩,hi.below ha,xZ _ _ _ _,xZ _ _ _ _,fun b e=>(by cases e),fun b e=>(by cases e),fun b e=>(by cases e)⟩
def y49(w:zi)(q:Nat)(a:Option Zd)(bs:List Int)(c m:Nat)(e:Ending)(w':zi):Prop:=∃(n:Int) (g zl cg go ko co gv kv cv:Nat) (zs O V:List Int) (fi:Int),
 e=.returned (.agg #[ze zd n,za (some ⟨g,0,none⟩) zl cg,za (some ⟨go,0,none⟩) ko co,za (some ⟨gv,0,none⟩) kv cv,ze zd fi])/\(zs.length=zl/\O.length=ko*6/\V.length=kv*5/\1<=ko/\ko<=m/\1<=kv/\kv<=3)∧
 w.grownBy w' (some q)/\(∃p,RD w' q a bs c p)/\za3 w' (some ⟨g,0,none⟩) zs/\za3 w' (some ⟨go,0,none⟩) O/\za3 w' (some ⟨gv,0,none⟩) V/\(w.heap.size<=g/\w.heap.size<=go/\w.heap.size<=gv/\0<zs.length)
def zX6(w:zi)(q:Nat)(a:Option Zd)(bs:List Int)(c m:Nat)(e:Ending)(w':zi):Prop:=∃(n:Int) (g zl cg go ko co gv kv cv:Nat) (zs O V:List Int) (fi:Int),
 e=.returned (.agg #[ze zd n,za (some ⟨g,0,none⟩) zl cg,za (some ⟨go,0,none⟩) ko co,za (some ⟨gv,0,none⟩) kv cv,ze zd fi])/\(zs.length=zl/\O.length=ko*6/\V.length=kv*5/\1<=ko/\ko<=m/\1<=kv/\kv<=3)∧
 w.grownBy w' (some q)/\(∃p,RD w' q a bs c p)/\za3 w' (some ⟨g,0,none⟩) zs/\za3 w' (some ⟨go,0,none⟩) O/\za3 w' (some ⟨gv,0,none⟩) V/\(w.heap.size<=g/\w.heap.size<=go/\w.heap.size<=gv/\0<zs.length)/\zl<=cg
theorem zJ2:(Tryz.prog.info? 30).map (·.size)=some 5:=by kernel_rfl
theorem CD.done{w W:zi}{q:Nat}{a:Option Zd}{bs:List Int}{c k:Nat}{n:Int}{g zl cg go co gv cv ko kv:Nat}{zs O V:List Int}{fi:Int}{m:Nat}(h:CD w W q a bs c k n g zl cg zs (za (some ⟨go,0,none⟩) ko co) ko O (za (some ⟨gv,0,none⟩) kv cv) kv V fi)
 (hz:zs.length=zl) (sF:zl<=cg) (h1:1<=ko) (h2:ko<=m) (h3:1<=kv) (h4:kv<=3) (A:Act) (hp:A.tmps.getD 4 undef=.pointer (some ⟨w.heap.size,0,none⟩)) (uu:A.defers=[]):
 bodyPost zh Tryz.f26 (zX6 w q a bs c m) Exit.ret A (((((W.setCell ⟨w.heap.size,0,none⟩ (ze zd n)).setCell ⟨w.heap.size,1,none⟩ (za (some ⟨g,0,none⟩) zl cg)).setCell ⟨w.heap.size,2,none⟩ (za (some ⟨go,0,none⟩) ko co)).setCell ⟨w.heap.size,3,none⟩ (za (some ⟨gv,0,none⟩) kv cv)).setCell ⟨w.heap.size,4,none⟩ (ze zd fi)):=by
 obtain⟨p,hr⟩:=h.r;obtain⟨p0,cO⟩:=h.r0;obtain⟨g1,g2,g3,g4⟩:=h.h;have lE:=(h.o.lt go rfl).1;have vI:=(h.v.lt gv rfl).1;have bh:∀b,some w.heap.size=some b->w.heap.size<=b:=fun b e=>by injection e with e;omega
 have aM:(((((W.setCell ⟨w.heap.size,0,none⟩ (ze zd n)).setCell ⟨w.heap.size,1,none⟩ (za (some ⟨g,0,none⟩) zl cg)).setCell ⟨w.heap.size,2,none⟩ (za (some ⟨go,0,none⟩) ko co)).setCell ⟨w.heap.size,3,none⟩ (za (some ⟨gv,0,none⟩) kv cv)).setCell ⟨w.heap.size,4,none⟩ (ze zd fi)).heap[w.heap.size]? =some (zg #[ze zd n,za (some ⟨g,0,none⟩) zl cg,za (some ⟨go,0,none⟩) ko co,za (some ⟨gv,0,none⟩) kv cv,ze zd fi] 30 (0,0)):=by
  have:=ze1 (i:=4) (ze zd fi) (ze1 (i:=3) (za (some ⟨gv,0,none⟩) kv cv) (ze1 (i:=2) (za (some ⟨go,0,none⟩) ko co) (ze1 (i:=1) (za (some ⟨g,0,none⟩) zl cg) (ze1 (i:=0) (ze zd n) h.b0))));simpa using this
 have hs:W.grownBy (((((W.setCell ⟨w.heap.size,0,none⟩ (ze zd n)).setCell ⟨w.heap.size,1,none⟩ (za (some ⟨g,0,none⟩) zl cg)).setCell ⟨w.heap.size,2,none⟩ (za (some ⟨go,0,none⟩) ko co)).setCell ⟨w.heap.size,3,none⟩ (za (some ⟨gv,0,none⟩) kv cv)).setCell ⟨w.heap.size,4,none⟩ (ze zd fi)) (some w.heap.size):=
  zb4 (zb4 (zb4 (zb4 (zb3 _ _ _ _) (zb3 _ _ _ _)) (zb3 _ _ _ _)) (zb3 _ _ _ _)) (zb3 _ _ _ _)
 have lo:=h.o.1;have lv:=h.v.1;rw[qz]at lo lv;refine xe (v:=.agg #[ze zd n,za (some ⟨g,0,none⟩) zl cg,za (some ⟨go,0,none⟩) ko co,za (some ⟨gv,0,none⟩) kv cv,ze zd fi]) (results_cell_row Tryz.results26 _ _ w.heap.size 30 _ (0,0) _ hp aM Tryz.underlying30 rfl zJ2) uu
  ⟨n,g,zl,cg,go,ko,co,gv,kv,cv,zs,O,V,fi,rfl,⟨hz,lo,lv,h1,h2,h3,h4⟩,zd2 h.gr hs bh,⟨p,RD.kept2 cO hr hs bh⟩,zj7 h.i hs (fun e=>by injection e with e;omega),zj7 (zd4 h.o) hs (fun e=>by injection e with e;omega),zj7 (zd4 h.v) hs (fun e=>by injection e with e;omega),⟨by omega,by omega,by omega,g4⟩,sF⟩
structure VS(w W:zi)(q:Nat)(a:Option Zd)(bs:List Int)(c k:Nat)(n:Int)(g zl cg:Nat)(zs:List Int)(oo:Value)(ko:Nat)(O:List Int)(ov:Value)(kv:Nat)(V:List Int)(fi:Int)(ks ka:Option Nat):Prop where
 d:CD w W q a bs c k n g zl cg zs oo ko O ov kv V fi
 s:∀x,ks=some x->zh1 w W k g oo ov x #[ze zd 5,ze zd 10,ze zd 100] 2
 b:∀x,ka=some x->zh1 w W k g oo ov x #[ze zd 0,ze zd 0,ze zd 0,ze zd 0,ze zd 0] 107
section
variable {w W W':zi} {q:Nat} {a:Option Zd} {bs:List Int} {c k:Nat} {n:Int} {g zl cg:Nat} {zs:List Int} {oo:Value} {ko:Nat} {O:List Int} {ov:Value} {kv:Nat} {V:List Int} {fi:Int} {ks ka:Option Nat}
theorem VS.cell(h:VS w W q a bs c k n g zl cg zs oo ko O ov kv V fi ks ka):W.cell? ⟨k,3,none⟩=some ov:=h.d.cells.1.2.2.2.1
theorem VS.draw(m:Int)(h:VS w W q a bs c k n g zl cg zs oo ko O ov kv V fi ks ka)(hm:m<=65536):Zc zh 31 #[.pointer (some ⟨q,0,none⟩),ze zd m] W fun e w'=>∃y:Nat,e=.returned (ze zd y)/\(y:Int)<max m 1/\VS w w' q a bs c k n g zl cg zs oo ko O ov kv V fi ks ka:=by
 obtain⟨p,hr⟩:=h.d.r;refine(zc5 q p c m a bs W hr hm).mono ?_;rintro e w' ⟨x,p',rfl,h0,h1,hr,hg⟩;obtain⟨y,rfl⟩:=xp h0;exact⟨y,rfl,h1,h.d.read hr hg,fun x hx=>(h.s x hx).read h.d.lt hg,fun x hx=>(h.b x hx).read h.d.lt hg⟩
theorem VS.below(h:VS w W q a bs c k n g zl cg zs oo ko O ov kv V fi ks ka)(hb:Za W.heap.size W W'):VS w W' q a bs c k n g zl cg zs oo ko O ov kv V fi ks ka:=⟨h.d.below hb,fun x hx=>(h.s x hx).below hb,fun x hx=>(h.b x hx).below hb⟩
theorem VS.arr(h:VS w W q a bs c k n g zl cg zs oo ko O ov kv V fi ks ka):VS w (W.alloc (zg #[ze zd 5,ze zd 10,ze zd 100] 2)) q a bs c k n g zl cg zs oo ko O ov kv V fi (some W.heap.size) ka:=
 have h9:=h.below (zP (zg #[ze zd 5,ze zd 10,ze zd 100] 2))
 ⟨h9.d,fun x hx=>by cases hx;exact zh1.new h.d _ _,h9.b⟩
theorem VS.box(h:VS w W q a bs c k n g zl cg zs oo ko O ov kv V fi ks ka):VS w (W.alloc (zg #[ze zd 0,ze zd 0,ze zd 0,ze zd 0,ze zd 0] 107)) q a bs c k n g zl cg zs oo ko O ov kv V fi ks (some W.heap.size):=
 have h9:=h.below (zP (zg #[ze zd 0,ze zd 0,ze zd 0,ze zd 0,ze zd 0] 107))
 ⟨h9.d,h9.s,fun x hx=>by cases hx;exact zh1.new h.d _ _⟩
end
theorem yz8(q p c:Nat)(m:Nat)(a:Option Zd)(bs:List Int)(w:zi)(h:RD w q a bs c p)(mA:1<=m)(jv:m<=12):
 Zc zh 26 #[.pointer (some ⟨q,0,none⟩),ze zd m] w (zX6 w q a bs c m):=by
 have H:=za4 h;clear h;have HQ:Zb _:=za2 H.X.1;have CA:Zb (C0 w (w.alloc (zg #[ze zd 0,za none 0 0,za none 0 0,za none 0 0,ze zd 0] 30)) q a bs c):=⟨zq8 w _ q,⟨p,H.X⟩,zS _ _⟩;have RA:Zb (RD (w.alloc (zg #[ze zd 0,za none 0 0,za none 0 0,za none 0 0,ze zd 0] 30)) q a bs c p):=H.X.below (zP _);go_enter Tryz.func26,Tryz.ntmps26
 go_wp2_with fail
 generalize w.alloc _=W0 at*;refine(zc5 q p c 4 a bs W0 RA.X (by omega)).mono ?_;rintro e w1 ⟨x,p1,rfl,dp,ci,hr,hg⟩;obtain⟨x,rfl⟩:=xp dp;obtain⟨n,HN⟩:=nmd (2+x);have cR:2<=n:=by have:=HN.X;omega
 have QN:n<=5:=by have:=HN.X;omega
 have e_:(2:Int)+(x:Int)=(n:Int):=by have:=HN.X;omega
 have C1:Zb _:=CA.X.read hg;have R1:=za4 hr;clear hr hg CA RA dp ci;have AP:wrap64 ((2:Int)+(x:Int))=(n:Int):=by rw[e_];exact xB _ (by omega)
 have mU:IntKind.i64.wrap ((2:Int)+(x:Int))=(n:Int):=by rw[e_,xu];omega
 go_wp2_with fail
 clear AP mU e_;refine(yn5 q p1 c n a bs w1 R1.X (by omega) (by omega)).mono ?_;rintro e w2 ⟨g,cg,zs,rfl,vz,r9,BV,hg,⟨p2,hr⟩,aM⟩;obtain⟨zl,HZ⟩:=nmd zs.length;have QV:Zb (zl=n*n):=HZ.X.symm.trans vz;have Dz:Zb (zl<=cg):=by show _<=_;rw[<-HZ.X];exact r9
 have Oc:Zb (0<zs.length):=by show 0<_;rw[vz];exact Nat.mul_pos (by omega) (by omega)
 rw[HZ.X];have C2:Zb (C0 w (w2.alloc (zg #[ze zd 1000,ze zd 50,ze zd 0,ze zd 20] 2)) q a bs c):=(C1.X.read hg).below (zP _);have R2:Zb (RD (w2.alloc (zg #[ze zd 1000,ze zd 50,ze zd 0,ze zd 20] 2)) q a bs c p2):=hr.below (zP _);have I2:Zb (za3 (w2.alloc (zg #[ze zd 1000,ze zd 50,ze zd 0,ze zd 20] 2)) (some ⟨g,0,none⟩) zs):=aM.ints.below (zP _);have HG:Zb (w.heap.size<g):=by have:=C1.X.size;show _<_;omega
 have kL:Zb (q<w2.heap.size):=by have:=HQ.X;have:=(C1.X.read hg).size;show _<_;omega
 clear vz r9 BV hg hr aM C1 R1
 go_wp2_with fail
 refine(zc5 q p2 c 4 a bs _ R2.X (by omega)).mono ?_;rintro e w3 ⟨y,p3,rfl,bX,cD,hr,hg⟩;obtain⟨y,rfl⟩:=xp bX;have uZ:y<4:=by omega
 have n3:=hg.cell (zE9 w2 1000 50 0 20 2 y uZ) (fun e=>by have:=kL.X;simp at e;omega);obtain⟨f0,HF⟩:=nmd ([(1000:Int),50,0,20].getD y 0);rw[HF.X]at n3;have D3:Zb (CD w (w3.alloc (zg #[ze zd n,za (some ⟨g,0,none⟩) zl cg,za none 0 0,za none 0 0,ze zd f0] 30)) q a bs c w3.heap.size n g zl cg zs (za none 0 0) 0 [] (za none 0 0) 0 [] f0):=CD.new (C2.X.read hg) hr (zj7 I2.X hg (fun e=>by injection e with e;have:=HQ.X;have:=HG.X;omega)) HG.X Oc.X;have R3:Zb (RD (w3.alloc (zg #[ze zd n,za (some ⟨g,0,none⟩) zl cg,za none 0 0,za none 0 0,ze zd f0] 30)) q a bs c p3):=hr.below (zP _);have ED:(y:Int)<4:=by omega
 clear hr hg bX cD C2 R2 I2
 go_wp2_with fail
 clear n3 uZ ED;generalize w3.alloc _=W3 at*;obtain⟨k,HK⟩:=nmd w3.heap.size;rw[HK.X]at D3⊢;refine(zc5 q p3 c m a bs _ R3.X (by omega)).mono ?_;rintro e w4 ⟨y1,p4,rfl,bX,cD,hr,hg⟩;obtain⟨y1,rfl⟩:=xp bX;obtain⟨m1,tK⟩:=nmd (1+y1);have j_:1<=m1:=by have:=tK.X;omega
 have dC:m1<=m:=by have:=tK.X;omega
 have e_:(1:Int)+(y1:Int)=(m1:Int):=by have:=tK.X;omega
 have D4:Zb _:=D3.X.read hr hg;clear hr hg bX cD D3 R3;have AP:wrap64 ((1:Int)+(y1:Int))=(m1:Int):=by rw[e_];exact xB _ (by omega)
 have mU:IntKind.i64.wrap ((1:Int)+(y1:Int))=(m1:Int):=by rw[e_,xu];omega
 go_wp2_with fail
 clear AP mU e_;go_loopw[7] (fun t wr=>∃(i j:Nat) (oo:Value) (O:List Int),j+i=m1/\t=ze zd i/\CD w wr q a bs c k n g zl cg zs oo j O (za none 0 0) 0 [] f0) (fun t _=>(intOf t).toNat)
 case atStart=>exact⟨m1,0,_,[],by omega,rfl,D4.X⟩
 case round=>
  clear D4;obtain⟨i,j,oo,O,hj,rfl,hd⟩:=hrel;obtain⟨ao,co,e⟩:=zp0 hd.o;subst e;have jN:Zb _:=hd;obtain⟨Ak,hr⟩:=hd.r;have oJ:=za4 hr;clear hd hr;by_cases hi:0<i
  ·go_upto_region 6 with fail
   go_cut [8]from 27 to 55 (fun s8 wx=>∃(kb:Nat) (x0 x1 x2 x5:Int),s8=.pointer (some ⟨kb,0,none⟩)/\CD w wx q a bs c k n g zl cg zs (za ao j co) j O (za none 0 0) 0 [] f0/\zh1 w wx k g (za ao j co) (za none 0 0) kb #[ze zd x0,ze zd x1,ze zd x2,ze zd 0,ze zd 0,ze zd x5] 103)
   case first=>
    have kS:=jN.X.cells.1.2.2.1
    go_region_held3 (fun W=>W.cell? ⟨k,2,none⟩=some (za ao j co)) (first|with_reducible exact kS|with_reducible exact yM2 kS dA|go_keep) ((first
     |(go_at_call 31
       with_reducible refine(zc5 q Ak c n a bs wr.drew (oJ.X.below ((y5 _ _)).drew) (by omega)).mono ?_
       rintro e wa ⟨MM,EL,rfl,dp,ci,hr,hg⟩;have vj:Zb _:=(jN.X.below ((y5 _ _)).drew).read hr hg;have Gg:=za4 hr;have kS:=vj.X.cells.1.2.2.1;clear hr hg dp ci)
     |(go_at_call 31
       with_reducible refine(zc5 q Ak c n a bs (wr.alloc (zg #[ze zd 0,ze zd 0,ze zd 0,ze zd 0,ze zd 0,ze zd 0] 103)).drew (oJ.X.below ((zP _)).drew) (by omega)).mono ?_
       rintro e wa ⟨MM,EL,rfl,dp,ci,hr,hg⟩;have vj:Zb _:=(jN.X.below ((zP _)).drew).read hr hg;have Gg:=za4 hr;have kS:=vj.X.cells.1.2.2.1;have Ej:Zb (zh1 w wa k g (za ao j co) (za none 0 0) wr.heap.size #[ze zd 0,ze zd 0,ze zd 0,ze zd 0,ze zd 0,ze zd 0] 103):=((zh1.new jN.X _ _).below (y5 _ _).drew).read HQ.X hg;clear hr hg dp ci)
     |(go_at_call 31
       with_reducible refine(zc5 q EL c 5 a bs wa (Gg.X.below (y5 _ _)) (by omega)).mono ?_
       rintro e wb ⟨NE,Gx,rfl,dp,ci,hr,hg⟩;have vp:Zb _:=(vj.X.below (y5 _ _)).read hr hg;have Em:=za4 hr;have kS:=vp.X.cells.1.2.2.1
       try(have tS:Zb (zh1 w wb k g (za ao j co) (za none 0 0) wr.heap.size #[ze zd 0,ze zd 0,ze zd 0,ze zd 0,ze zd 0,ze zd 0] 103):=Ej.X.read HQ.X hg)
       clear hr hg dp ci)
     |(go_at_call 31
       with_reducible refine(zc5 q EL c 5 a bs (wa.alloc (zg #[ze zd 0,ze zd 0,ze zd 0,ze zd 0,ze zd 0,ze zd 0] 103)) (Gg.X.below (zP _)) (by omega)).mono ?_
       rintro e wb ⟨NE,Gx,rfl,dp,ci,hr,hg⟩;have vp:Zb _:=(vj.X.below (zP _)).read hr hg;have Em:=za4 hr;have kS:=vp.X.cells.1.2.2.1;have tS:Zb (zh1 w wb k g (za ao j co) (za none 0 0) wa.heap.size #[ze zd 0,ze zd 0,ze zd 0,ze zd 0,ze zd 0,ze zd 0] 103):=((zh1.new vj.X _ _)).read HQ.X hg;clear hr hg dp ci)
     |(go_at_call 31
       with_reducible refine(zc5 q Gx c 4 a bs wb (Em.X.below (y5 _ _)) (by omega)).mono ?_
       rintro e wc ⟨OM,Mp,rfl,dp,ci,hr,hg⟩;have tM:Zb _:=(vp.X.below (y5 _ _)).read hr hg;have NY:=za4 hr;have kS:=tM.X.cells.1.2.2.1
       try(have gd:Zb (zh1 w wc k g (za ao j co) (za none 0 0) wr.heap.size #[ze zd 0,ze zd 0,ze zd 0,ze zd 0,ze zd 0,ze zd 0] 103):=tS.X.read HQ.X hg)
       try(have gd:Zb (zh1 w wc k g (za ao j co) (za none 0 0) wa.heap.size #[ze zd 0,ze zd 0,ze zd 0,ze zd 0,ze zd 0,ze zd 0] 103):=tS.X.read HQ.X hg)
       try(obtain⟨z0,z1,z2,z3,z4,z5⟩:=zS2 gd.X.1
           have zf:=fun i=>yZ _ _ i _ _ gd.X.1;have dA:=gd.X.2.2.1.symm)
       clear hr hg dp ci)
     |(go_at_call 31
       with_reducible refine(zc5 q Gx c 4 a bs (wb.alloc (zg #[ze zd 0,ze zd 0,ze zd 0,ze zd 0,ze zd 0,ze zd 0] 103)) (Em.X.below (zP _)) (by omega)).mono ?_
       rintro e wc ⟨OM,Mp,rfl,dp,ci,hr,hg⟩;have tM:Zb _:=(vp.X.below (zP _)).read hr hg;have NY:=za4 hr;have kS:=tM.X.cells.1.2.2.1;have gd:Zb (zh1 w wc k g (za ao j co) (za none 0 0) wb.heap.size #[ze zd 0,ze zd 0,ze zd 0,ze zd 0,ze zd 0,ze zd 0] 103):=((zh1.new vp.X _ _)).read HQ.X hg
       try(obtain⟨z0,z1,z2,z3,z4,z5⟩:=zS2 gd.X.1
           have zf:=fun i=>yZ _ _ i _ _ gd.X.1;have dA:=gd.X.2.2.1.symm)
       clear hr hg dp ci)))
    all_goals(try go_wp2_with fail)
    all_goals go_meet
    all_goals first
     |exact⟨_,_,_,_,_,rfl,(tM.X.boxes6 gd.X _ _ _ _ _ _).1,(tM.X.boxes6 gd.X _ _ _ _ _ _).2⟩
     |exact⟨_,_,_,_,_,rfl,tM.X.below (zP _),zh1.new tM.X _ _⟩
   case rest=>
    clear jN oJ;obtain⟨kb,x0,x1,x2,x5,rfl,hd,gY⟩:=hcut;have D5:Zb _:=hd;have X5:=za4 gY;obtain⟨p5,rM⟩:=hd.r;have R5:=za4 rM;clear hd gY rM
    go_wp2_with fail
    refine(yl5 q p5 c a bs wc R5.X).mono ?_;rintro e w6 ⟨x3,x4,p6,rfl,hr,hg⟩;have D6:Zb _:=D5.X.read hr hg;have X6:Zb (zh1 w w6 k g (za ao j co) (za none 0 0) kb #[ze zd x0,ze zd x1,ze zd x2,ze zd 0,ze zd 0,ze zd x5] 103):=X5.X.read HQ.X hg;clear hr hg D5 X5 R5;obtain⟨z0,z1,z2,z3,z4,z5⟩:=zS2 X6.X.1;have zf:=fun i=>yZ _ _ i _ _ X6.X.1;have D7:Zb (CD w ((w6.setCell ⟨kb,3,none⟩ (ze zd x3)).setCell ⟨kb,4,none⟩ (ze zd x4)) q a bs c k n g zl cg zs (za ao j co) j O (za none 0 0) 0 [] f0):=(D6.X.box' X6.X 3 _).box' (X6.X.set 3 _) 4 _;have X7:Zb (zh1 w ((w6.setCell ⟨kb,3,none⟩ (ze zd x3)).setCell ⟨kb,4,none⟩ (ze zd x4)) k g (za ao j co) (za none 0 0) kb #[ze zd x0,ze zd x1,ze zd x2,ze zd x3,ze zd x4,ze zd x5] 103):=by show zh1 _ _ _ _ _ _ _ _ _;have:=(X6.X.set 3 (ze zd x3)).set 4 (ze zd x4);simpa using this
    clear D6 X6;go_upto_region 8 with fail;generalize(w6.setCell ⟨kb,3,none⟩ _).setCell ⟨kb,4,none⟩ _=W7 at*;clear z0 z1 z2 z3 z4 z5 zf;obtain⟨z0,z1,z2,z3,z4,z5⟩:=zS2 X7.X.1;obtain⟨⟨-,-,k2,-,-⟩,kf⟩:=D7.X.cells;have PY:Zb (za3 (W7.alloc (zg #[ze zd x0,ze zd x1,ze zd x2,ze zd x3,ze zd x4,ze zd x5] 103)) (some ⟨W7.heap.size,0,none⟩) [x0,x1,x2,x3,x4,x5]):=za3.of_row (zs:=[x0,x1,x2,x3,x4,x5]) (zS _ _);have Ln:Zb (w.heap.size+1<=(W7.alloc (zg #[ze zd x0,ze zd x1,ze zd x2,ze zd x3,ze zd x4,ze zd x5] 103)).heap.size):=by have:=D7.X.size;show _<=_;simp;omega
    go_wp2_with(
     at_builtin;refine zO0 27 103 _ 6 48 y15 Tryz.underlying27 rfl (by omega) (by omega) _ rfl _ _ rfl (w.heap.size+1) _ j O rfl (D7.X.o.alloc _) W7.heap.size 1 [x0,x1,x2,x3,x4,x5] rfl rfl PY.X (by omega) Ln.X ?_;intro v' w8 ae hg bd _;obtain⟨g8,c8,e8,_⟩:=zo1 ae;subst e8;have D8:Zb _:=D7.X.putO ae hg bd;have k8:w8.cell? ⟨k,2,none⟩=some (za ao j co):=by
      have h8:=za6 hg (za0 ((y5 W7.heap.size W7).alloc (zT _) _) (za2 D7.X.b1) D7.X.b1) (fun e=>(D7.X.d1 _ e.symm).1 rfl);have:=zU _ _ 2 _ _ _ h8;simpa using this
     have f8:∀i,w8.frozen? ⟨k,i,none⟩=false:=by
      have h8:=za6 hg (za0 ((y5 W7.heap.size W7).alloc (zT _) _) (za2 D7.X.b1) D7.X.b1) (fun e=>(D7.X.d1 _ e.symm).1 rfl);exact fun i=>yZ _ _ i _ _ h8
     clear ae hg bd)
    go_roundw
    case rel=>exact⟨i - 1,j+1,_,O++[x0,x1,x2,x3,x4,x5],by omega,by first|rfl|go_num,D8.X⟩
    case measure=>simp[intOf];omega
  ·have jl:i=0:=by omega
   subst jl;have nF:j=m1:=by omega
   subst nF;obtain⟨go,Rh,e,-⟩:=zo1 (k:=j - 1) (by have:=jN.X.o;rw[Nat.sub_add_cancel j_];exact this);rw[Nat.sub_add_cancel j_]at e
   injection e with e1 e2 e3
   subst e1 e3
   go_wp2_with fail
   refine(zc5 q Ak c 3 a bs _ oJ.X (by omega)).mono ?_;rintro e w5 ⟨y2,p5,rfl,bX,cD,hr,hg⟩;obtain⟨y2,rfl⟩:=xp bX;obtain⟨m2,oT⟩:=nmd (1+y2);have j8:1<=m2:=by have:=oT.X;omega
   have mQ:m2<=3:=by have:=oT.X;omega
   have e_:(1:Int)+(y2:Int)=(m2:Int):=by have:=oT.X;omega
   have D5:Zb _:=jN.X.read hr hg;clear hr hg bX cD jN oJ;have AP:wrap64 ((1:Int)+(y2:Int))=(m2:Int):=by rw[e_];exact xB _ (by omega)
   have mU:IntKind.i64.wrap ((1:Int)+(y2:Int))=(m2:Int):=by rw[e_,xu];omega
   go_wp2_with fail
   clear AP mU e_;obtain⟨m1,MN⟩:=nmd j;rw[MN.X]at D5 j_ dC⊢;go_loopw[9] (fun t wr=>∃(i j:Nat) (ov:Value) (V:List Int),j+i=m2/\t=ze zd i/\CD w wr q a bs c k n g zl cg zs (za (some ⟨go,0,none⟩) m1 co) m1 O ov j V f0) (fun t _=>(intOf t).toNat)
   case atStart=>exact⟨m2,0,_,[],by omega,rfl,D5.X⟩
   case round=>
    clear D5;obtain⟨i,j,ov,V,hj,rfl,hd⟩:=hrel;obtain⟨av,cv,e⟩:=zp0 hd.v;subst e;have jN:Zb _:=hd;obtain⟨Ak,hr⟩:=hd.r;have oJ:=za4 hr;clear hd hr;by_cases hi:0<i
    ·go_upto_region 12 with fail
     go_cut [10]from 59 to 93 (fun wD wx=>∃(kb:Nat) (x0 x1 x2:Int),wD=.pointer (some ⟨kb,0,none⟩)/\CD w wx q a bs c k n g zl cg zs (za (some ⟨go,0,none⟩) m1 co) m1 O (za av j cv) j V f0/\zh1 w wx k g (za (some ⟨go,0,none⟩) m1 co) (za av j cv) kb #[ze zd x0,ze zd x1,ze zd x2,ze zd 0,ze zd 0] 107)
     case first=>
      have J3:=jN.X.cells.1.2.2.2.1;refine qG (S:=fun W=>W.cell? ⟨k,3,none⟩=some (za av j cv)) (by kernel_rfl) ?_ fun aa=> ?_
      ·exact J3
      have D:Zb (VS w wr.drew q a bs c k n g zl cg zs (za (some ⟨go,0,none⟩) m1 co) m1 O (za av j cv) j V f0 none none):=⟨jN.X.below (y5 _ _).drew,fun x hx=>(by cases hx),fun x hx=>(by cases hx)⟩;generalize wr.drew=W at*;clear jN oJ J3;refine tkH 0 aa ?_;refine tkH 1 aa ?_;refine tkH 2 aa ?_;refine tkH 3 aa ?_;refine tkH 4 aa ?_;refine tkH 5 aa ?_;refine tkH 6 aa ?_;refine tkH 9 aa ?_;refine xQ (rs:=[7,8,14]) (by kernel_rfl) (by simp) ?_;refine xL rfl (fun K hK=> ?_) ?_
      ·go_simp
       refine(D.X.draw n (by omega)).mono ?_;rintro e W ⟨y,rfl,hy,hD⟩;replace D:=za4 hD
       (try go_wp2_with fail)
       refine hoW hK D.X.cell fun aa=> ?_;clear hK K;refine xQ (rs:=[8,10,14]) (by kernel_rfl) (by simp) ?_;refine xL rfl (fun K hK=> ?_) ?_
       ·go_simp
        replace D:=za4 D.X.arr;refine hoW hK D.X.cell fun aa=> ?_;clear hK K;obtain⟨ks,iW⟩:=nmd W.heap.size;rw[iW.X]at D⊢;generalize W.alloc _=W at*;refine xQ (rs:=[10,14]) (by kernel_rfl) (by simp) ?_;refine xL rfl (fun K hK=> ?_) ?_
        ·go_simp
         refine(D.X.draw 3 (by omega)).mono ?_;rintro e W ⟨y,rfl,hy,hD⟩;replace D:=za4 hD;replace hy:y<3:=by omega
         have iG:(y:Int)<3:=by omega
         obtain⟨z9,fh⟩:=nmd ([(5:Int),10,100].getD y 0)
         (try go_wp2_with fail)
         refine hoW hK D.X.cell fun aa=> ?_;clear hK K;refine tkH 11 aa ?_;refine xQ (rs:=[12,14]) (by kernel_rfl) (by simp) ?_;refine xL rfl (fun K hK=> ?_) ?_
         ·have sz:=zf5 (D.X.s _ rfl).1 hy
          rw[fh.X]at sz;go_simp;refine hoW hK D.X.cell fun aa=> ?_;clear hK K;clear sz;refine tkH 13 aa ?_;refine rdH 14 fun K hK=> ?_;go_simp;replace D:=za4 D.X.box;refine hoW hK D.X.cell fun aa=> ?_;clear hK K;obtain⟨ka,dL⟩:=nmd W.heap.size;rw[dL.X]at D⊢;generalize W.alloc _=W at*;refine rdH 15 fun K hK=> ?_;obtain⟨z0,z1,z2,z3,z4⟩:=zc6 (D.X.b _ rfl).1;have zf:=fun i=>yZ _ _ i _ _ (D.X.b _ rfl).1;have dA:=(D.X.b _ rfl).2.2.1.symm;go_simp;refine hoW hK (z20 aa dA) fun bO=> ?_;clear hK K;refine qF (by kernel_rfl) ?_ _
          (try go_wp2_with fail)
          go_meet;exact⟨_,_,_,_,rfl,(D.X.d.boxes5 (D.X.b _ rfl) _ _ _ _ _).1,(D.X.d.boxes5 (D.X.b _ rfl) _ _ _ _ _).2⟩
         refine xL rfl (fun K hK=> ?_) xP;go_simp;replace D:=za4 D.X.box;refine hoW hK D.X.cell fun aa=> ?_;clear hK K;obtain⟨ka,dL⟩:=nmd W.heap.size;rw[dL.X]at D⊢;generalize W.alloc _=W at*;refine rdH 12 fun K hK=> ?_;have sz:=zf5 (D.X.s _ rfl).1 hy;rw[fh.X]at sz;go_simp;refine hoW hK D.X.cell fun aa=> ?_;clear hK K;clear sz;refine tkH 13 aa ?_;refine rdH 15 fun K hK=> ?_;obtain⟨z0,z1,z2,z3,z4⟩:=zc6 (D.X.b _ rfl).1;have zf:=fun i=>yZ _ _ i _ _ (D.X.b _ rfl).1;have dA:=(D.X.b _ rfl).2.2.1.symm;go_simp;refine hoW hK (z20 aa dA) fun bO=> ?_;clear hK K;refine qF (by kernel_rfl) ?_ _
         (try go_wp2_with fail)
         go_meet;exact⟨_,_,_,_,rfl,(D.X.d.boxes5 (D.X.b _ rfl) _ _ _ _ _).1,(D.X.d.boxes5 (D.X.b _ rfl) _ _ _ _ _).2⟩
        refine xL rfl (fun K hK=> ?_) xP;go_simp;replace D:=za4 D.X.box;refine hoW hK D.X.cell fun aa=> ?_;clear hK K;obtain⟨ka,dL⟩:=nmd W.heap.size;rw[dL.X]at D⊢;generalize W.alloc _=W at*;refine rdH 10 fun K hK=> ?_;go_simp;refine(D.X.draw 3 (by omega)).mono ?_;rintro e W ⟨y,rfl,hy,hD⟩;replace D:=za4 hD;replace hy:y<3:=by omega
        have iG:(y:Int)<3:=by omega
        obtain⟨z9,fh⟩:=nmd ([(5:Int),10,100].getD y 0)
        (try go_wp2_with fail)
        refine hoW hK D.X.cell fun aa=> ?_;clear hK K;refine tkH 11 aa ?_;refine rdH 12 fun K hK=> ?_;have sz:=zf5 (D.X.s _ rfl).1 hy;rw[fh.X]at sz;go_simp;refine hoW hK D.X.cell fun aa=> ?_;clear hK K;clear sz;refine tkH 13 aa ?_;refine rdH 15 fun K hK=> ?_;obtain⟨z0,z1,z2,z3,z4⟩:=zc6 (D.X.b _ rfl).1;have zf:=fun i=>yZ _ _ i _ _ (D.X.b _ rfl).1;have dA:=(D.X.b _ rfl).2.2.1.symm;go_simp;refine hoW hK (z20 aa dA) fun bO=> ?_;clear hK K;refine qF (by kernel_rfl) ?_ _
        (try go_wp2_with fail)
        go_meet;exact⟨_,_,_,_,rfl,(D.X.d.boxes5 (D.X.b _ rfl) _ _ _ _ _).1,(D.X.d.boxes5 (D.X.b _ rfl) _ _ _ _ _).2⟩
       refine xL rfl (fun K hK=> ?_) ?_
       ·go_simp
        refine(D.X.draw 3 (by omega)).mono ?_;rintro e W ⟨y,rfl,hy,hD⟩;replace D:=za4 hD;replace hy:y<3:=by omega
        have iG:(y:Int)<3:=by omega
        obtain⟨z9,fh⟩:=nmd ([(5:Int),10,100].getD y 0)
        (try go_wp2_with fail)
        refine hoW hK D.X.cell fun aa=> ?_;clear hK K;refine xQ (rs:=[8,14]) (by kernel_rfl) (by simp) ?_;refine xL rfl (fun K hK=> ?_) ?_
        ·go_simp
         replace D:=za4 D.X.arr;refine hoW hK D.X.cell fun aa=> ?_;clear hK K;obtain⟨ks,iW⟩:=nmd W.heap.size;rw[iW.X]at D⊢;generalize W.alloc _=W at*;refine tkH 11 aa ?_;refine xQ (rs:=[12,14]) (by kernel_rfl) (by simp) ?_;refine xL rfl (fun K hK=> ?_) ?_
         ·have sz:=zf5 (D.X.s _ rfl).1 hy
          rw[fh.X]at sz;go_simp;refine hoW hK D.X.cell fun aa=> ?_;clear hK K;clear sz;refine tkH 13 aa ?_;refine rdH 14 fun K hK=> ?_;go_simp;replace D:=za4 D.X.box;refine hoW hK D.X.cell fun aa=> ?_;clear hK K;obtain⟨ka,dL⟩:=nmd W.heap.size;rw[dL.X]at D⊢;generalize W.alloc _=W at*;refine rdH 15 fun K hK=> ?_;obtain⟨z0,z1,z2,z3,z4⟩:=zc6 (D.X.b _ rfl).1;have zf:=fun i=>yZ _ _ i _ _ (D.X.b _ rfl).1;have dA:=(D.X.b _ rfl).2.2.1.symm;go_simp;refine hoW hK (z20 aa dA) fun bO=> ?_;clear hK K;refine qF (by kernel_rfl) ?_ _
          (try go_wp2_with fail)
          go_meet;exact⟨_,_,_,_,rfl,(D.X.d.boxes5 (D.X.b _ rfl) _ _ _ _ _).1,(D.X.d.boxes5 (D.X.b _ rfl) _ _ _ _ _).2⟩
         refine xL rfl (fun K hK=> ?_) xP;go_simp;replace D:=za4 D.X.box;refine hoW hK D.X.cell fun aa=> ?_;clear hK K;obtain⟨ka,dL⟩:=nmd W.heap.size;rw[dL.X]at D⊢;generalize W.alloc _=W at*;refine rdH 12 fun K hK=> ?_;have sz:=zf5 (D.X.s _ rfl).1 hy;rw[fh.X]at sz;go_simp;refine hoW hK D.X.cell fun aa=> ?_;clear hK K;clear sz;refine tkH 13 aa ?_;refine rdH 15 fun K hK=> ?_;obtain⟨z0,z1,z2,z3,z4⟩:=zc6 (D.X.b _ rfl).1;have zf:=fun i=>yZ _ _ i _ _ (D.X.b _ rfl).1;have dA:=(D.X.b _ rfl).2.2.1.symm;go_simp;refine hoW hK (z20 aa dA) fun bO=> ?_;clear hK K;refine qF (by kernel_rfl) ?_ _
         (try go_wp2_with fail)
         go_meet;exact⟨_,_,_,_,rfl,(D.X.d.boxes5 (D.X.b _ rfl) _ _ _ _ _).1,(D.X.d.boxes5 (D.X.b _ rfl) _ _ _ _ _).2⟩
        refine xL rfl (fun K hK=> ?_) xP;go_simp;replace D:=za4 D.X.box;refine hoW hK D.X.cell fun aa=> ?_;clear hK K;obtain⟨ka,dL⟩:=nmd W.heap.size;rw[dL.X]at D⊢;generalize W.alloc _=W at*;refine rdH 8 fun K hK=> ?_;go_simp;replace D:=za4 D.X.arr;refine hoW hK D.X.cell fun aa=> ?_;clear hK K;obtain⟨ks,iW⟩:=nmd W.heap.size;rw[iW.X]at D⊢;generalize W.alloc _=W at*;refine tkH 11 aa ?_;refine rdH 12 fun K hK=> ?_;have sz:=zf5 (D.X.s _ rfl).1 hy;rw[fh.X]at sz;go_simp;refine hoW hK D.X.cell fun aa=> ?_;clear hK K;clear sz;refine tkH 13 aa ?_;refine rdH 15 fun K hK=> ?_;obtain⟨z0,z1,z2,z3,z4⟩:=zc6 (D.X.b _ rfl).1;have zf:=fun i=>yZ _ _ i _ _ (D.X.b _ rfl).1;have dA:=(D.X.b _ rfl).2.2.1.symm;go_simp;refine hoW hK (z20 aa dA) fun bO=> ?_;clear hK K;refine qF (by kernel_rfl) ?_ _
        (try go_wp2_with fail)
        go_meet;exact⟨_,_,_,_,rfl,(D.X.d.boxes5 (D.X.b _ rfl) _ _ _ _ _).1,(D.X.d.boxes5 (D.X.b _ rfl) _ _ _ _ _).2⟩
       refine xL rfl (fun K hK=> ?_) xP;go_simp;replace D:=za4 D.X.box;refine hoW hK D.X.cell fun aa=> ?_;clear hK K;obtain⟨ka,dL⟩:=nmd W.heap.size;rw[dL.X]at D⊢;generalize W.alloc _=W at*;refine xQ (rs:=[8,10]) (by kernel_rfl) (by simp) ?_;refine xL rfl (fun K hK=> ?_) ?_
       ·go_simp
        replace D:=za4 D.X.arr;refine hoW hK D.X.cell fun aa=> ?_;clear hK K;obtain⟨ks,iW⟩:=nmd W.heap.size;rw[iW.X]at D⊢;generalize W.alloc _=W at*;refine rdH 10 fun K hK=> ?_;go_simp;refine(D.X.draw 3 (by omega)).mono ?_;rintro e W ⟨y,rfl,hy,hD⟩;replace D:=za4 hD;replace hy:y<3:=by omega
        have iG:(y:Int)<3:=by omega
        obtain⟨z9,fh⟩:=nmd ([(5:Int),10,100].getD y 0)
        (try go_wp2_with fail)
        refine hoW hK D.X.cell fun aa=> ?_;clear hK K;refine tkH 11 aa ?_;refine rdH 12 fun K hK=> ?_;have sz:=zf5 (D.X.s _ rfl).1 hy;rw[fh.X]at sz;go_simp;refine hoW hK D.X.cell fun aa=> ?_;clear hK K;clear sz;refine tkH 13 aa ?_;refine rdH 15 fun K hK=> ?_;obtain⟨z0,z1,z2,z3,z4⟩:=zc6 (D.X.b _ rfl).1;have zf:=fun i=>yZ _ _ i _ _ (D.X.b _ rfl).1;have dA:=(D.X.b _ rfl).2.2.1.symm;go_simp;refine hoW hK (z20 aa dA) fun bO=> ?_;clear hK K;refine qF (by kernel_rfl) ?_ _
        (try go_wp2_with fail)
        go_meet;exact⟨_,_,_,_,rfl,(D.X.d.boxes5 (D.X.b _ rfl) _ _ _ _ _).1,(D.X.d.boxes5 (D.X.b _ rfl) _ _ _ _ _).2⟩
       refine xL rfl (fun K hK=> ?_) xP;go_simp;refine(D.X.draw 3 (by omega)).mono ?_;rintro e W ⟨y,rfl,hy,hD⟩;replace D:=za4 hD;replace hy:y<3:=by omega
       have iG:(y:Int)<3:=by omega
       obtain⟨z9,fh⟩:=nmd ([(5:Int),10,100].getD y 0)
       (try go_wp2_with fail)
       refine hoW hK D.X.cell fun aa=> ?_;clear hK K;refine rdH 8 fun K hK=> ?_;go_simp;replace D:=za4 D.X.arr;refine hoW hK D.X.cell fun aa=> ?_;clear hK K;obtain⟨ks,iW⟩:=nmd W.heap.size;rw[iW.X]at D⊢;generalize W.alloc _=W at*;refine tkH 11 aa ?_;refine rdH 12 fun K hK=> ?_;have sz:=zf5 (D.X.s _ rfl).1 hy;rw[fh.X]at sz;go_simp;refine hoW hK D.X.cell fun aa=> ?_;clear hK K;clear sz;refine tkH 13 aa ?_;refine rdH 15 fun K hK=> ?_;obtain⟨z0,z1,z2,z3,z4⟩:=zc6 (D.X.b _ rfl).1;have zf:=fun i=>yZ _ _ i _ _ (D.X.b _ rfl).1;have dA:=(D.X.b _ rfl).2.2.1.symm;go_simp;refine hoW hK (z20 aa dA) fun bO=> ?_;clear hK K;refine qF (by kernel_rfl) ?_ _
       (try go_wp2_with fail)
       go_meet;exact⟨_,_,_,_,rfl,(D.X.d.boxes5 (D.X.b _ rfl) _ _ _ _ _).1,(D.X.d.boxes5 (D.X.b _ rfl) _ _ _ _ _).2⟩
      refine xL rfl (fun K hK=> ?_) ?_
      ·go_simp
       replace D:=za4 D.X.arr;refine hoW hK D.X.cell fun aa=> ?_;clear hK K;obtain⟨ks,iW⟩:=nmd W.heap.size;rw[iW.X]at D⊢;generalize W.alloc _=W at*;refine xQ (rs:=[7,14]) (by kernel_rfl) (by simp) ?_;refine xL rfl (fun K hK=> ?_) ?_
       ·go_simp
        refine(D.X.draw n (by omega)).mono ?_;rintro e W ⟨y,rfl,hy,hD⟩;replace D:=za4 hD
        (try go_wp2_with fail)
        refine hoW hK D.X.cell fun aa=> ?_;clear hK K;refine xQ (rs:=[10,14]) (by kernel_rfl) (by simp) ?_;refine xL rfl (fun K hK=> ?_) ?_
        ·go_simp
         refine(D.X.draw 3 (by omega)).mono ?_;rintro e W ⟨y,rfl,hy,hD⟩;replace D:=za4 hD;replace hy:y<3:=by omega
         have iG:(y:Int)<3:=by omega
         obtain⟨z9,fh⟩:=nmd ([(5:Int),10,100].getD y 0)
         (try go_wp2_with fail)
         refine hoW hK D.X.cell fun aa=> ?_;clear hK K;refine tkH 11 aa ?_;refine xQ (rs:=[12,14]) (by kernel_rfl) (by simp) ?_;refine xL rfl (fun K hK=> ?_) ?_
         ·have sz:=zf5 (D.X.s _ rfl).1 hy
          rw[fh.X]at sz;go_simp;refine hoW hK D.X.cell fun aa=> ?_;clear hK K;clear sz;refine tkH 13 aa ?_;refine rdH 14 fun K hK=> ?_;go_simp;replace D:=za4 D.X.box;refine hoW hK D.X.cell fun aa=> ?_;clear hK K;obtain⟨ka,dL⟩:=nmd W.heap.size;rw[dL.X]at D⊢;generalize W.alloc _=W at*;refine rdH 15 fun K hK=> ?_;obtain⟨z0,z1,z2,z3,z4⟩:=zc6 (D.X.b _ rfl).1;have zf:=fun i=>yZ _ _ i _ _ (D.X.b _ rfl).1;have dA:=(D.X.b _ rfl).2.2.1.symm;go_simp;refine hoW hK (z20 aa dA) fun bO=> ?_;clear hK K;refine qF (by kernel_rfl) ?_ _
          (try go_wp2_with fail)
          go_meet;exact⟨_,_,_,_,rfl,(D.X.d.boxes5 (D.X.b _ rfl) _ _ _ _ _).1,(D.X.d.boxes5 (D.X.b _ rfl) _ _ _ _ _).2⟩
         refine xL rfl (fun K hK=> ?_) xP;go_simp;replace D:=za4 D.X.box;refine hoW hK D.X.cell fun aa=> ?_;clear hK K;obtain⟨ka,dL⟩:=nmd W.heap.size;rw[dL.X]at D⊢;generalize W.alloc _=W at*;refine rdH 12 fun K hK=> ?_;have sz:=zf5 (D.X.s _ rfl).1 hy;rw[fh.X]at sz;go_simp;refine hoW hK D.X.cell fun aa=> ?_;clear hK K;clear sz;refine tkH 13 aa ?_;refine rdH 15 fun K hK=> ?_;obtain⟨z0,z1,z2,z3,z4⟩:=zc6 (D.X.b _ rfl).1;have zf:=fun i=>yZ _ _ i _ _ (D.X.b _ rfl).1;have dA:=(D.X.b _ rfl).2.2.1.symm;go_simp;refine hoW hK (z20 aa dA) fun bO=> ?_;clear hK K;refine qF (by kernel_rfl) ?_ _
         (try go_wp2_with fail)
         go_meet;exact⟨_,_,_,_,rfl,(D.X.d.boxes5 (D.X.b _ rfl) _ _ _ _ _).1,(D.X.d.boxes5 (D.X.b _ rfl) _ _ _ _ _).2⟩
        refine xL rfl (fun K hK=> ?_) xP;go_simp;replace D:=za4 D.X.box;refine hoW hK D.X.cell fun aa=> ?_;clear hK K;obtain⟨ka,dL⟩:=nmd W.heap.size;rw[dL.X]at D⊢;generalize W.alloc _=W at*;refine rdH 10 fun K hK=> ?_;go_simp;refine(D.X.draw 3 (by omega)).mono ?_;rintro e W ⟨y,rfl,hy,hD⟩;replace D:=za4 hD;replace hy:y<3:=by omega
        have iG:(y:Int)<3:=by omega
        obtain⟨z9,fh⟩:=nmd ([(5:Int),10,100].getD y 0)
        (try go_wp2_with fail)
        refine hoW hK D.X.cell fun aa=> ?_;clear hK K;refine tkH 11 aa ?_;refine rdH 12 fun K hK=> ?_;have sz:=zf5 (D.X.s _ rfl).1 hy;rw[fh.X]at sz;go_simp;refine hoW hK D.X.cell fun aa=> ?_;clear hK K;clear sz;refine tkH 13 aa ?_;refine rdH 15 fun K hK=> ?_;obtain⟨z0,z1,z2,z3,z4⟩:=zc6 (D.X.b _ rfl).1;have zf:=fun i=>yZ _ _ i _ _ (D.X.b _ rfl).1;have dA:=(D.X.b _ rfl).2.2.1.symm;go_simp;refine hoW hK (z20 aa dA) fun bO=> ?_;clear hK K;refine qF (by kernel_rfl) ?_ _
        (try go_wp2_with fail)
        go_meet;exact⟨_,_,_,_,rfl,(D.X.d.boxes5 (D.X.b _ rfl) _ _ _ _ _).1,(D.X.d.boxes5 (D.X.b _ rfl) _ _ _ _ _).2⟩
       refine xL rfl (fun K hK=> ?_) xP;go_simp;replace D:=za4 D.X.box;refine hoW hK D.X.cell fun aa=> ?_;clear hK K;obtain⟨ka,dL⟩:=nmd W.heap.size;rw[dL.X]at D⊢;generalize W.alloc _=W at*;refine rdH 7 fun K hK=> ?_;go_simp;refine(D.X.draw n (by omega)).mono ?_;rintro e W ⟨y,rfl,hy,hD⟩;replace D:=za4 hD
       (try go_wp2_with fail)
       refine hoW hK D.X.cell fun aa=> ?_;clear hK K;refine rdH 10 fun K hK=> ?_;go_simp;refine(D.X.draw 3 (by omega)).mono ?_;rintro e W ⟨y,rfl,hy,hD⟩;replace D:=za4 hD;replace hy:y<3:=by omega
       have iG:(y:Int)<3:=by omega
       obtain⟨z9,fh⟩:=nmd ([(5:Int),10,100].getD y 0)
       (try go_wp2_with fail)
       refine hoW hK D.X.cell fun aa=> ?_;clear hK K;refine tkH 11 aa ?_;refine rdH 12 fun K hK=> ?_;have sz:=zf5 (D.X.s _ rfl).1 hy;rw[fh.X]at sz;go_simp;refine hoW hK D.X.cell fun aa=> ?_;clear hK K;clear sz;refine tkH 13 aa ?_;refine rdH 15 fun K hK=> ?_;obtain⟨z0,z1,z2,z3,z4⟩:=zc6 (D.X.b _ rfl).1;have zf:=fun i=>yZ _ _ i _ _ (D.X.b _ rfl).1;have dA:=(D.X.b _ rfl).2.2.1.symm;go_simp;refine hoW hK (z20 aa dA) fun bO=> ?_;clear hK K;refine qF (by kernel_rfl) ?_ _
       (try go_wp2_with fail)
       go_meet;exact⟨_,_,_,_,rfl,(D.X.d.boxes5 (D.X.b _ rfl) _ _ _ _ _).1,(D.X.d.boxes5 (D.X.b _ rfl) _ _ _ _ _).2⟩
      refine xL rfl (fun K hK=> ?_) xP;go_simp;replace D:=za4 D.X.box;refine hoW hK D.X.cell fun aa=> ?_;clear hK K;obtain⟨ka,dL⟩:=nmd W.heap.size;rw[dL.X]at D⊢;generalize W.alloc _=W at*;refine xQ (rs:=[7,8]) (by kernel_rfl) (by simp) ?_;refine xL rfl (fun K hK=> ?_) ?_
      ·go_simp
       refine(D.X.draw n (by omega)).mono ?_;rintro e W ⟨y,rfl,hy,hD⟩;replace D:=za4 hD
       (try go_wp2_with fail)
       refine hoW hK D.X.cell fun aa=> ?_;clear hK K;refine xQ (rs:=[8,10]) (by kernel_rfl) (by simp) ?_;refine xL rfl (fun K hK=> ?_) ?_
       ·go_simp
        replace D:=za4 D.X.arr;refine hoW hK D.X.cell fun aa=> ?_;clear hK K;obtain⟨ks,iW⟩:=nmd W.heap.size;rw[iW.X]at D⊢;generalize W.alloc _=W at*;refine rdH 10 fun K hK=> ?_;go_simp;refine(D.X.draw 3 (by omega)).mono ?_;rintro e W ⟨y,rfl,hy,hD⟩;replace D:=za4 hD;replace hy:y<3:=by omega
        have iG:(y:Int)<3:=by omega
        obtain⟨z9,fh⟩:=nmd ([(5:Int),10,100].getD y 0)
        (try go_wp2_with fail)
        refine hoW hK D.X.cell fun aa=> ?_;clear hK K;refine tkH 11 aa ?_;refine rdH 12 fun K hK=> ?_;have sz:=zf5 (D.X.s _ rfl).1 hy;rw[fh.X]at sz;go_simp;refine hoW hK D.X.cell fun aa=> ?_;clear hK K;clear sz;refine tkH 13 aa ?_;refine rdH 15 fun K hK=> ?_;obtain⟨z0,z1,z2,z3,z4⟩:=zc6 (D.X.b _ rfl).1;have zf:=fun i=>yZ _ _ i _ _ (D.X.b _ rfl).1;have dA:=(D.X.b _ rfl).2.2.1.symm;go_simp;refine hoW hK (z20 aa dA) fun bO=> ?_;clear hK K;refine qF (by kernel_rfl) ?_ _
        (try go_wp2_with fail)
        go_meet;exact⟨_,_,_,_,rfl,(D.X.d.boxes5 (D.X.b _ rfl) _ _ _ _ _).1,(D.X.d.boxes5 (D.X.b _ rfl) _ _ _ _ _).2⟩
       refine xL rfl (fun K hK=> ?_) xP;go_simp;refine(D.X.draw 3 (by omega)).mono ?_;rintro e W ⟨y,rfl,hy,hD⟩;replace D:=za4 hD;replace hy:y<3:=by omega
       have iG:(y:Int)<3:=by omega
       obtain⟨z9,fh⟩:=nmd ([(5:Int),10,100].getD y 0)
       (try go_wp2_with fail)
       refine hoW hK D.X.cell fun aa=> ?_;clear hK K;refine rdH 8 fun K hK=> ?_;go_simp;replace D:=za4 D.X.arr;refine hoW hK D.X.cell fun aa=> ?_;clear hK K;obtain⟨ks,iW⟩:=nmd W.heap.size;rw[iW.X]at D⊢;generalize W.alloc _=W at*;refine tkH 11 aa ?_;refine rdH 12 fun K hK=> ?_;have sz:=zf5 (D.X.s _ rfl).1 hy;rw[fh.X]at sz;go_simp;refine hoW hK D.X.cell fun aa=> ?_;clear hK K;clear sz;refine tkH 13 aa ?_;refine rdH 15 fun K hK=> ?_;obtain⟨z0,z1,z2,z3,z4⟩:=zc6 (D.X.b _ rfl).1;have zf:=fun i=>yZ _ _ i _ _ (D.X.b _ rfl).1;have dA:=(D.X.b _ rfl).2.2.1.symm;go_simp;refine hoW hK (z20 aa dA) fun bO=> ?_;clear hK K;refine qF (by kernel_rfl) ?_ _
       (try go_wp2_with fail)
       go_meet;exact⟨_,_,_,_,rfl,(D.X.d.boxes5 (D.X.b _ rfl) _ _ _ _ _).1,(D.X.d.boxes5 (D.X.b _ rfl) _ _ _ _ _).2⟩
      refine xL rfl (fun K hK=> ?_) xP;go_simp;replace D:=za4 D.X.arr;refine hoW hK D.X.cell fun aa=> ?_;clear hK K;obtain⟨ks,iW⟩:=nmd W.heap.size;rw[iW.X]at D⊢;generalize W.alloc _=W at*;refine rdH 7 fun K hK=> ?_;go_simp;refine(D.X.draw n (by omega)).mono ?_;rintro e W ⟨y,rfl,hy,hD⟩;replace D:=za4 hD
      (try go_wp2_with fail)
      refine hoW hK D.X.cell fun aa=> ?_;clear hK K;refine rdH 10 fun K hK=> ?_;go_simp;refine(D.X.draw 3 (by omega)).mono ?_;rintro e W ⟨y,rfl,hy,hD⟩;replace D:=za4 hD;replace hy:y<3:=by omega
      have iG:(y:Int)<3:=by omega
      obtain⟨z9,fh⟩:=nmd ([(5:Int),10,100].getD y 0)
      (try go_wp2_with fail)
      refine hoW hK D.X.cell fun aa=> ?_;clear hK K;refine tkH 11 aa ?_;refine rdH 12 fun K hK=> ?_;have sz:=zf5 (D.X.s _ rfl).1 hy;rw[fh.X]at sz;go_simp;refine hoW hK D.X.cell fun aa=> ?_;clear hK K;clear sz;refine tkH 13 aa ?_;refine rdH 15 fun K hK=> ?_;obtain⟨z0,z1,z2,z3,z4⟩:=zc6 (D.X.b _ rfl).1;have zf:=fun i=>yZ _ _ i _ _ (D.X.b _ rfl).1;have dA:=(D.X.b _ rfl).2.2.1.symm;go_simp;refine hoW hK (z20 aa dA) fun bO=> ?_;clear hK K;refine qF (by kernel_rfl) ?_ _
      (try go_wp2_with fail)
      go_meet;exact⟨_,_,_,_,rfl,(D.X.d.boxes5 (D.X.b _ rfl) _ _ _ _ _).1,(D.X.d.boxes5 (D.X.b _ rfl) _ _ _ _ _).2⟩
     case rest=>
      clear jN oJ;obtain⟨kb,x0,x1,x2,rfl,hd,gY⟩:=hcut;have D5:Zb _:=hd;have X5:=za4 gY;obtain⟨p5,rM⟩:=hd.r;have R5:=za4 rM;clear hd gY rM
      go_wp2_with fail
      refine(yl5 q p5 c a bs wc R5.X).mono ?_;rintro e w6 ⟨x3,x4,p6,rfl,hr,hg⟩;have D6:Zb _:=D5.X.read hr hg;have X6:Zb (zh1 w w6 k g (za (some ⟨go,0,none⟩) m1 co) (za av j cv) kb #[ze zd x0,ze zd x1,ze zd x2,ze zd 0,ze zd 0] 107):=X5.X.read HQ.X hg;clear hr hg D5 X5 R5;obtain⟨z0,z1,z2,z3,z4⟩:=zc6 X6.X.1;have zf:=fun i=>yZ _ _ i _ _ X6.X.1;go_upto_region 14 with fail;have D7:Zb (CD w ((w6.setCell ⟨kb,3,none⟩ (ze zd x3)).setCell ⟨kb,4,none⟩ (ze zd x4)) q a bs c k n g zl cg zs (za (some ⟨go,0,none⟩) m1 co) m1 O (za av j cv) j V f0):=(D6.X.box' X6.X 3 _).box' (X6.X.set 3 _) 4 _;have X7:Zb (zh1 w ((w6.setCell ⟨kb,3,none⟩ (ze zd x3)).setCell ⟨kb,4,none⟩ (ze zd x4)) k g (za (some ⟨go,0,none⟩) m1 co) (za av j cv) kb #[ze zd x0,ze zd x1,ze zd x2,ze zd x3,ze zd x4] 107):=by show zh1 _ _ _ _ _ _ _ _ _;have:=(X6.X.set 3 (ze zd x3)).set 4 (ze zd x4);simpa using this
      clear D6 X6 z0 z1 z2 z3 z4 zf;generalize(w6.setCell ⟨kb,3,none⟩ _).setCell ⟨kb,4,none⟩ _=W7 at*;obtain⟨z0,z1,z2,z3,z4⟩:=zc6 X7.X.1;have zf:=fun i=>yZ _ _ i _ _ X7.X.1;obtain⟨x5,Du⟩:∃x,IntKind.i64.wrap (x4+100)=x:=⟨_,rfl⟩;have Ic:wrap64 (x4+100)=x5:=by rw[<-Du,xu];unfold wrap64;rfl
      go_upto_region 15 with fail;clear Du Ic;have D8:Zb (CD w (W7.setCell ⟨kb,4,none⟩ (ze zd x5)) q a bs c k n g zl cg zs (za (some ⟨go,0,none⟩) m1 co) m1 O (za av j cv) j V f0):=D7.X.box' X7.X 4 _;have X8:Zb (zh1 w (W7.setCell ⟨kb,4,none⟩ (ze zd x5)) k g (za (some ⟨go,0,none⟩) m1 co) (za av j cv) kb #[ze zd x0,ze zd x1,ze zd x2,ze zd x3,ze zd x5] 107):=by show zh1 _ _ _ _ _ _ _ _ _;have:=X7.X.set 4 (ze zd x5);simpa using this
      clear D7 X7 z0 z1 z2 z3 z4 zf;generalize W7.setCell ⟨kb,4,none⟩ _=W8 at*;obtain⟨z0,z1,z2,z3,z4⟩:=zc6 X8.X.1;obtain⟨⟨-,-,-,k3,-⟩,kf⟩:=D8.X.cells;have MY:Zb (za3 (W8.alloc (zg #[ze zd x0,ze zd x1,ze zd x2,ze zd x3,ze zd x5] 107)) (some ⟨W8.heap.size,0,none⟩) [x0,x1,x2,x3,x5]):=za3.of_row (zs:=[x0,x1,x2,x3,x5]) (zS _ _);have tI:Zb (w.heap.size+1<=(W8.alloc (zg #[ze zd x0,ze zd x1,ze zd x2,ze zd x3,ze zd x5] 107)).heap.size):=by have:=D8.X.size;show _<=_;simp;omega
      go_wp2_with(
       at_builtin;refine zO0 28 107 _ 5 40 yr8 Tryz.underlying28 rfl (by omega) (by omega) _ rfl _ _ rfl (w.heap.size+1) _ j V rfl (D8.X.v.alloc _) W8.heap.size 1 [x0,x1,x2,x3,x5] rfl rfl MY.X (by omega) tI.X ?_;intro v' w9 ae hg bd _;obtain⟨g9,c9,e9,_⟩:=zo1 ae;subst e9;have D9:Zb _:=D8.X.putV ae hg bd;have k9:w9.cell? ⟨k,3,none⟩=some (za av j cv):=by
        have h9:=za6 hg (za0 ((y5 W8.heap.size W8).alloc (zT _) _) (za2 D8.X.b1) D8.X.b1) (fun e=>(D8.X.d2 _ e.symm).1 rfl);have:=zU _ _ 3 _ _ _ h9;simpa using this
       have f9:∀i,w9.frozen? ⟨k,i,none⟩=false:=by
        have h9:=za6 hg (za0 ((y5 W8.heap.size W8).alloc (zT _) _) (za2 D8.X.b1) D8.X.b1) (fun e=>(D8.X.d2 _ e.symm).1 rfl);exact fun i=>yZ _ _ i _ _ h9
       clear ae hg bd)
      go_roundw
      case rel=>exact⟨i - 1,j+1,_,V++[x0,x1,x2,x3,x5],by omega,by first|rfl|go_num,D9.X⟩
      case measure=>simp[intOf];omega
    ·have jl:i=0:=by omega
     subst jl;have nF:j=m2:=by omega
     subst nF;obtain⟨gv,Qs,e,-⟩:=zo1 (k:=j - 1) (by have:=jN.X.v;rw[Nat.sub_add_cancel j8];exact this);rw[Nat.sub_add_cancel j8]at e
     injection e with e1 e2 e3
     subst e1 e3
     go_wp2_with fail
     refine(zc5 q Ak c 40 a bs _ oJ.X (by omega)).mono ?_;rintro e w6 ⟨y6,p6,rfl,bX,cD,hr,hg⟩;obtain⟨y6,rfl⟩:=xp bX;have D6:Zb _:=jN.X.read hr hg;have R6:=za4 hr;clear hr hg jN oJ bX cD;obtain⟨kv,Bz⟩:=nmd j;rw[Bz.X]at D6 j8 mQ⊢;by_cases h39:y6=39
     ·subst h39
      go_wp2_with fail
      refine(zn5 q p6 c 0 1000000 a bs w6 R6.X (by omega) (by omega) (by omega) (by omega)).mono ?_;rintro e w7 ⟨f7,p7,rfl,-,-,hr,hg⟩;have D7:Zb _:=D6.X.read hr hg;clear hr hg D6 R6;obtain⟨⟨k0,k1,k2,k3,k4⟩,kf⟩:=D7.X.cells;have D8:Zb _:=D7.X.setF f7;clear D7;go_upto_region 23 with fail;clear k0 k1 k2 k3 k4 kf;generalize w7.setCell ⟨k,4,none⟩ _=W8 at*;obtain⟨⟨k0,k1,k2,k3,k4⟩,kf⟩:=D8.X.cells;obtain⟨b0,b1,b2,b3,b4⟩:=zc6 D8.X.b0;have bf:=fun i=>yZ _ _ i _ _ D8.X.b0;go_wp2;exact D8.X.done HZ.X Dz.X j_ dC j8 mQ _ (by rfl) (by rfl)
     ·by_cases h38:y6=38
      ·subst h38
       clear h39;obtain⟨⟨-,-,k2,-,-⟩,kf⟩:=D6.X.cells;have DY:(0:Int)<(m1:Int):=by omega
       have GC:0<m1:=by omega
       have FY:¬m1=0:=by omega
       go_upto_region 20 with fail;have kS:=k2
       go_region_held3 (fun W=>W.cell? ⟨k,2,none⟩=some (za (some ⟨go,0,none⟩) m1 co)) (first|with_reducible exact kS|with_reducible exact kT|go_keep) ((first
        |(go_at_call 30
          with_reducible refine(zn5 q p6 c 0 40 a bs w6.drew (R6.X.below (y5 _ _).drew) (by omega) (by omega) (by omega) (by omega)).mono ?_
          rintro e w7 ⟨f7,p7,rfl,-,-,hr,hg⟩;have D7:Zb _:=(D6.X.below (y5 _ _).drew).read hr hg;have kS:=D7.X.cells.1.2.2.1;obtain⟨o4,of⟩:=zV6 (k:=4) D7.X.o (by have:=D7.X.o.1;rw[qz]at this;omega);have kT:=(D7.X.setO 4 f7).cells.1.2.2.1;clear hr hg)))
       all_goals
        have D8:Zb _:=D7.X.setO 4 f7;clear D6 R6 D7 k2 kf DY GC FY o4 of kS kT;generalize w7.setCell ⟨go,4,none⟩ _=W8 at*;obtain⟨⟨k0,k1,k2,k3,k4⟩,kf⟩:=D8.X.cells;obtain⟨b0,b1,b2,b3,b4⟩:=zc6 D8.X.b0;have bf:=fun i=>yZ _ _ i _ _ D8.X.b0;go_wp2;exact D8.X.done HZ.X Dz.X j_ dC j8 mQ _ (by rfl) (by rfl)
      ·by_cases h37:y6=37
       ·subst h37
        clear h39 h38;obtain⟨⟨-,-,-,k3,-⟩,kf⟩:=D6.X.cells;have DY:(0:Int)<(kv:Int):=by omega
        have GC:0<kv:=by omega
        have FY:¬kv=0:=by omega
        go_upto_region 22 with fail;have kS:=k3
        go_region_held3 (fun W=>W.cell? ⟨k,3,none⟩=some (za (some ⟨gv,0,none⟩) kv cv)) (first|with_reducible exact kS|with_reducible exact kT|go_keep) ((first
         |(go_at_call 30
           with_reducible refine(zn5 q p6 c 1 20 a bs w6.drew (R6.X.below (y5 _ _).drew) (by omega) (by omega) (by omega) (by omega)).mono ?_
           rintro e w7 ⟨f7,p7,rfl,-,-,hr,hg⟩;have D7:Zb _:=(D6.X.below (y5 _ _).drew).read hr hg;have kS:=D7.X.cells.1.2.2.2.1;obtain⟨o4,of⟩:=zV6 (k:=0) D7.X.v (by have:=D7.X.v.1;rw[qz]at this;omega);have kT:=(D7.X.setV 0 f7).cells.1.2.2.2.1;clear hr hg)))
        all_goals
         have D8:Zb _:=D7.X.setV 0 f7;clear D6 R6 D7 k3 kf DY GC FY o4 of kS kT;generalize w7.setCell ⟨gv,0,none⟩ _=W8 at*;obtain⟨⟨k0,k1,k2,k3,k4⟩,kf⟩:=D8.X.cells;obtain⟨b0,b1,b2,b3,b4⟩:=zc6 D8.X.b0;have bf:=fun i=>yZ _ _ i _ _ D8.X.b0;go_wp2;exact D8.X.done HZ.X Dz.X j_ dC j8 mQ _ (by rfl) (by rfl)
       ·have ME:((y6:Int)==39)=false:=by simp;omega
        have PU:((y6:Int)==38)=false:=by simp;omega
        have Rd:((y6:Int)==37)=false:=by simp;omega
        clear h39 h38 h37 R6;obtain⟨⟨k0,k1,k2,k3,k4⟩,kf⟩:=D6.X.cells;obtain⟨b0,b1,b2,b3,b4⟩:=zc6 D6.X.b0;have bf:=fun i=>yZ _ _ i _ _ D6.X.b0;go_wp2;exact D6.X.done HZ.X Dz.X j_ dC j8 mQ _ (by rfl) (by rfl)
theorem y09(q p c:Nat)(m:Nat)(a:Option Zd)(bs:List Int)(w:zi)(h:RD w q a bs c p)(mA:1<=m)(jv:m<=12):
 Zc zh 26 #[.pointer (some ⟨q,0,none⟩),ze zd m] w (y49 w q a bs c m):=(yz8 q p c m a bs w h mA jv).mono fun _ _ ⟨n,g,zl,cg,go,ko,co,gv,kv,cv,zs,O,V,fi,h1,h2,h3,h4,h5,h6,h7,h8,_⟩=>⟨n,g,zl,cg,go,ko,co,gv,kv,cv,zs,O,V,fi,h1,h2,h3,h4,h5,h6,h7,h8⟩
structure CPX(w W:zi)(q:Nat)(zc zp cs ps:Array Value)(kc kp g go gv:Nat)(zs O V:List Int)(rs ls:Value)(R:List RT)(L:List Int):Prop where
 b:Za w.heap.size w W
 z1:W.heap[w.heap.size]? =some (.cells zc 30 (0,0))
 z2:W.heap[w.heap.size+1]? =some (.cells zp 33 (0,0))
 k1:W.heap[kc]? =some (.cells cs 30 (0,0))
 k2:W.heap[kp]? =some (.cells ps 33 (0,0))
 i1:za3 W (some ⟨g,0,none⟩) zs
 i2:za3 W (some ⟨go,0,none⟩) O
 i3:za3 W (some ⟨gv,0,none⟩) V
 po:∃b3,q<b3/\w.heap.size+2<=b3/\PO W b3 rs R ls L
 n:w.heap.size+1<q/\w.heap.size+1<kc/\w.heap.size+1<kp/\kc≠q/\kp≠q
 m:(g≠q/\w.heap.size+1<g)/\(go≠q/\w.heap.size+1<go)/\gv≠q/\w.heap.size+1<gv
section
variable {w W W':zi} {q:Nat} {zc zp cs ps:Array Value} {kc kp g go gv:Nat} {zs O V:List Int} {rs ls:Value} {R:List RT} {L:List Int}
theorem CPX.read(h:CPX w W q zc zp cs ps kc kp g go gv zs O V rs ls R L)(hg:W.grownBy W' (some q)):CPX w W' q zc zp cs ps kc kp g go gv zs O V rs ls R L:=by
 have hn:=h.n;have hm:=h.m;obtain⟨b3,cG,lS,ho⟩:=h.po;exact⟨zu7 h.b (by omega) hg,za6 hg h.z1 (fun e=>by injection e with e;omega),za6 hg h.z2 (fun e=>by injection e with e;omega),za6 hg h.k1 (fun e=>by injection e with e;omega),za6 hg h.k2 (fun e=>by injection e with e;omega),zg0 h.i1 hg hm.1.1,zg0 h.i2 hg hm.2.1.1,zg0 h.i3 hg hm.2.2.1,⟨b3,cG,lS,ho.other hg (.inl cG)⟩,h.n,h.m⟩
theorem CPX.below(h:CPX w W q zc zp cs ps kc kp g go gv zs O V rs ls R L)(hb:Za W.heap.size W W'):CPX w W' q zc zp cs ps kc kp g go gv zs O V rs ls R L:=by
 obtain⟨b3,cG,lS,ho⟩:=h.po;exact⟨h.b.trans (hb.mono h.b.size),za0 hb (za2 h.z1) h.z1,za0 hb (za2 h.z2) h.z2,za0 hb (za2 h.k1) h.k1,za0 hb (za2 h.k2) h.k2,h.i1.below hb,h.i2.below hb,h.i3.below hb,⟨b3,cG,lS,ho.below hb⟩,h.n,h.m⟩
theorem CPX.step{k:Nat}{IU KH:Array Value}(h:CPX w W q zc zp cs ps kc kp g go gv zs O V rs ls R L)(hg:W.grownBy W' (some k))(hk:k=w.heap.size∨k=w.heap.size+1)(h1:W'.heap[w.heap.size]? =some (.cells IU 30 (0,0)))(h2:W'.heap[w.heap.size+1]? =some (.cells KH 33 (0,0))):CPX w W' q IU KH cs ps kc kp g go gv zs O V rs ls R L:=by
 have hn:=h.n;have hm:=h.m;obtain⟨b3,cG,lS,ho⟩:=h.po;have hc:=h.b.size;exact⟨zu7 h.b (by omega) hg,h1,h2,za6 hg h.k1 (fun e=>by injection e with e;omega),za6 hg h.k2 (fun e=>by injection e with e;omega),zg0 h.i1 hg (by omega),zg0 h.i2 hg (by omega),zg0 h.i3 hg (by omega),⟨b3,cG,lS,ho.other hg (.inl (by omega))⟩,h.n,h.m⟩
theorem CPX.putC{z0 z1 z2 z3 z4:Value}(h:CPX w W q #[z0,z1,z2,z3,z4] zp cs ps kc kp g go gv zs O V rs ls R L)(v0 v1 v2 v3 v4:Value):CPX w (((((W.setCell ⟨w.heap.size,0,none⟩ v0).setCell ⟨w.heap.size,1,none⟩ v1).setCell ⟨w.heap.size,2,none⟩ v2).setCell ⟨w.heap.size,3,none⟩ v3).setCell ⟨w.heap.size,4,none⟩ v4) q #[v0,v1,v2,v3,v4] zp cs ps kc kp g go gv zs O V rs ls R L:=by
 have hg:W.grownBy (((((W.setCell ⟨w.heap.size,0,none⟩ v0).setCell ⟨w.heap.size,1,none⟩ v1).setCell ⟨w.heap.size,2,none⟩ v2).setCell ⟨w.heap.size,3,none⟩ v3).setCell ⟨w.heap.size,4,none⟩ v4) (some w.heap.size):=zb4 (zb4 (zb4 (zb4 (zb3 _ _ _ _) (zb3 _ _ _ _)) (zb3 _ _ _ _)) (zb3 _ _ _ _)) (zb3 _ _ _ _);refine h.step hg (.inl rfl) ?_ (za6 hg h.z2 (fun e=>by injection e with e;omega));have:=ze1 (i:=4) v4 (ze1 (i:=3) v3 (ze1 (i:=2) v2 (ze1 (i:=1) v1 (ze1 (i:=0) v0 h.z1))));simpa using this
theorem CPX.putP{z0 z1:Value}(h:CPX w W q zc #[z0,z1] cs ps kc kp g go gv zs O V rs ls R L)(v0 v1:Value):CPX w ((W.setCell ⟨w.heap.size+1,0,none⟩ v0).setCell ⟨w.heap.size+1,1,none⟩ v1) q zc #[v0,v1] cs ps kc kp g go gv zs O V rs ls R L:=by
 have hg:W.grownBy ((W.setCell ⟨w.heap.size+1,0,none⟩ v0).setCell ⟨w.heap.size+1,1,none⟩ v1) (some (w.heap.size+1)):=zb4 (zb3 _ _ _ _) (zb3 _ _ _ _);refine h.step hg (.inr rfl) (za6 hg h.z1 (fun e=>by injection e with e;omega)) ?_;have:=ze1 (i:=1) v1 (ze1 (i:=0) v0 h.z2);simpa using this
theorem CPX.keep2{c0 c1 c2 c3 c4 p0 p1:Value}(h:CPX w W q zc zp #[c0,c1,c2,c3,c4] #[p0,p1] kc kp g go gv zs O V rs ls R L):(W.cell? ⟨kc,0,none⟩=some c0/\W.cell? ⟨kc,1,none⟩=some c1/\W.cell? ⟨kc,2,none⟩=some c2/\W.cell? ⟨kc,3,none⟩=some c3/\W.cell? ⟨kc,4,none⟩=some c4)/\W.cell? ⟨kp,0,none⟩=some p0/\W.cell? ⟨kp,1,none⟩=some p1:=⟨zc6 h.k1,za1 h.k2⟩
end
theorem CPX.new{w W w5:zi}{q:Nat}{zc zp cs:Array Value}{kc g go gv:Nat}{zs O V:List Int}{rs ls:Value}{R:List RT}{L:List Int}(hb:Za w.heap.size w W)(h1:W.heap[w.heap.size]? =some (.cells zc 30 (0,0)))(h2:W.heap[w.heap.size+1]? =some (.cells zp 33 (0,0)))(h3:W.heap[kc]? =some (.cells cs 30 (0,0)))(i1:za3 W (some ⟨g,0,none⟩) zs/\g≠q/\w.heap.size+1<g)(i2:za3 W (some ⟨go,0,none⟩) O/\go≠q/\w.heap.size+1<go)(i3:za3 W (some ⟨gv,0,none⟩) V/\gv≠q/\w.heap.size+1<gv)(hq:w.heap.size+1<q/\q<W.heap.size)(hk:w.heap.size+1<kc/\kc≠q)(hg:W.grownBy w5 (some q))(ho:PO w5 W.heap.size rs R ls L):CPX w (w5.alloc (zg #[rs,ls] 33)) q zc zp cs #[rs,ls] kc w5.heap.size g go gv zs O V rs ls R L:=by
 have hA:Za w5.heap.size w5 (w5.alloc (zg #[rs,ls] 33)):=zP _;have b5:Za w.heap.size w w5:=zu7 hb (by omega) hg;have g5:=za6 hg h1 (fun e=>by injection e with e;omega);have g6:=za6 hg h2 (fun e=>by injection e with e;omega);have k5:=za6 hg h3 (fun e=>hk.2 (by injection e));have hz:=za2 h3;have Rn:=hg.size;exact⟨b5.trans (hA.mono b5.size),za0 hA (za2 g5) g5,za0 hA (za2 g6) g6,za0 hA (za2 k5) k5,zS _ _,(zg0 i1.1 hg i1.2.1).below hA,(zg0 i2.1 hg i2.2.1).below hA,(zg0 i3.1 hg i3.2.1).below hA,⟨W.heap.size,hq.2,by omega,ho.below hA⟩,⟨hq.1,hk.1,by omega,hk.2,by omega⟩,i1.2,i2.2,i3.2⟩
theorem zD7{R:List RT}{b:Nat}(h:∀r∈R,r.ids.length<=b):∀k,k<=R.length->(zb0 R k).length<=k*b
 |0,_=>by simp[zk1]
 |k+1,hk=>by
  have ih:=zD7 h k (by omega);have hm:R.getD k rt0∈R:=by rw[zQ,zR (by omega)];simp
  have:=h _ hm;rw[zf9 (by omega),xY,Nat.succ_mul];omega
structure LP(w W:zi)(k kp:Nat)(cs:Array Value)(ra:Option Zd)(nr rc:Nat)(la:Option Zd)(m lc:Nat)(g go gv:Nat)(zs O V:List Int)(R:List RT)(L:List Int):Prop where
 b:Za w.heap.size w W
 b1:W.heap[k]? =some (.cells cs 30 (0,0))
 b2:W.heap[kp]? =some (zg #[za ra nr rc,za la m lc] 33 (0,0))
 iz:za3 W (some ⟨g,0,none⟩) zs
 io:za3 W (some ⟨go,0,none⟩) O
 iv:za3 W (some ⟨gv,0,none⟩) V
 r:za9 W ra R
 l:za3 W la L
theorem LP.below{w W W':zi}{k kp:Nat}{cs:Array Value}{ra:Option Zd}{nr rc:Nat}{la:Option Zd}{m lc:Nat}{g go gv:Nat}{zs O V:List Int}{R:List RT}{L:List Int}(h:LP w W k kp cs ra nr rc la m lc g go gv zs O V R L)(hb:Za W.heap.size W W'):LP w W' k kp cs ra nr rc la m lc g go gv zs O V R L:=
 ⟨h.b.trans (hb.mono h.b.size),za0 hb (za2 h.b1) h.b1,za0 hb (za2 h.b2) h.b2,h.iz.below hb,h.io.below hb,h.iv.below hb,h.r.below hb,h.l.below hb⟩
