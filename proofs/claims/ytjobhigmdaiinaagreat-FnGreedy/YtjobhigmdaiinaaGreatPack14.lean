import Derived.Test.YtjobhigmdaiinaaGreatPack1
import Derived.Test.YtjobhigmdaiinaaGreatPack2
import Derived.Test.YtjobhigmdaiinaaGreatPack3
import Derived.Test.YtjobhigmdaiinaaGreatPack4
import Derived.Test.YtjobhigmdaiinaaGreatPack5
import Derived.Test.YtjobhigmdaiinaaGreatPack7
import Derived.Test.YtjobhigmdaiinaaGreatDrawRoute
import Derived.Test.YtjobhigmdaiinaaGreatPack13
import Derived.Deep.RegionHeld3
import Derived.Deep.CutRange
namespace Go.Proofs.YtjobhigmdaiinaaGreat
open Go.RowKit
structure PD(w W:World)(q:Nat)(a:Option Addr)(bs:List Int)(c:Nat)(cs:Array Value)(kp:Nat)(rs ls:Value)(R:List RT)(L:List Int):Prop where
 gr:w.grownBy W (some q)
 r0:∃p,RD w q a bs c p
 r:∃p,RD W q a bs c p
 bc:W.heap[w.heap.size]? =some (.cells cs 30 (0,0))
 b0:W.heap[w.heap.size+1]? =some (.cells #[.slice none 0 0,.slice none 0 0] 33 (0,0))
 bp:W.heap[kp]? =some (.cells #[rs,ls] 33 (0,0))
 hk:w.heap.size+1<kp
 po:PO W (w.heap.size+2) rs R ls L
section
variable {w W W':World} {q:Nat} {a:Option Addr} {bs:List Int} {c:Nat} {cs:Array Value} {kp:Nat} {rs ls rs' ls':Value} {R R':List RT} {L L':List Int}
theorem PD.lt(h:PD w W q a bs c cs kp rs ls R L):q<w.heap.size:=by
 obtain⟨p,hr⟩:=h.r0;exact za3 hr.1
theorem PD.size(h:PD w W q a bs c cs kp rs ls R L):w.heap.size+3<=W.heap.size:=by
 have:=za3 h.bp;have:=h.hk;omega
theorem PD.read{p:Nat}(h:PD w W q a bs c cs kp rs ls R L)(hr:RD W' q a bs c p)(hg:W.grownBy W' (some q)):PD w W' q a bs c cs kp rs ls R L:=by
 have hl:=h.lt;have hk:=h.hk;exact⟨zb0 h.gr hg,h.r0,⟨p,hr⟩,za5 hg h.bc (fun e=>by injection e with e;omega),za5 hg h.b0 (fun e=>by injection e with e;omega),za5 hg h.bp (fun e=>by injection e with e;omega),h.hk,h.po.other hg (.inl (by omega))⟩
theorem PD.below(h:PD w W q a bs c cs kp rs ls R L)(hb:Below W.heap.size W W'):PD w W' q a bs c cs kp rs ls R L:=by
 obtain⟨p,hr⟩:=h.r;exact⟨zl5 h.gr hb,h.r0,⟨p,hr.below hb⟩,za1 hb (za3 h.bc) h.bc,za1 hb (za3 h.b0) h.b0,za1 hb (za3 h.bp) h.bp,h.hk,h.po.below hb⟩
theorem PD.ints{g:Nat}{zs:List Int}(h:PD w W q a bs c cs kp rs ls R L)(hz:za0 w (some ⟨g,0,none⟩) zs)(hne:g≠q):za0 W (some ⟨g,0,none⟩) zs:=zd1 hz h.gr hne
theorem PD.put{i:Nat}{row:Option Nat}{u:Value}(h:PD w W q a bs c cs kp rs ls R L)(hg:W.grownBy W' row)(hrow:∀k,row=some k->w.heap.size+2<=k/\k≠kp)(hcs:(#[rs,ls]:Array Value).setIfInBounds i u= #[rs',ls'])(hp:PO W' (w.heap.size+2) rs' R' ls' L'):PD w (W'.setCell ⟨kp,i,none⟩ u) q a bs c cs kp rs' ls' R' L':=by
 obtain⟨p,hr⟩:=h.r;obtain⟨p0,hr0⟩:=h.r0;have hk:=h.hk;have hs:=za9 W' kp i u;have hsl:∀b,some kp=some b->w.heap.size<=b:=fun b e=>by injection e with e;omega
 have hrw:∀b,row=some b->w.heap.size<=b:=fun b e=>by have:=(hrow b e).1;omega
 have hbp:=za5 hg h.bp (fun e=>(hrow _ e.symm).2 rfl);refine⟨zc5 (zc5 h.gr hg hrw) hs hsl,h.r0,⟨p,RD.kept2 hr0 (RD.kept2 hr0 hr hg hrw) hs hsl⟩,za5 hs (za5 hg h.bc (fun e=>by have:=(hrow _ e.symm).1;omega)) (fun e=>by injection e with e;omega),za5 hs (za5 hg h.b0 (fun e=>by have:=(hrow _ e.symm).1;omega)) (fun e=>by injection e with e;omega),?_,h.hk,hp.box hbp⟩;rw[<-hcs];exact zc6 (i:=i) u hbp
theorem PD.rowR'(h:PD w W q a bs c cs kp rs ls R L):∀k,rs.ownBlock=some k->w.heap.size+2<=k/\k≠kp:=fun k e=>⟨(h.po.r.lt k e).1,fun e2=>zf3 h.po.r h.bp (by decide) (by rw[e,e2])⟩
theorem PD.rowL'(h:PD w W q a bs c cs kp rs ls R L):∀k,ls.ownBlock=some k->w.heap.size+2<=k/\k≠kp:=fun k e=>⟨(h.po.l.lt k e).1,fun e2=>zf3 h.po.l h.bp (by decide) (by rw[e,e2])⟩
theorem PD.set2(h:PD w W q a bs c cs kp rs ls R L)(hp:PO W (w.heap.size+2) rs' R' ls' L'):PD w ((W.setCell ⟨kp,0,none⟩ rs').setCell ⟨kp,1,none⟩ ls') q a bs c cs kp rs' ls' R' L':=by
 have hb0:W.grownBy W none:=⟨rfl,rfl,rfl,Nat.le_refl _,fun _ _ _=>rfl⟩;obtain⟨p,hr⟩:=h.r;obtain⟨p0,hr0⟩:=h.r0;have hk:=h.hk;have hs:W.grownBy ((W.setCell ⟨kp,0,none⟩ rs').setCell ⟨kp,1,none⟩ ls') (some kp):=zb0 (za9 _ _ _ _) (za9 _ _ _ _);have hsl:∀b,some kp=some b->w.heap.size<=b:=fun b e=>by injection e with e;omega
 refine⟨zc5 h.gr hs hsl,h.r0,⟨p,RD.kept2 hr0 hr hs hsl⟩,za5 hs h.bc (fun e=>by injection e with e;omega),za5 hs h.b0 (fun e=>by injection e with e;omega),?_,h.hk,(hp.box h.bp).box (by
  have:=zc6 (i:=0) rs' h.bp;simpa using this)⟩
 have:=zc6 (i:=1) ls' (zc6 (i:=0) rs' h.bp);simpa using this
theorem PD.setL(h:PD w W q a bs c cs kp rs ls R L)(hl:W.ownsRow (w.heap.size+2) 2 1 ls' L'.length (L'.map (Value.int .i64))):PD w (W.setCell ⟨kp,1,none⟩ ls') q a bs c cs kp rs ls' R L':=
 h.put (i:=1) (u:=ls') (row:=none) (W':=W) ⟨rfl,rfl,rfl,Nat.le_refl _,fun _ _ _=>rfl⟩ (fun k e=>by cases e) rfl ⟨h.po.r,h.po.s,hl⟩
end
theorem zy7(ra la:Option Addr)(rc ln lc nr:Nat)(R:List RT)(veh:Int)(x:RT)(w:World)(hR:za6 w ra R)(hn:R.length<=1048576)(hnr:R.length=nr)(hx:zd9 R veh=x):
 Calls Tryz.prog 66 #[.agg #[.slice ra nr rc,.slice la ln lc],.int .i64 veh] w fun e w'=>e=.returned (.agg #[.int .i64 veh,.slice x.a x.ids.length x.c])/\Below w.heap.size w w':=by
 subst hnr hx;exact z60 ra la rc ln lc R veh w hR hn
theorem zS9(l:List Int)(k:Nat)(x:Int)(hk:k<=l.length):(insL l k x).length=l.length+1:=by simp[insL];omega
theorem zR2{l:List Int}{k:Nat}{x:Int}:∀z∈insL l k x,z∈l∨z=x:=fun z hz=>by
 unfold insL at hz;rcases List.mem_append.1 hz with h|h
 ·exact .inl (List.mem_of_mem_take h)
 ·rcases List.mem_cons.1 h with h|h
  ·exact .inr h
  ·exact .inl (List.mem_of_mem_drop h)
theorem zr6(n fi veh:Int)(g zl cg go ko co gv kv cv:Nat)(zs O V:List Int)(x:RT)(W:World)(hA:za0 W (some ⟨g,0,none⟩) zs)(hO:za0 W (some ⟨go,0,none⟩) O)(hV:za0 W (some ⟨gv,0,none⟩) V)(hlz:zs.length=zl)(hlo:O.length=ko*6)(hlv:V.length=kv*5)(hk2:ko<=12)(hv2:kv<=5)(hx:(x.a=none/\x.ids=[]/\x.c=0)∨((∃gx,x.a=some ⟨gx,0,none⟩)/\za0 W x.a x.ids/\x.ids.length<=x.c))(h9:x.ids.length<=100)(id y:Int)(hy:0<=y/\y<=(x.ids.length:Int)):
 Calls Tryz.prog 68 #[.agg #[.int .i64 n,.slice (some ⟨g,0,none⟩) zl cg,.slice (some ⟨go,0,none⟩) ko co,.slice (some ⟨gv,0,none⟩) kv cv,.int .i64 fi],.agg #[.int .i64 veh,.slice x.a x.ids.length x.c],.int .i64 id,.int .i64 y] W (fun e w'=>∃ch D xs,zK0 W ch veh D xs e w'/\(ch=true->xs.length=x.ids.length+1/\∀z∈xs,z∈x.ids∨z=id)):=by
 subst hlz;obtain⟨xv,xa,xids,xc⟩:=x;simp only at hx h9 hy⊢;rcases hx with⟨rfl,rfl,rfl⟩|⟨⟨gx,rfl⟩,hI,hc⟩
 ·refine(zk9 n fi veh _ _ _ cg ko co kv cv zs O V W hA hO hV hlo hlv (by omega) (by omega) id y _ rfl _ rfl _ rfl).mono ?_
  intro e w' h;refine⟨_,_,_,h,fun hch=> ?_⟩;rw[hch];exact⟨zS9 _ _ _ (by simp at hy⊢;omega),zR2⟩
 ·refine(zl0 n fi veh _ _ _ gx 0 cg ko co kv cv xc zs O V xids W hA hO hV hI hlo hlv (by omega) (by omega) (by omega) hc id y _ rfl _ rfl _ rfl).mono ?_
  intro e w' h;refine⟨_,_,_,h,fun hch=> ?_⟩;rw[hch];exact⟨zS9 _ _ _ (by omega),zR2⟩
section
variable {w W W':World} {q:Nat} {a:Option Addr} {bs:List Int} {c:Nat} {n fi:Int} {g zl cg go ko co gv kv cv:Nat} {kp:Nat} {rs ls:Value} {R:List RT} {L:List Int}
theorem PD.keepL{cs:Array Value}{gl m cl:Nat}{f:Nat->Int}(h:PD w W q a bs c cs kp rs (.slice (some ⟨gl,0,none⟩) m cl) R L)(hm:L.length=m)(hf:∀y,L.getD y 0=f y):W.cell? ⟨kp,1,none⟩=some (.slice (some ⟨gl,0,none⟩) m cl)/\∀y:Nat,y<m->W.cell? ⟨gl,y,none⟩=some (.int .i64 (f y)):=by
 refine⟨(za2 h.bp).2,fun y hy=> ?_⟩;have hl:=h.po.l;rw[hm]at hl;obtain⟨b,off,e,hc⟩:=zd2 hl y (by rw[hm];exact hy);simp at e;obtain⟨rfl,rfl⟩:=e;rw[hf y]at hc;simpa using hc
theorem PD.keepV{V:List Int}{f:Nat->Int}(h:PD w W q a bs c #[.int .i64 n,.slice (some ⟨g,0,none⟩) zl cg,.slice (some ⟨go,0,none⟩) ko co,.slice (some ⟨gv,0,none⟩) kv cv,.int .i64 fi] kp rs ls R L)(hV:za0 w (some ⟨gv,0,none⟩) V/\gv≠q)(hlv:V.length=kv*5)(hf:∀y,V.getD (y*5) 0=f y):W.cell? ⟨kp,0,none⟩=some rs/\W.cell? ⟨kp,1,none⟩=some ls/\W.cell? ⟨w.heap.size,3,none⟩=some (.slice (some ⟨gv,0,none⟩) kv cv)/\∀y:Nat,y<kv->W.cell? ⟨gv,y*5,none⟩=some (.int .i64 (f y)):=by
 obtain⟨p0,p1⟩:=za2 h.bp;refine⟨p0,p1,(zb6 h.bc).2.2.2.1,fun y hy=> ?_⟩;rw[<-hf y];obtain⟨_,_,e,hc⟩:=(h.ints hV.1 hV.2) (y*5) (by omega);simp at e;obtain⟨rfl,rfl⟩:=e;simpa using hc
theorem PD.setX{cs xs:Array Value}{kx:Nat}{u v:Value}(h:PD w W q a bs c cs kp rs ls R L)(hx:W.heap[kx]? =some (.cells xs 43 (0,0)))(hk:w.heap.size+1<kx)(hr:rs.ownBlock≠some kx):PD w ((W.setCell ⟨kx,0,none⟩ u).setCell ⟨kx,1,none⟩ v) q a bs c cs kp rs ls R L:=by
 obtain⟨p,hrd⟩:=h.r;obtain⟨p0,hr0⟩:=h.r0;have hkp:kx≠kp:=fun e=>by
  have:=h.bp;rw[<-e,hx]at this;simp at this
 have hs:W.grownBy ((W.setCell ⟨kx,0,none⟩ u).setCell ⟨kx,1,none⟩ v) (some kx):=zb0 (za9 _ _ _ _) (za9 _ _ _ _);have hsl:∀b,some kx=some b->w.heap.size<=b:=fun b e=>by injection e with e;omega
 exact⟨zc5 h.gr hs hsl,h.r0,⟨p,RD.kept2 hr0 hrd hs hsl⟩,za5 hs h.bc (fun e=>by injection e with e;omega),za5 hs h.b0 (fun e=>by injection e with e;omega),za5 hs h.bp (fun e=>hkp (by injection e with e;exact e.symm)),h.hk,⟨zh9 h.po.r hs hr,fun s hm=>zh9 (h.po.s s hm) hs (zf3 (h.po.s s hm) hx (by decide)),zh9 h.po.l hs (zf3 h.po.l hx (by decide))⟩⟩
theorem zy4{W:World}{kx:Nat}{xs:Value×Value}{u v:Value}{T:TypeId}(hx:W.heap[kx]? =some (.cells #[xs.1,xs.2] T (0,0))):((W.setCell ⟨kx,0,none⟩ u).setCell ⟨kx,1,none⟩ v).heap[kx]? =some (.cells #[u,v] T (0,0)):=by
 have:=zc6 (i:=1) v (zc6 (i:=0) u hx);simpa using this
theorem PD.keep7{kx:Nat}{u v:Value}{T:TypeId}(h:PD w W q a bs c #[.int .i64 n,.slice (some ⟨g,0,none⟩) zl cg,.slice (some ⟨go,0,none⟩) ko co,.slice (some ⟨gv,0,none⟩) kv cv,.int .i64 fi] kp rs ls R L)(hx:W.heap[kx]? =some (.cells #[u,v] T (0,0))):W.cell? ⟨w.heap.size,0,none⟩=some (.int .i64 n)/\W.cell? ⟨w.heap.size,1,none⟩=some (.slice (some ⟨g,0,none⟩) zl cg)/\W.cell? ⟨w.heap.size,2,none⟩=some (.slice (some ⟨go,0,none⟩) ko co)/\W.cell? ⟨w.heap.size,3,none⟩=some (.slice (some ⟨gv,0,none⟩) kv cv)/\W.cell? ⟨w.heap.size,4,none⟩=some (.int .i64 fi)/\W.cell? ⟨kx,0,none⟩=some u/\W.cell? ⟨kx,1,none⟩=some v:=by
 obtain⟨c0,c1,c2,c3,c4⟩:=zb6 h.bc;obtain⟨x0,x1⟩:=za2 hx;exact⟨c0,c1,c2,c3,c4,x0,x1⟩
theorem zU2{S:List RT}{r:RT}{j:Nat}(hk:S.map RT.key=(setL R r).map RT.key)(hR:∀x∈R,x.ids≠[]/\x.ids.length+j<=9)(hr:r.ids≠[]/\r.ids.length+(j - 1)<=9):S.length<=R.length+1/\∀s∈S,s.ids≠[]/\s.ids.length+(j - 1)<=9:=by
 obtain⟨h1,h2⟩:=zs6 R r;refine⟨?_,fun s hs=> ?_⟩
 ·have:=congrArg List.length hk
  simp only[List.length_map]at this;omega
 ·have hm:s.key∈(setL R r).map RT.key:=by rw[<-hk];exact List.mem_map_of_mem hs
  obtain⟨x,hx,e⟩:=List.mem_map.1 hm;have e2:x.ids=s.ids:=congrArg Prod.snd e;rw[<-e2];rcases h1 x hx with h|h
  ·have:=hR x h
   exact⟨this.1,by omega⟩
  ·rw[h];exact hr
theorem yp9{S:List RT}{r:RT}{P:Int->Prop}(hk:S.map RT.key=(setL R r).map RT.key)(hR:∀x∈R,∀z∈x.ids,P z)(hr:∀z∈r.ids,P z):∀s∈S,∀z∈s.ids,P z:=fun s hs=>by
 have hm:s.key∈(setL R r).map RT.key:=by rw[<-hk];exact List.mem_map_of_mem hs
 obtain⟨x,hx,e⟩:=List.mem_map.1 hm;have e2:x.ids=s.ids:=congrArg Prod.snd e;rw[<-e2];rcases(zs6 R r).1 x hx with h|h
 ·exact hR x h
 ·rw[h];exact hr
def DJ(R:List RT)(ls:Value):Prop:=∀s∈R,∀k,ls.ownBlock=some k->(Value.slice s.a s.ids.length s.c).ownBlock≠some k
theorem PD.addL{cs:Array Value}{ls':Value}{L':List Int}(h:PD w W q a bs c cs kp rs ls R L)(hdj:DJ R ls)(hg:W.grownBy W' ls.ownBlock)(ho:W'.ownsRow (w.heap.size+2) 2 1 ls' L'.length (L'.map (Value.int .i64))):PD w (W'.setCell ⟨kp,1,none⟩ ls') q a bs c cs kp rs ls' R L':=by
 have key:∀(T:TypeId) (size n:Nat) (v:Value) (xs:List Value),W.ownsRow (w.heap.size+2) T size v n xs->(∀k,ls.ownBlock=some k->v.ownBlock≠some k)->W'.ownsRow (w.heap.size+2) T size v n xs:=fun T size n v xs hv hne=>by
  refine hv.kept hg ?_;cases hb:v.ownBlock with
  |none=>exact .inl rfl
  |some k=>exact .inr (fun e=>hne k e.symm hb)
 refine h.put (i:=1) (u:=ls') hg (fun k e=>h.rowL' k e) rfl ⟨key _ _ _ _ _ h.po.r (fun k e e2=> ?_),fun s hs=>key _ _ _ _ _ (h.po.s s hs) (hdj s hs),ho⟩;have hrow:∃cs,W.heap[k]? =some (.cells cs 2 (0,0)):=by
  obtain⟨_,⟨h3,_⟩|⟨g',cap,cur,h3,_,h4,_⟩⟩:=h.po.l
  ·rw[h3]at e;cases e
  ·rw[h3]at e
   simp[Value.ownBlock]at e;exact⟨cur,by rw[<-e];exact h4⟩
 obtain⟨cs',hcs⟩:=hrow;exact zf3 h.po.r hcs (by decide) e2
theorem PD.addR{cs:Array Value}{rs':Value}{r:RT}(h:PD w W q a bs c cs kp rs ls R L)(hr:W.ownsRow (w.heap.size+2) 2 1 (.slice r.a r.ids.length r.c) r.ids.length (r.ids.map (Value.int .i64)))(hg:W.grownBy W' rs.ownBlock)(ho:W'.ownsRow (w.heap.size+2) 43 2 rs' (R.length+1) (zg9 R++zm5 r)):PD w (W'.setCell ⟨kp,0,none⟩ rs') q a bs c cs kp rs' ls (R++[r]) L:=
 h.put (i:=0) (u:=rs') hg (fun k e=>h.rowR' k e) rfl (h.po.more hr hg ho)
theorem DJ.new{cs:Array Value}{ls':Value}(h:PD w W q a bs c cs kp rs ls R L)(hn:∀k,ls'.ownBlock=some k->W.heap.size<=k):DJ R ls':=fun s hs k e e2=>by
 have:=(h.po.s s hs).lt k e2;have:=hn k e;omega
end
def LN(cb:Bool)(ls:Value):Prop:=cb=true->∃g m c,ls=.slice (some ⟨g,0,none⟩) m c
def zS7(P:Int->Prop)(cb:Bool)(w:World)(q:Nat)(a:Option Addr)(bs:List Int)(c:Nat)(e:Ending)(w':World):Prop:=∃(rs ls:Value) (R:List RT) (L:List Int),e=.returned (.agg #[rs,ls])/\R.length<=10/\(∀r∈R,r.ids.length<=9)/\L.length<=13/\(∀x∈L,-9223372036854775808<=x/\x<9223372036854775808)/\w.grownBy w' (some q)/\(∃p,RD w' q a bs c p)/\PO w' w.heap.size rs R ls L/\(∀r∈R,∀z∈r.ids,P z)/\LN cb ls
theorem z37:(Tryz.prog.info? 33).map (·.size)=some 2:=by kernel_rfl
theorem PD.done{P:Int->Prop}{cb:Bool}{w W:World}{q:Nat}{a:Option Addr}{bs:List Int}{c:Nat}{cs:Array Value}{kp:Nat}{rs ls:Value}{R:List RT}{L:List Int}(h:PD w W q a bs c cs kp rs ls R L)(hR:R.length<=10)(hr9:∀r∈R,r.ids.length<=9)(hL:L.length<=13)(hw:∀x∈L,-9223372036854775808<=x/\x<9223372036854775808)(hP:∀r∈R,∀z∈r.ids,P z)(hN:LN cb ls)(A:Act)(hp:A.tmps.getD 4 undef=.pointer (some ⟨w.heap.size+1,0,none⟩))(hds:A.defers=[]):
 bodyPost Tryz.prog Tryz.f40 (zS7 P cb w q a bs c) Exit.ret A ((W.setCell ⟨w.heap.size+1,0,none⟩ rs).setCell ⟨w.heap.size+1,1,none⟩ ls):=by
 obtain⟨p,hr⟩:=h.r;obtain⟨p0,hr0⟩:=h.r0;have hsl:∀b,some (w.heap.size+1)=some b->w.heap.size<=b:=fun b e=>by injection e with e;omega
 have hs:W.grownBy ((W.setCell ⟨w.heap.size+1,0,none⟩ rs).setCell ⟨w.heap.size+1,1,none⟩ ls) (some (w.heap.size+1)):=zb0 (za9 _ _ _ _) (za9 _ _ _ _);have hrow:((W.setCell ⟨w.heap.size+1,0,none⟩ rs).setCell ⟨w.heap.size+1,1,none⟩ ls).heap[w.heap.size+1]? =some (.cells #[rs,ls] 33 (0,0)):=by
  have:=zc6 (i:=1) ls (zc6 (i:=0) rs h.b0);simpa using this
 refine bodyPost_ret (v:=.agg #[rs,ls]) (results_cell_row Tryz.results40 _ _ (w.heap.size+1) 33 _ (0,0) _ hp hrow Tryz.underlying33 rfl z37) hds
  ⟨rs,ls,R,L,rfl,hR,hr9,hL,hw,zc5 h.gr hs hsl,⟨p,RD.kept2 hr0 hr hs hsl⟩,((h.po.set (by omega)).set (by omega)).base (by omega),hP,hN⟩
set_option maxRecDepth 10000 in
set_option maxHeartbeats 8000000 in
theorem yk4(P:Int->Prop)(q p c:Nat)(n fi:Int)(g zl cg go ko co gv kv cv:Nat)(zs O V:List Int)(a:Option Addr)(bs:List Int)(w:World)(h:RD w q a bs c p)(hZ:za0 w (some ⟨g,0,none⟩) zs)(hO:za0 w (some ⟨go,0,none⟩) O)(hV:za0 w (some ⟨gv,0,none⟩) V)(hgz:g≠q)(hgo:go≠q)(hgv:gv≠q)(hlz:zs.length=zl)(hlo:O.length=ko*6)(hlv:V.length=kv*5)(hk1:1<=ko)(hk2:ko<=12)(hv1:1<=kv)(hv2:kv<=5)(hwf:zb8 n zs O V ko kv fi=true->∀x∈zY6 O ko,-9223372036854775808<=x/\x<9223372036854775808)(hPO:∀y,y<ko->P (O.getD (y*6) 0))(hPN:∀x:Int,-9223372036854775808<=x->x<9223372036854775808->P x):
 Calls Tryz.prog 40 #[.pointer (some ⟨q,0,none⟩),.agg #[.int .i64 n,.slice (some ⟨g,0,none⟩) zl cg,.slice (some ⟨go,0,none⟩) ko co,.slice (some ⟨gv,0,none⟩) kv cv,.int .i64 fi]] w (zS7 P (zb8 n zs O V ko kv fi) w q a bs c):=by
 have HPO:Hid (∀y,y<ko->P (O.getD (y*6) 0)):=hPO;have HPN:Hid (∀x:Int,-9223372036854775808<=x->x<9223372036854775808->P x):=hPN;clear hPO hPN;have H:Hid (RD w q a bs c p):=h;have HZ:Hid (za0 w (some ⟨g,0,none⟩) zs/\g≠q):=⟨hZ,hgz⟩;have HO:Hid (za0 w (some ⟨go,0,none⟩) O/\go≠q):=⟨hO,hgo⟩;have HV:Hid (za0 w (some ⟨gv,0,none⟩) V/\gv≠q):=⟨hV,hgv⟩;have HLZ:Hid (zs.length=zl):=hlz;have HLO:Hid (O.length=ko*6):=hlo;have HLV:Hid (V.length=kv*5):=hlv;obtain⟨cb,HCB⟩:=nmd (zb8 n zs O V ko kv fi);rw[HCB.out];obtain⟨K,HK⟩:=nmd (if cb=true then ko else 0);obtain⟨X,HX⟩:=nmd (if cb=true then zY6 O ko else []);have HXK:Hid (X.length=K/\K<=12/\∀x∈X,-9223372036854775808<=x/\x<9223372036854775808):=by
  rw[<-HX.out,<-HK.out];cases hb:cb
  ·exact⟨rfl,by simp,fun x hx=>by simp at hx⟩
  ·simp only[if_true]
   exact⟨by simp[zY6],hk2,hwf (HCB.out.trans hb)⟩
 have hkX:=HXK.out.2.1;clear h hZ hO hV hgz hgo hgv hlz hlo hlv hwf;obtain⟨fv,HFV⟩:∃f:Nat->Int,Hid (∀y,V.getD (y*5) 0=f y):=⟨fun y=>V.getD (y*5) 0,fun _=>rfl⟩;have B0:Hid (Below w.heap.size w ((w.alloc (.cells #[.int .i64 n,.slice (some ⟨g,0,none⟩) zl cg,.slice (some ⟨go,0,none⟩) ko co,.slice (some ⟨gv,0,none⟩) kv cv,.int .i64 fi] 30)).alloc (.cells #[.slice none 0 0,.slice none 0 0] 33))):=((Below.refl _ _).alloc (Nat.le_refl _) _).alloc (by simp) _;have C0:Hid (((w.alloc (.cells #[.int .i64 n,.slice (some ⟨g,0,none⟩) zl cg,.slice (some ⟨go,0,none⟩) ko co,.slice (some ⟨gv,0,none⟩) kv cv,.int .i64 fi] 30)).alloc (.cells #[.slice none 0 0,.slice none 0 0] 33)).heap[w.heap.size]? =some (.cells #[.int .i64 n,.slice (some ⟨g,0,none⟩) zl cg,.slice (some ⟨go,0,none⟩) ko co,.slice (some ⟨gv,0,none⟩) kv cv,.int .i64 fi] 30 (0,0))):=heap_alloc2_old _ _ _;have A0:Hid (((w.alloc (.cells #[.int .i64 n,.slice (some ⟨g,0,none⟩) zl cg,.slice (some ⟨go,0,none⟩) ko co,.slice (some ⟨gv,0,none⟩) kv cv,.int .i64 fi] 30)).alloc (.cells #[.slice none 0 0,.slice none 0 0] 33)).heap[w.heap.size+1]? =some (.cells #[.slice none 0 0,.slice none 0 0] 33 (0,0))):=heap_alloc2_new _ _ _;go_enter Tryz.func40,Tryz.ntmps40;obtain⟨c0,c1,c2,c3,c4⟩:=zb6 C0.out;have C1:=zC4 n fi (some ⟨g,0,none⟩) (some ⟨go,0,none⟩) (some ⟨gv,0,none⟩) cg ko co kv cv zs O V ((w.alloc (.cells #[.int .i64 n,.slice (some ⟨g,0,none⟩) zl cg,.slice (some ⟨go,0,none⟩) ko co,.slice (some ⟨gv,0,none⟩) kv cv,.int .i64 fi] 30)).alloc (.cells #[.slice none 0 0,.slice none 0 0] 33)) (HZ.out.1.below B0.out) (HO.out.1.below B0.out) (HV.out.1.below B0.out) HLO.out HLV.out (by omega) (by omega) cb K X HCB.out HK.out HX.out;rw[HLZ.out]at C1
 go_wp2_with(first
  |(go_at_call 84
    go_must(refine C1.mono ?_)
    rintro e w1 ⟨sl,rfl,hb1,ho1⟩;obtain⟨la,lc0,e⟩:=zi5 ho1;subst e;have HLN:Hid (LN cb (.slice la K lc0)):=fun h=>by
     have hk:=HK.out;rw[if_pos h]at hk;rcases own_kinds ho1 with⟨_,e0⟩|⟨g9,c9,e9,-,-⟩
     ·omega
     ·exact⟨_,_,_,e9⟩
    have P1:Hid (PD w (w1.alloc (.cells #[.slice none 0 0,(.slice la K lc0)] 33)) q a bs c #[.int .i64 n,.slice (some ⟨g,0,none⟩) zl cg,.slice (some ⟨go,0,none⟩) ko co,.slice (some ⟨gv,0,none⟩) kv cv,.int .i64 fi] w1.heap.size (.slice none 0 0) (.slice la K lc0) [] X):=by
     have hb2:Below w.heap.size w w1:=B0.out.trans (hb1.mono B0.out.size);have ha:Below w1.heap.size w1 (w1.alloc (.cells #[.slice none 0 0,(.slice la K lc0)] 33)):=(Below.refl _ _).alloc (Nat.le_refl _) _;have hb3:=hb2.trans (ha.mono hb2.size);have hc:=za1 hb1 (za3 C0.out) C0.out;have hr:=za1 hb1 (za3 A0.out) A0.out;refine⟨zl5 (zs1 _ _) hb3,⟨p,H.out⟩,⟨p,H.out.below hb3⟩,za1 ha (za3 hc) hc,za1 ha (za3 hr) hr,heap_alloc_new _ _,za3 hr,⟨World.ownsRow_nil _ _ _ _,(fun s hs=>by cases hs),?_⟩⟩;rw[HXK.out.1];exact zb7 (ho1.alloc _) (by simp)
    obtain⟨pp,hpp⟩:=P1.out.r;clear hb1 ho1)
  |(go_at_call 43
    go_must(refine(zb1 q pp c 10 a bs (w1.alloc (.cells #[.slice none 0 0,(.slice la K lc0)] 33)) hpp (by omega)).mono ?_)
    rintro e w2 ⟨i0,p2,rfl,hy0,hy1,hr,hg⟩;have P2:Hid (PD w w2 q a bs c #[.int .i64 n,.slice (some ⟨g,0,none⟩) zl cg,.slice (some ⟨go,0,none⟩) ko co,.slice (some ⟨gv,0,none⟩) kv cv,.int .i64 fi] w1.heap.size (.slice none 0 0) (.slice la K lc0) [] X):=P1.out.read hr hg;obtain⟨i0,rfl⟩:=Int.eq_ofNat_of_zero_le hy0;have hi0:i0<=9:=by omega
    clear hr hg hy0 hy1 hpp))
 obtain⟨kp,HKP⟩:=nmd w1.heap.size;rw[HKP.out]at P2⊢;clear P1 C1 c0 c1 c2 c3 c4 B0 C0 A0;go_loopw[7] (fun t wr=>∃(j:Nat) (rs ls:Value) (R:List RT) (L:List Int),R.length+j<=9/\(∀r∈R,r.ids≠[]/\r.ids.length+j<=9)/\L.length<=12/\(∀x∈L,-9223372036854775808<=x/\x<9223372036854775808)/\t=.int .i64 j/\DJ R ls/\LN cb ls/\(∀r∈R,∀z∈r.ids,P z)/\PD w wr q a bs c #[.int .i64 n,.slice (some ⟨g,0,none⟩) zl cg,.slice (some ⟨go,0,none⟩) ko co,.slice (some ⟨gv,0,none⟩) kv cv,.int .i64 fi] kp rs ls R L) (fun t _=>(intOf t).toNat)
 case atStart=>exact⟨i0,_,_,[],X,by simpa using hi0,(fun r hr=>by cases hr),by rw[HXK.out.1];exact hkX,HXK.out.2.2,rfl,(fun s hs=>by cases hs),HLN.out,(fun s hs=>by cases hs),P2.out⟩
 case round=>
  clear P2;obtain⟨j,rs,ls,R,L,hRj,hri,hL12,hLw,rfl,hdj,hln,hrp,hd⟩:=hrel;have HLN2:Hid _:=hln;have HRP:Hid (∀r∈R,∀z∈r.ids,P z):=hrp;have HRI:Hid (∀r∈R,r.ids≠[]/\r.ids.length+j<=9):=hri;have HLW:Hid (∀x∈L,-9223372036854775808<=x/\x<9223372036854775808):=hLw;obtain⟨ra,rc,e⟩:=zi5 hd.po.r;subst e;obtain⟨la2,cl,e⟩:=zi5 hd.po.l;subst e;have D4:Hid (PD w wr q a bs c #[.int .i64 n,.slice (some ⟨g,0,none⟩) zl cg,.slice (some ⟨go,0,none⟩) ko co,.slice (some ⟨gv,0,none⟩) kv cv,.int .i64 fi] kp (.slice ra R.length rc) (.slice la2 L.length cl) R L):=hd;have HDJ:Hid (DJ R (.slice la2 L.length cl)):=hdj;clear hd hri hLw hdj hrp hln;obtain⟨nr,HNR⟩:=nmd R.length;obtain⟨m,HM⟩:=nmd L.length;rw[HNR.out]at hRj D4;rw[HM.out]at hL12 D4 HDJ;obtain⟨p0,p1⟩:=za2 D4.out.bp;obtain⟨c0,c1,c2,c3,c4⟩:=zb6 D4.out.bc;have hvI:(0:Int)<(kv:Int):=by omega
  by_cases hcond:0<j/\cb=true/\0<m
  ·obtain⟨hj,hcb,hm⟩:=hcond
   subst hcb;have hjI:(0:Int)<(j:Int):=by omega
   have hmI:(0:Int)<(m:Int):=by omega
   obtain⟨gl,e⟩:∃gl,la2=some ⟨gl,0,none⟩:=by
    rcases own_kinds D4.out.po.l with⟨_,e0⟩|⟨gl,c',e,_,_⟩
    ·rw[HM.out]at e0;omega
    ·simp only[Value.slice.injEq]at e;exact⟨gl,e.1⟩
   subst e;obtain⟨fl,HFL⟩:∃f:Nat->Int,Hid (∀y,L.getD y 0=f y):=⟨fun y=>L.getD y 0,fun _=>rfl⟩;obtain⟨p4,hr4⟩:=D4.out.r;have R4:Hid (RD wr q a bs c p4):=hr4;clear hr4;have kS:=(D4.out.below (Below.refl _ _).drew).keepL HM.out HFL.out
   go_wp2_with fail
   go_region_held3 (fun W=>W.cell? ⟨kp,1,none⟩=some (.slice (some ⟨gl,0,none⟩) m cl)/\∀y:Nat,y<m->W.cell? ⟨gl,y,none⟩=some (.int .i64 (fl y))) (first|with_reducible exact kS|go_keep) ((first
    |(go_at_call 43
      with_reducible refine(zb1 q p4 c m a bs wr.drew (R4.out.below (Below.refl _ _).drew) (by omega)).mono ?_
      rintro e w5 ⟨y,p5,rfl,hy0,hy1,hr,hg⟩;obtain⟨y,rfl⟩:=Int.eq_ofNat_of_zero_le hy0;have hyv:y<m:=by omega
      have hyI:(y:Int)<(m:Int):=by omega
      have D5:Hid (PD w w5 q a bs c #[.int .i64 n,.slice (some ⟨g,0,none⟩) zl cg,.slice (some ⟨go,0,none⟩) ko co,.slice (some ⟨gv,0,none⟩) kv cv,.int .i64 fi] kp (.slice ra nr rc) (.slice (some ⟨gl,0,none⟩) m cl) R L):=(D4.out.below (Below.refl _ _).drew).read hr hg;have kS:=D5.out.keepL HM.out HFL.out;clear hr hg hy0 hy1)))
   obtain⟨id,HID⟩:=nmd (fl y);rw[HID.out];have HPI:Hid (P id):=by
    show P id;have hmem:id∈L:=by
     rw[<-HID.out,<-HFL.out y,List.getD_eq_getElem?_getD,List.getElem?_eq_getElem (by rw[HM.out];exact hyv)];simp
    exact HPN.out id (HLW.out id hmem).1 (HLW.out id hmem).2
   clear D4 R4 kS hyv hyI p0 p1 c0 c1 c2 c3 c4;go_upto_region 6 with fail;go_cut [9]from 20 to 82 (fun s9 wx=>∃(kx:Nat) (v6:Int) (x6:RT),s9=.pointer (some ⟨kx,0,none⟩)/\zd9 R v6=x6/\w.heap.size+1<kx/\PD w wx q a bs c #[.int .i64 n,.slice (some ⟨g,0,none⟩) zl cg,.slice (some ⟨go,0,none⟩) ko co,.slice (some ⟨gv,0,none⟩) kv cv,.int .i64 fi] kp (.slice ra nr rc) (.slice (some ⟨gl,0,none⟩) m cl) R L/\wx.heap[kx]? =some (.cells #[.int .i64 v6,.slice x6.a x6.ids.length x6.c] 43 (0,0)))
   case first=>
    have kS:=(D5.out.below (Below.refl _ _).drew).keepV HV.out HLV.out HFV.out;refine wp_region_held_drew (S:=(fun W=>W.cell? ⟨kp,0,none⟩=some (.slice ra nr rc)/\W.cell? ⟨kp,1,none⟩=some (.slice (some ⟨gl,0,none⟩) m cl)/\W.cell? ⟨w.heap.size,3,none⟩=some (.slice (some ⟨gv,0,none⟩) kv cv)/\∀y:Nat,y<kv->W.cell? ⟨gv,y*5,none⟩=some (.int .i64 (fv y)))) (by kernel_rfl) ?_ (fun hHeld=> ?_)
    ·exact kS
    have D1:Hid (PD w w5.drew q a bs c #[.int .i64 n,.slice (some ⟨g,0,none⟩) zl cg,.slice (some ⟨go,0,none⟩) ko co,.slice (some ⟨gv,0,none⟩) kv cv,.int .i64 fi] kp (.slice ra nr rc) (.slice (some ⟨gl,0,none⟩) m cl) R L):=D5.out.below (Below.refl _ _).drew;clear D5;generalize w5.drew=W1 at*;refine tkH 0 hHeld ?_;refine tkH 1 hHeld ?_;refine tkH 2 hHeld ?_;refine tkH 3 hHeld ?_;refine tkH 4 hHeld ?_;refine tkH 5 hHeld ?_;refine tkH 6 hHeld ?_;refine wpAnyH_ready (rs:=[7,12]) (by kernel_rfl) (by simp) ?_;refine AllReadyH.cons rfl (fun K hK=> ?_) ?_
    ·skip
     obtain⟨pb,hrb⟩:=D1.out.r;go_simp;refine(zb1 q pb c kv a bs _ hrb (by omega)).mono ?_;rintro e wb ⟨y6,p6,rfl,hy0,hy1,hr,hg⟩;obtain⟨y6,rfl⟩:=Int.eq_ofNat_of_zero_le hy0;have hyv:y6<kv:=by omega
     have hyI:(y6:Int)<(kv:Int):=by omega
     have Db:Hid (PD w wb q a bs c #[.int .i64 n,.slice (some ⟨g,0,none⟩) zl cg,.slice (some ⟨go,0,none⟩) ko co,.slice (some ⟨gv,0,none⟩) kv cv,.int .i64 fi] kp (.slice ra nr rc) (.slice (some ⟨gl,0,none⟩) m cl) R L):=D1.out.read hr hg;clear hr hg hy0 hy1 hrb
     (try go_wp2_with fail)
     refine hK.out _ _ ?_ (fun hHeld=> ?_)
     ·exact Db.out.keepV HV.out HLV.out HFV.out
     clear hK K
     (try simp only[Act.put,List.setIfInBounds_toArray,List.set_cons_zero,List.set_cons_succ])
     refine tkH 8 hHeld ?_;refine tkH 9 hHeld ?_;refine tkH 10 hHeld ?_;refine wpAnyH_ready (rs:=[11,12]) (by kernel_rfl) (by simp) ?_;refine AllReadyH.cons rfl (fun K hK=> ?_) ?_
     ·skip
      obtain⟨x6,HX6⟩:=nmd (zd9 R (fv y6));have hR6:za6 wb ra R:=by
       have hpo:=Db.out.po;rw[<-HNR.out]at hpo;exact hpo.at
      go_simp;refine(zy7 ra (some ⟨gl,0,none⟩) rc m cl nr R (fv y6) x6 _ hR6 (by rw[HNR.out];omega) HNR.out HX6.out).mono ?_;rintro e wl ⟨rfl,hb⟩;have Dl:Hid (PD w wl q a bs c #[.int .i64 n,.slice (some ⟨g,0,none⟩) zl cg,.slice (some ⟨go,0,none⟩) ko co,.slice (some ⟨gv,0,none⟩) kv cv,.int .i64 fi] kp (.slice ra nr rc) (.slice (some ⟨gl,0,none⟩) m cl) R L):=Db.out.below hb;clear hb hR6
      (try go_wp2_with fail)
      refine hK.out _ _ ?_ (fun hHeld=> ?_)
      ·exact Dl.out.keepV HV.out HLV.out HFV.out
      clear hK K
      (try simp only[Act.put,List.setIfInBounds_toArray,List.set_cons_zero,List.set_cons_succ])
      refine wpAnyH_ready (rs:=[12]) (by kernel_rfl) (by simp) ?_;refine AllReadyH.cons rfl (fun K hK=> ?_) AllReadyH.nil;have Da:Hid (PD w (wl.alloc (.cells #[.int .i64 0,.slice none 0 0] 43)) q a bs c #[.int .i64 n,.slice (some ⟨g,0,none⟩) zl cg,.slice (some ⟨go,0,none⟩) ko co,.slice (some ⟨gv,0,none⟩) kv cv,.int .i64 fi] kp (.slice ra nr rc) (.slice (some ⟨gl,0,none⟩) m cl) R L):=Dl.out.below ((Below.refl _ _).alloc (Nat.le_refl _) _);have BX:Hid ((wl.alloc (.cells #[.int .i64 0,.slice none 0 0] 43)).heap[wl.heap.size]? =some (.cells #[.int .i64 0,.slice none 0 0] 43 (0,0))):=heap_alloc_new _ _;have HNX:Hid (((.slice ra nr rc):Value).ownBlock≠some wl.heap.size):=fun e=>Nat.lt_irrefl _ (Dl.out.po.r.lt _ e).2;have hkx:w.heap.size+1<wl.heap.size:=by have:=Dl.out.size;omega
      go_simp;refine hK.out _ _ ?_ (fun hHeld=> ?_)
      ·exact Da.out.keepV HV.out HLV.out HFV.out
      clear hK K;obtain⟨kx,HKX⟩:=nmd wl.heap.size;rw[HKX.out]at BX HNX hkx⊢;generalize wl.alloc (.cells #[.int .i64 0,.slice none 0 0] 43)=Wa at*;refine wpAnyH_ready (rs:=[13]) (by kernel_rfl) (by simp) ?_;refine AllReadyH.cons rfl (fun K hK=> ?_) AllReadyH.nil;obtain⟨z0,z1⟩:=za2 BX.out;have zf:=fun i=>frozen_of_row _ _ i _ _ BX.out;have Ds:Hid (PD w ((Wa.setCell ⟨kx,0,none⟩ (.int .i64 (fv y6))).setCell ⟨kx,1,none⟩ (.slice x6.a x6.ids.length x6.c)) q a bs c #[.int .i64 n,.slice (some ⟨g,0,none⟩) zl cg,.slice (some ⟨go,0,none⟩) ko co,.slice (some ⟨gv,0,none⟩) kv cv,.int .i64 fi] kp (.slice ra nr rc) (.slice (some ⟨gl,0,none⟩) m cl) R L):=Da.out.setX BX.out hkx HNX.out;have BS:Hid (((Wa.setCell ⟨kx,0,none⟩ (.int .i64 (fv y6))).setCell ⟨kx,1,none⟩ (.slice x6.a x6.ids.length x6.c)).heap[kx]? =some (.cells #[.int .i64 (fv y6),.slice x6.a x6.ids.length x6.c] 43 (0,0))):=zy4 (xs:=(_,_)) BX.out;go_simp;refine hK.out _ _ ?_ (fun hHeld=> ?_)
      ·exact Ds.out.keepV HV.out HLV.out HFV.out
      clear hK K;refine wpAnyH_done (by kernel_rfl) ?_ _
      (try go_wp2_with fail)
      go_meet;exact⟨kx,fv y6,x6,rfl,HX6.out,hkx,Ds.out,BS.out⟩
     refine AllReadyH.cons rfl (fun K hK=> ?_) AllReadyH.nil;have Da:Hid (PD w (wb.alloc (.cells #[.int .i64 0,.slice none 0 0] 43)) q a bs c #[.int .i64 n,.slice (some ⟨g,0,none⟩) zl cg,.slice (some ⟨go,0,none⟩) ko co,.slice (some ⟨gv,0,none⟩) kv cv,.int .i64 fi] kp (.slice ra nr rc) (.slice (some ⟨gl,0,none⟩) m cl) R L):=Db.out.below ((Below.refl _ _).alloc (Nat.le_refl _) _);have BX:Hid ((wb.alloc (.cells #[.int .i64 0,.slice none 0 0] 43)).heap[wb.heap.size]? =some (.cells #[.int .i64 0,.slice none 0 0] 43 (0,0))):=heap_alloc_new _ _;have HNX:Hid (((.slice ra nr rc):Value).ownBlock≠some wb.heap.size):=fun e=>Nat.lt_irrefl _ (Db.out.po.r.lt _ e).2;have hkx:w.heap.size+1<wb.heap.size:=by have:=Db.out.size;omega
     go_simp;refine hK.out _ _ ?_ (fun hHeld=> ?_)
     ·exact Da.out.keepV HV.out HLV.out HFV.out
     clear hK K;obtain⟨kx,HKX⟩:=nmd wb.heap.size;rw[HKX.out]at BX HNX hkx⊢;generalize wb.alloc (.cells #[.int .i64 0,.slice none 0 0] 43)=Wa at*;refine wpAnyH_ready (rs:=[11]) (by kernel_rfl) (by simp) ?_;refine AllReadyH.cons rfl (fun K hK=> ?_) AllReadyH.nil;obtain⟨x6,HX6⟩:=nmd (zd9 R (fv y6));have hR6:za6 Wa ra R:=by
      have hpo:=Da.out.po;rw[<-HNR.out]at hpo;exact hpo.at
     go_simp;refine(zy7 ra (some ⟨gl,0,none⟩) rc m cl nr R (fv y6) x6 _ hR6 (by rw[HNR.out];omega) HNR.out HX6.out).mono ?_;rintro e wl ⟨rfl,hb⟩;have Dl:Hid (PD w wl q a bs c #[.int .i64 n,.slice (some ⟨g,0,none⟩) zl cg,.slice (some ⟨go,0,none⟩) ko co,.slice (some ⟨gv,0,none⟩) kv cv,.int .i64 fi] kp (.slice ra nr rc) (.slice (some ⟨gl,0,none⟩) m cl) R L):=Da.out.below hb;have BX:Hid (wl.heap[kx]? =some (.cells #[.int .i64 0,.slice none 0 0] 43 (0,0))):=za1 hb (za3 BX.out) BX.out;clear hb hR6
     (try go_wp2_with fail)
     refine hK.out _ _ ?_ (fun hHeld=> ?_)
     ·exact Dl.out.keepV HV.out HLV.out HFV.out
     clear hK K
     (try simp only[Act.put,List.setIfInBounds_toArray,List.set_cons_zero,List.set_cons_succ])
     refine wpAnyH_ready (rs:=[13]) (by kernel_rfl) (by simp) ?_;refine AllReadyH.cons rfl (fun K hK=> ?_) AllReadyH.nil;obtain⟨z0,z1⟩:=za2 BX.out;have zf:=fun i=>frozen_of_row _ _ i _ _ BX.out;have Ds:Hid (PD w ((wl.setCell ⟨kx,0,none⟩ (.int .i64 (fv y6))).setCell ⟨kx,1,none⟩ (.slice x6.a x6.ids.length x6.c)) q a bs c #[.int .i64 n,.slice (some ⟨g,0,none⟩) zl cg,.slice (some ⟨go,0,none⟩) ko co,.slice (some ⟨gv,0,none⟩) kv cv,.int .i64 fi] kp (.slice ra nr rc) (.slice (some ⟨gl,0,none⟩) m cl) R L):=Dl.out.setX BX.out hkx HNX.out;have BS:Hid (((wl.setCell ⟨kx,0,none⟩ (.int .i64 (fv y6))).setCell ⟨kx,1,none⟩ (.slice x6.a x6.ids.length x6.c)).heap[kx]? =some (.cells #[.int .i64 (fv y6),.slice x6.a x6.ids.length x6.c] 43 (0,0))):=zy4 (xs:=(_,_)) BX.out;go_simp;refine hK.out _ _ ?_ (fun hHeld=> ?_)
     ·exact Ds.out.keepV HV.out HLV.out HFV.out
     clear hK K;refine wpAnyH_done (by kernel_rfl) ?_ _
     (try go_wp2_with fail)
     go_meet;exact⟨kx,fv y6,x6,rfl,HX6.out,hkx,Ds.out,BS.out⟩
    refine AllReadyH.cons rfl (fun K hK=> ?_) AllReadyH.nil;have Da:Hid (PD w (W1.alloc (.cells #[.int .i64 0,.slice none 0 0] 43)) q a bs c #[.int .i64 n,.slice (some ⟨g,0,none⟩) zl cg,.slice (some ⟨go,0,none⟩) ko co,.slice (some ⟨gv,0,none⟩) kv cv,.int .i64 fi] kp (.slice ra nr rc) (.slice (some ⟨gl,0,none⟩) m cl) R L):=D1.out.below ((Below.refl _ _).alloc (Nat.le_refl _) _);have BX:Hid ((W1.alloc (.cells #[.int .i64 0,.slice none 0 0] 43)).heap[W1.heap.size]? =some (.cells #[.int .i64 0,.slice none 0 0] 43 (0,0))):=heap_alloc_new _ _;have HNX:Hid (((.slice ra nr rc):Value).ownBlock≠some W1.heap.size):=fun e=>Nat.lt_irrefl _ (D1.out.po.r.lt _ e).2;have hkx:w.heap.size+1<W1.heap.size:=by have:=D1.out.size;omega
    go_simp;refine hK.out _ _ ?_ (fun hHeld=> ?_)
    ·exact Da.out.keepV HV.out HLV.out HFV.out
    clear hK K;obtain⟨kx,HKX⟩:=nmd W1.heap.size;rw[HKX.out]at BX HNX hkx⊢;generalize W1.alloc (.cells #[.int .i64 0,.slice none 0 0] 43)=Wa at*;refine wpAnyH_ready (rs:=[7]) (by kernel_rfl) (by simp) ?_;refine AllReadyH.cons rfl (fun K hK=> ?_) AllReadyH.nil;obtain⟨pb,hrb⟩:=Da.out.r;go_simp;refine(zb1 q pb c kv a bs _ hrb (by omega)).mono ?_;rintro e wb ⟨y6,p6,rfl,hy0,hy1,hr,hg⟩;obtain⟨y6,rfl⟩:=Int.eq_ofNat_of_zero_le hy0;have hyv:y6<kv:=by omega
    have hyI:(y6:Int)<(kv:Int):=by omega
    have Db:Hid (PD w wb q a bs c #[.int .i64 n,.slice (some ⟨g,0,none⟩) zl cg,.slice (some ⟨go,0,none⟩) ko co,.slice (some ⟨gv,0,none⟩) kv cv,.int .i64 fi] kp (.slice ra nr rc) (.slice (some ⟨gl,0,none⟩) m cl) R L):=Da.out.read hr hg;have BX:Hid (wb.heap[kx]? =some (.cells #[.int .i64 0,.slice none 0 0] 43 (0,0))):=za5 hg BX.out (fun e=>by injection e with e;have:=Db.out.lt;omega);clear hr hg hy0 hy1 hrb
    (try go_wp2_with fail)
    refine hK.out _ _ ?_ (fun hHeld=> ?_)
    ·exact Db.out.keepV HV.out HLV.out HFV.out
    clear hK K
    (try simp only[Act.put,List.setIfInBounds_toArray,List.set_cons_zero,List.set_cons_succ])
    refine tkH 8 hHeld ?_;refine tkH 9 hHeld ?_;refine tkH 10 hHeld ?_;refine wpAnyH_ready (rs:=[11]) (by kernel_rfl) (by simp) ?_;refine AllReadyH.cons rfl (fun K hK=> ?_) AllReadyH.nil;obtain⟨x6,HX6⟩:=nmd (zd9 R (fv y6));have hR6:za6 wb ra R:=by
     have hpo:=Db.out.po;rw[<-HNR.out]at hpo;exact hpo.at
    go_simp;refine(zy7 ra (some ⟨gl,0,none⟩) rc m cl nr R (fv y6) x6 _ hR6 (by rw[HNR.out];omega) HNR.out HX6.out).mono ?_;rintro e wl ⟨rfl,hb⟩;have Dl:Hid (PD w wl q a bs c #[.int .i64 n,.slice (some ⟨g,0,none⟩) zl cg,.slice (some ⟨go,0,none⟩) ko co,.slice (some ⟨gv,0,none⟩) kv cv,.int .i64 fi] kp (.slice ra nr rc) (.slice (some ⟨gl,0,none⟩) m cl) R L):=Db.out.below hb;have BX:Hid (wl.heap[kx]? =some (.cells #[.int .i64 0,.slice none 0 0] 43 (0,0))):=za1 hb (za3 BX.out) BX.out;clear hb hR6
    (try go_wp2_with fail)
    refine hK.out _ _ ?_ (fun hHeld=> ?_)
    ·exact Dl.out.keepV HV.out HLV.out HFV.out
    clear hK K
    (try simp only[Act.put,List.setIfInBounds_toArray,List.set_cons_zero,List.set_cons_succ])
    refine wpAnyH_ready (rs:=[13]) (by kernel_rfl) (by simp) ?_;refine AllReadyH.cons rfl (fun K hK=> ?_) AllReadyH.nil;obtain⟨z0,z1⟩:=za2 BX.out;have zf:=fun i=>frozen_of_row _ _ i _ _ BX.out;have Ds:Hid (PD w ((wl.setCell ⟨kx,0,none⟩ (.int .i64 (fv y6))).setCell ⟨kx,1,none⟩ (.slice x6.a x6.ids.length x6.c)) q a bs c #[.int .i64 n,.slice (some ⟨g,0,none⟩) zl cg,.slice (some ⟨go,0,none⟩) ko co,.slice (some ⟨gv,0,none⟩) kv cv,.int .i64 fi] kp (.slice ra nr rc) (.slice (some ⟨gl,0,none⟩) m cl) R L):=Dl.out.setX BX.out hkx HNX.out;have BS:Hid (((wl.setCell ⟨kx,0,none⟩ (.int .i64 (fv y6))).setCell ⟨kx,1,none⟩ (.slice x6.a x6.ids.length x6.c)).heap[kx]? =some (.cells #[.int .i64 (fv y6),.slice x6.a x6.ids.length x6.c] 43 (0,0))):=zy4 (xs:=(_,_)) BX.out;go_simp;refine hK.out _ _ ?_ (fun hHeld=> ?_)
    ·exact Ds.out.keepV HV.out HLV.out HFV.out
    clear hK K;refine wpAnyH_done (by kernel_rfl) ?_ _
    (try go_wp2_with fail)
    go_meet;exact⟨kx,fv y6,x6,rfl,HX6.out,hkx,Ds.out,BS.out⟩
   case rest=>
    clear D5;obtain⟨kx,v6,x6,rfl,hx6,hkx,hd,hbx⟩:=hcut;have D6:Hid (PD w wc q a bs c #[.int .i64 n,.slice (some ⟨g,0,none⟩) zl cg,.slice (some ⟨go,0,none⟩) ko co,.slice (some ⟨gv,0,none⟩) kv cv,.int .i64 fi] kp (.slice ra nr rc) (.slice (some ⟨gl,0,none⟩) m cl) R L):=hd;have HXX:Hid ((x6.a=none/\x6.ids=[]/\x6.c=0)∨((∃gx,x6.a=some ⟨gx,0,none⟩)/\x6∈R)):=by
     rcases z24 R v6 with hm6|hm6
     ·rw[hx6]at hm6
      refine .inr ⟨?_,hm6⟩;rcases own_kinds (D6.out.po.s x6 hm6)with⟨_,e0⟩|⟨gx,c',e,_,_⟩
      ·exact absurd (List.length_eq_zero_iff.1 e0) (HRI.out x6 hm6).1
      ·simp only[Value.slice.injEq]at e;exact⟨gx,e.1⟩
     ·rw[hx6]at hm6
      rw[hm6];exact .inl ⟨rfl,rfl,rfl⟩
    have hx9:x6.ids.length+j<=9:=by
     rcases HXX.out with⟨_,e,_⟩|⟨_,hm6⟩
     ·rw[e];simp;omega
     ·exact(HRI.out x6 hm6).2
    have HAT:Hid (∀W,PD w W q a bs c #[.int .i64 n,.slice (some ⟨g,0,none⟩) zl cg,.slice (some ⟨go,0,none⟩) ko co,.slice (some ⟨gv,0,none⟩) kv cv,.int .i64 fi] kp (.slice ra nr rc) (.slice (some ⟨gl,0,none⟩) m cl) R L->((x6.a=none/\x6.ids=[]/\x6.c=0)∨((∃gx,x6.a=some ⟨gx,0,none⟩)/\za0 W x6.a x6.ids/\x6.ids.length<=x6.c))):=fun W hW=>HXX.out.imp (fun h=>h) (fun h=>⟨h.1,hW.po.ints x6 h.2⟩);have HXP:Hid (∀z∈x6.ids,P z):=by
     rcases HXX.out with⟨_,e,_⟩|⟨_,hm6⟩
     ·intro z hz6;rw[e]at hz6;cases hz6
     ·exact HRP.out x6 hm6
    obtain⟨xl,HXL⟩:=nmd x6.ids.length;rw[HXL.out]at hbx hx9;have BX6:Hid (wc.heap[kx]? =some (.cells #[.int .i64 v6,.slice x6.a xl x6.c] 43 (0,0))):=hbx;clear hd hbx HXX hx6;have hwr:IntKind.i64.wrap ((xl:Int)+1)=(xl:Int)+1:=by rw[IntKind.wrap_i64];omega
    go_upto_region 7 with fail;go_cut [10,11,12]from 20 to 82 (fun s10 s11 s12 wx=>∃(kn:Nat) (vn Dv:Int) (ch:Bool) (ad:Option Addr) (ca:Nat) (xs:List Int),s10=.pointer (some ⟨kn,0,none⟩)/\s11=.int .i64 Dv/\s12=.bool ch/\(ch=true->xs.length=xl+1/\∀z∈xs,z∈x6.ids∨z=id)/\PD w wx q a bs c #[.int .i64 n,.slice (some ⟨g,0,none⟩) zl cg,.slice (some ⟨go,0,none⟩) ko co,.slice (some ⟨gv,0,none⟩) kv cv,.int .i64 fi] kp (.slice ra nr rc) (.slice (some ⟨gl,0,none⟩) m cl) R L/\wx.heap[kn]? =some (.cells #[.int .i64 vn,.slice ad xs.length ca] 43 (0,0))/\wx.ownsRow (w.heap.size+2) 2 1 (.slice ad xs.length ca) xs.length (xs.map (Value.int .i64)))
    case first=>
     have kS:=(D6.out.below (Below.refl _ _).drew).keep7 (za1 (Below.refl _ _).drew (za3 BX6.out) BX6.out);refine wp_region_held_drew (S:=(fun W=>W.cell? ⟨w.heap.size,0,none⟩=some (.int .i64 n)/\W.cell? ⟨w.heap.size,1,none⟩=some (.slice (some ⟨g,0,none⟩) zl cg)/\W.cell? ⟨w.heap.size,2,none⟩=some (.slice (some ⟨go,0,none⟩) ko co)/\W.cell? ⟨w.heap.size,3,none⟩=some (.slice (some ⟨gv,0,none⟩) kv cv)/\W.cell? ⟨w.heap.size,4,none⟩=some (.int .i64 fi)/\W.cell? ⟨kx,0,none⟩=some (.int .i64 v6)/\W.cell? ⟨kx,1,none⟩=some (.slice x6.a xl x6.c))) (by kernel_rfl) ?_ (fun hHeld=> ?_)
     ·exact kS
     have D1:Hid (PD w wc.drew q a bs c #[.int .i64 n,.slice (some ⟨g,0,none⟩) zl cg,.slice (some ⟨go,0,none⟩) ko co,.slice (some ⟨gv,0,none⟩) kv cv,.int .i64 fi] kp (.slice ra nr rc) (.slice (some ⟨gl,0,none⟩) m cl) R L):=D6.out.below (Below.refl _ _).drew;have X1:Hid (wc.drew.heap[kx]? =some (.cells #[.int .i64 v6,.slice x6.a xl x6.c] 43 (0,0))):=za1 (Below.refl _ _).drew (za3 BX6.out) BX6.out;clear D6 BX6;generalize wc.drew=W1 at*;refine tkH 0 hHeld ?_;refine tkH 1 hHeld ?_;refine tkH 2 hHeld ?_;refine tkH 3 hHeld ?_;refine tkH 4 hHeld ?_;refine tkH 5 hHeld ?_;refine tkH 6 hHeld ?_;refine tkH 7 hHeld ?_;refine wpAnyH_ready (rs:=[8,14]) (by kernel_rfl) (by simp) ?_;refine AllReadyH.cons rfl (fun K hK=> ?_) ?_
     ·skip
      obtain⟨pb,hrb⟩:=D1.out.r;go_simp;refine(zb1 q pb c ((xl:Int)+1) a bs _ hrb (by omega)).mono ?_;rintro e wb ⟨y7,p7,rfl,hy0,hy1,hr,hg⟩;have HY7:Hid (0<=y7/\y7<=(xl:Int)):=⟨hy0,by omega⟩;have Db:Hid (PD w wb q a bs c #[.int .i64 n,.slice (some ⟨g,0,none⟩) zl cg,.slice (some ⟨go,0,none⟩) ko co,.slice (some ⟨gv,0,none⟩) kv cv,.int .i64 fi] kp (.slice ra nr rc) (.slice (some ⟨gl,0,none⟩) m cl) R L):=D1.out.read hr hg;have XB:Hid (wb.heap[kx]? =some (.cells #[.int .i64 v6,.slice x6.a xl x6.c] 43 (0,0))):=za5 hg X1.out (fun e=>by injection e with e;have:=Db.out.lt;omega);clear hr hg hy0 hy1 hrb
      (try go_wp2_with fail)
      refine hK.out _ _ ?_ (fun hHeld=> ?_)
      ·exact Db.out.keep7 XB.out
      clear hK K
      (try simp only[Act.put,List.setIfInBounds_toArray,List.set_cons_zero,List.set_cons_succ])
      refine wpAnyH_ready (rs:=[9,14]) (by kernel_rfl) (by simp) ?_;refine AllReadyH.cons rfl (fun K hK=> ?_) ?_
      ·skip
       have C7:=zr6 n fi v6 g zl cg go ko co gv kv cv zs O V x6 wb (Db.out.ints HZ.out.1 HZ.out.2) (Db.out.ints HO.out.1 HO.out.2) (Db.out.ints HV.out.1 HV.out.2) HLZ.out HLO.out HLV.out hk2 hv2 (HAT.out _ Db.out) (by rw[HXL.out];omega) id y7 (by rw[HXL.out];exact HY7.out);rw[HXL.out]at C7;go_simp;refine C7.mono ?_;rintro e wi ⟨ch,Dv,xs,⟨hb,ad,ca,rfl,ho⟩,hlen⟩;have HLN:Hid (ch=true->xs.length=xl+1/\∀z∈xs,z∈x6.ids∨z=id):=hlen;have Di:Hid (PD w wi q a bs c #[.int .i64 n,.slice (some ⟨g,0,none⟩) zl cg,.slice (some ⟨go,0,none⟩) ko co,.slice (some ⟨gv,0,none⟩) kv cv,.int .i64 fi] kp (.slice ra nr rc) (.slice (some ⟨gl,0,none⟩) m cl) R L):=Db.out.below hb;have XI:Hid (wi.heap[kx]? =some (.cells #[.int .i64 v6,.slice x6.a xl x6.c] 43 (0,0))):=za1 hb (za3 XB.out) XB.out;have OI:Hid (World.ownsRow wi (w.heap.size+2) 2 1 (.slice ad xs.length ca) xs.length (xs.map (Value.int .i64))):=zb7 ho (by have:=Db.out.size;omega);clear hb ho hlen C7
       (try go_wp2_with fail)
       refine hK.out _ _ ?_ (fun hHeld=> ?_)
       ·exact Di.out.keep7 XI.out
       clear hK K
       (try simp only[Act.put,List.setIfInBounds_toArray,List.set_cons_zero,List.set_cons_succ])
       refine tkH 10 hHeld ?_;refine tkH 11 hHeld ?_;refine tkH 12 hHeld ?_;refine tkH 13 hHeld ?_;refine wpAnyH_ready (rs:=[14]) (by kernel_rfl) (by simp) ?_;refine AllReadyH.cons rfl (fun K hK=> ?_) AllReadyH.nil;have Da:Hid (PD w (wi.alloc (.cells #[.int .i64 0,.slice none 0 0] 43)) q a bs c #[.int .i64 n,.slice (some ⟨g,0,none⟩) zl cg,.slice (some ⟨go,0,none⟩) ko co,.slice (some ⟨gv,0,none⟩) kv cv,.int .i64 fi] kp (.slice ra nr rc) (.slice (some ⟨gl,0,none⟩) m cl) R L):=Di.out.below ((Below.refl _ _).alloc (Nat.le_refl _) _);have XA:Hid ((wi.alloc (.cells #[.int .i64 0,.slice none 0 0] 43)).heap[kx]? =some (.cells #[.int .i64 v6,.slice x6.a xl x6.c] 43 (0,0))):=za1 ((Below.refl _ _).alloc (Nat.le_refl _) _) (za3 XI.out) XI.out;have BN:Hid ((wi.alloc (.cells #[.int .i64 0,.slice none 0 0] 43)).heap[wi.heap.size]? =some (.cells #[.int .i64 0,.slice none 0 0] 43 (0,0))):=heap_alloc_new _ _;have HNN:Hid (((.slice ra nr rc):Value).ownBlock≠some wi.heap.size):=fun e=>Nat.lt_irrefl _ (Di.out.po.r.lt _ e).2;have HXN:Hid (kx<wi.heap.size):=za3 XI.out;have hkn:w.heap.size+1<wi.heap.size:=by have:=Di.out.size;omega
       have OI:Hid (World.ownsRow (wi.alloc (.cells #[.int .i64 0,.slice none 0 0] 43)) (w.heap.size+2) 2 1 (.slice ad xs.length ca) xs.length (xs.map (Value.int .i64))):=OI.out.alloc _;go_simp;refine hK.out _ _ ?_ (fun hHeld=> ?_)
       ·exact Da.out.keep7 XA.out
       clear hK K;obtain⟨kn,HKN⟩:=nmd wi.heap.size;rw[HKN.out]at BN HNN HXN hkn⊢;generalize wi.alloc (.cells #[.int .i64 0,.slice none 0 0] 43)=Wa at*;refine wpAnyH_ready (rs:=[15]) (by kernel_rfl) (by simp) ?_;refine AllReadyH.cons rfl (fun K hK=> ?_) AllReadyH.nil;obtain⟨z0,z1⟩:=za2 BN.out;have zf:=fun i=>frozen_of_row _ _ i _ _ BN.out;have Ds:Hid (PD w ((Wa.setCell ⟨kn,0,none⟩ (.int .i64 (chI ch v6))).setCell ⟨kn,1,none⟩ (.slice ad xs.length ca)) q a bs c #[.int .i64 n,.slice (some ⟨g,0,none⟩) zl cg,.slice (some ⟨go,0,none⟩) ko co,.slice (some ⟨gv,0,none⟩) kv cv,.int .i64 fi] kp (.slice ra nr rc) (.slice (some ⟨gl,0,none⟩) m cl) R L):=Da.out.setX BN.out hkn HNN.out;have BS:Hid (((Wa.setCell ⟨kn,0,none⟩ (.int .i64 (chI ch v6))).setCell ⟨kn,1,none⟩ (.slice ad xs.length ca)).heap[kn]? =some (.cells #[.int .i64 (chI ch v6),.slice ad xs.length ca] 43 (0,0))):=zy4 (xs:=(_,_)) BN.out;have hs7:Wa.grownBy ((Wa.setCell ⟨kn,0,none⟩ (.int .i64 (chI ch v6))).setCell ⟨kn,1,none⟩ (.slice ad xs.length ca)) (some kn):=zb0 (za9 _ _ _ _) (za9 _ _ _ _);have XS:Hid (((Wa.setCell ⟨kn,0,none⟩ (.int .i64 (chI ch v6))).setCell ⟨kn,1,none⟩ (.slice ad xs.length ca)).heap[kx]? =some (.cells #[.int .i64 v6,.slice x6.a xl x6.c] 43 (0,0))):=za5 hs7 XA.out (fun e=>by injection e with e;have:=HXN.out;omega);have OS:Hid (World.ownsRow ((Wa.setCell ⟨kn,0,none⟩ (.int .i64 (chI ch v6))).setCell ⟨kn,1,none⟩ (.slice ad xs.length ca)) (w.heap.size+2) 2 1 (.slice ad xs.length ca) xs.length (xs.map (Value.int .i64))):=zh9 OI.out hs7 (zf3 OI.out BN.out (by decide));clear hs7;go_simp;refine hK.out _ _ ?_ (fun hHeld=> ?_)
       ·exact Ds.out.keep7 XS.out
       clear hK K;generalize((Wa.setCell ⟨kn,0,none⟩ (.int .i64 (chI ch v6))).setCell ⟨kn,1,none⟩ (.slice ad xs.length ca))=Ws at*;refine wpAnyH_ready (rs:=[16]) (by kernel_rfl) (by simp) ?_;refine AllReadyH.cons rfl (fun K hK=> ?_) AllReadyH.nil;go_simp;refine hK.out _ _ ?_ (fun hHeld=> ?_)
       ·exact Ds.out.keep7 XS.out
       clear hK K;refine wpAnyH_ready (rs:=[17]) (by kernel_rfl) (by simp) ?_;refine AllReadyH.cons rfl (fun K hK=> ?_) AllReadyH.nil;go_simp;refine hK.out _ _ ?_ (fun hHeld=> ?_)
       ·exact Ds.out.keep7 XS.out
       clear hK K;refine wpAnyH_done (by kernel_rfl) ?_ _
       (try go_wp2_with fail)
       go_meet;exact⟨kn,_,Dv,ch,ad,ca,xs,rfl,rfl,rfl,HLN.out,Ds.out,BS.out,OS.out⟩
      refine AllReadyH.cons rfl (fun K hK=> ?_) AllReadyH.nil;have Da:Hid (PD w (wb.alloc (.cells #[.int .i64 0,.slice none 0 0] 43)) q a bs c #[.int .i64 n,.slice (some ⟨g,0,none⟩) zl cg,.slice (some ⟨go,0,none⟩) ko co,.slice (some ⟨gv,0,none⟩) kv cv,.int .i64 fi] kp (.slice ra nr rc) (.slice (some ⟨gl,0,none⟩) m cl) R L):=Db.out.below ((Below.refl _ _).alloc (Nat.le_refl _) _);have XA:Hid ((wb.alloc (.cells #[.int .i64 0,.slice none 0 0] 43)).heap[kx]? =some (.cells #[.int .i64 v6,.slice x6.a xl x6.c] 43 (0,0))):=za1 ((Below.refl _ _).alloc (Nat.le_refl _) _) (za3 XB.out) XB.out;have BN:Hid ((wb.alloc (.cells #[.int .i64 0,.slice none 0 0] 43)).heap[wb.heap.size]? =some (.cells #[.int .i64 0,.slice none 0 0] 43 (0,0))):=heap_alloc_new _ _;have HNN:Hid (((.slice ra nr rc):Value).ownBlock≠some wb.heap.size):=fun e=>Nat.lt_irrefl _ (Db.out.po.r.lt _ e).2;have HXN:Hid (kx<wb.heap.size):=za3 XB.out;have hkn:w.heap.size+1<wb.heap.size:=by have:=Db.out.size;omega
      go_simp;refine hK.out _ _ ?_ (fun hHeld=> ?_)
      ·exact Da.out.keep7 XA.out
      clear hK K;obtain⟨kn,HKN⟩:=nmd wb.heap.size;rw[HKN.out]at BN HNN HXN hkn⊢;generalize wb.alloc (.cells #[.int .i64 0,.slice none 0 0] 43)=Wa at*;refine wpAnyH_ready (rs:=[9]) (by kernel_rfl) (by simp) ?_;refine AllReadyH.cons rfl (fun K hK=> ?_) AllReadyH.nil;have C7:=zr6 n fi v6 g zl cg go ko co gv kv cv zs O V x6 Wa (Da.out.ints HZ.out.1 HZ.out.2) (Da.out.ints HO.out.1 HO.out.2) (Da.out.ints HV.out.1 HV.out.2) HLZ.out HLO.out HLV.out hk2 hv2 (HAT.out _ Da.out) (by rw[HXL.out];omega) id y7 (by rw[HXL.out];exact HY7.out);rw[HXL.out]at C7;go_simp;refine C7.mono ?_;rintro e wi ⟨ch,Dv,xs,⟨hb,ad,ca,rfl,ho⟩,hlen⟩;have HLN:Hid (ch=true->xs.length=xl+1/\∀z∈xs,z∈x6.ids∨z=id):=hlen;have Di:Hid (PD w wi q a bs c #[.int .i64 n,.slice (some ⟨g,0,none⟩) zl cg,.slice (some ⟨go,0,none⟩) ko co,.slice (some ⟨gv,0,none⟩) kv cv,.int .i64 fi] kp (.slice ra nr rc) (.slice (some ⟨gl,0,none⟩) m cl) R L):=Da.out.below hb;have XI:Hid (wi.heap[kx]? =some (.cells #[.int .i64 v6,.slice x6.a xl x6.c] 43 (0,0))):=za1 hb (za3 XA.out) XA.out;have BN:Hid (wi.heap[kn]? =some (.cells #[.int .i64 0,.slice none 0 0] 43 (0,0))):=za1 hb (za3 BN.out) BN.out;have OI:Hid (World.ownsRow wi (w.heap.size+2) 2 1 (.slice ad xs.length ca) xs.length (xs.map (Value.int .i64))):=zb7 ho (by have:=Da.out.size;omega);clear hb ho hlen C7
      (try go_wp2_with fail)
      refine hK.out _ _ ?_ (fun hHeld=> ?_)
      ·exact Di.out.keep7 XI.out
      clear hK K
      (try simp only[Act.put,List.setIfInBounds_toArray,List.set_cons_zero,List.set_cons_succ])
      refine tkH 10 hHeld ?_;refine tkH 11 hHeld ?_;refine tkH 12 hHeld ?_;refine tkH 13 hHeld ?_;refine wpAnyH_ready (rs:=[15]) (by kernel_rfl) (by simp) ?_;refine AllReadyH.cons rfl (fun K hK=> ?_) AllReadyH.nil;obtain⟨z0,z1⟩:=za2 BN.out;have zf:=fun i=>frozen_of_row _ _ i _ _ BN.out;have Ds:Hid (PD w ((wi.setCell ⟨kn,0,none⟩ (.int .i64 (chI ch v6))).setCell ⟨kn,1,none⟩ (.slice ad xs.length ca)) q a bs c #[.int .i64 n,.slice (some ⟨g,0,none⟩) zl cg,.slice (some ⟨go,0,none⟩) ko co,.slice (some ⟨gv,0,none⟩) kv cv,.int .i64 fi] kp (.slice ra nr rc) (.slice (some ⟨gl,0,none⟩) m cl) R L):=Di.out.setX BN.out hkn HNN.out;have BS:Hid (((wi.setCell ⟨kn,0,none⟩ (.int .i64 (chI ch v6))).setCell ⟨kn,1,none⟩ (.slice ad xs.length ca)).heap[kn]? =some (.cells #[.int .i64 (chI ch v6),.slice ad xs.length ca] 43 (0,0))):=zy4 (xs:=(_,_)) BN.out;have hs7:wi.grownBy ((wi.setCell ⟨kn,0,none⟩ (.int .i64 (chI ch v6))).setCell ⟨kn,1,none⟩ (.slice ad xs.length ca)) (some kn):=zb0 (za9 _ _ _ _) (za9 _ _ _ _);have XS:Hid (((wi.setCell ⟨kn,0,none⟩ (.int .i64 (chI ch v6))).setCell ⟨kn,1,none⟩ (.slice ad xs.length ca)).heap[kx]? =some (.cells #[.int .i64 v6,.slice x6.a xl x6.c] 43 (0,0))):=za5 hs7 XI.out (fun e=>by injection e with e;have:=HXN.out;omega);have OS:Hid (World.ownsRow ((wi.setCell ⟨kn,0,none⟩ (.int .i64 (chI ch v6))).setCell ⟨kn,1,none⟩ (.slice ad xs.length ca)) (w.heap.size+2) 2 1 (.slice ad xs.length ca) xs.length (xs.map (Value.int .i64))):=zh9 OI.out hs7 (zf3 OI.out BN.out (by decide));clear hs7;go_simp;refine hK.out _ _ ?_ (fun hHeld=> ?_)
      ·exact Ds.out.keep7 XS.out
      clear hK K;generalize((wi.setCell ⟨kn,0,none⟩ (.int .i64 (chI ch v6))).setCell ⟨kn,1,none⟩ (.slice ad xs.length ca))=Ws at*;refine wpAnyH_ready (rs:=[16]) (by kernel_rfl) (by simp) ?_;refine AllReadyH.cons rfl (fun K hK=> ?_) AllReadyH.nil;go_simp;refine hK.out _ _ ?_ (fun hHeld=> ?_)
      ·exact Ds.out.keep7 XS.out
      clear hK K;refine wpAnyH_ready (rs:=[17]) (by kernel_rfl) (by simp) ?_;refine AllReadyH.cons rfl (fun K hK=> ?_) AllReadyH.nil;go_simp;refine hK.out _ _ ?_ (fun hHeld=> ?_)
      ·exact Ds.out.keep7 XS.out
      clear hK K;refine wpAnyH_done (by kernel_rfl) ?_ _
      (try go_wp2_with fail)
      go_meet;exact⟨kn,_,Dv,ch,ad,ca,xs,rfl,rfl,rfl,HLN.out,Ds.out,BS.out,OS.out⟩
     refine AllReadyH.cons rfl (fun K hK=> ?_) AllReadyH.nil;have Da:Hid (PD w (W1.alloc (.cells #[.int .i64 0,.slice none 0 0] 43)) q a bs c #[.int .i64 n,.slice (some ⟨g,0,none⟩) zl cg,.slice (some ⟨go,0,none⟩) ko co,.slice (some ⟨gv,0,none⟩) kv cv,.int .i64 fi] kp (.slice ra nr rc) (.slice (some ⟨gl,0,none⟩) m cl) R L):=D1.out.below ((Below.refl _ _).alloc (Nat.le_refl _) _);have XA:Hid ((W1.alloc (.cells #[.int .i64 0,.slice none 0 0] 43)).heap[kx]? =some (.cells #[.int .i64 v6,.slice x6.a xl x6.c] 43 (0,0))):=za1 ((Below.refl _ _).alloc (Nat.le_refl _) _) (za3 X1.out) X1.out;have BN:Hid ((W1.alloc (.cells #[.int .i64 0,.slice none 0 0] 43)).heap[W1.heap.size]? =some (.cells #[.int .i64 0,.slice none 0 0] 43 (0,0))):=heap_alloc_new _ _;have HNN:Hid (((.slice ra nr rc):Value).ownBlock≠some W1.heap.size):=fun e=>Nat.lt_irrefl _ (D1.out.po.r.lt _ e).2;have HXN:Hid (kx<W1.heap.size):=za3 X1.out;have hkn:w.heap.size+1<W1.heap.size:=by have:=D1.out.size;omega
     go_simp;refine hK.out _ _ ?_ (fun hHeld=> ?_)
     ·exact Da.out.keep7 XA.out
     clear hK K;obtain⟨kn,HKN⟩:=nmd W1.heap.size;rw[HKN.out]at BN HNN HXN hkn⊢;generalize W1.alloc (.cells #[.int .i64 0,.slice none 0 0] 43)=Wa at*;refine wpAnyH_ready (rs:=[8]) (by kernel_rfl) (by simp) ?_;refine AllReadyH.cons rfl (fun K hK=> ?_) AllReadyH.nil;obtain⟨pb,hrb⟩:=Da.out.r;go_simp;refine(zb1 q pb c ((xl:Int)+1) a bs _ hrb (by omega)).mono ?_;rintro e wb ⟨y7,p7,rfl,hy0,hy1,hr,hg⟩;have HY7:Hid (0<=y7/\y7<=(xl:Int)):=⟨hy0,by omega⟩;have Db:Hid (PD w wb q a bs c #[.int .i64 n,.slice (some ⟨g,0,none⟩) zl cg,.slice (some ⟨go,0,none⟩) ko co,.slice (some ⟨gv,0,none⟩) kv cv,.int .i64 fi] kp (.slice ra nr rc) (.slice (some ⟨gl,0,none⟩) m cl) R L):=Da.out.read hr hg;have XB:Hid (wb.heap[kx]? =some (.cells #[.int .i64 v6,.slice x6.a xl x6.c] 43 (0,0))):=za5 hg XA.out (fun e=>by injection e with e;have:=Db.out.lt;omega);have BN:Hid (wb.heap[kn]? =some (.cells #[.int .i64 0,.slice none 0 0] 43 (0,0))):=za5 hg BN.out (fun e=>by injection e with e;have:=Db.out.lt;omega);clear hr hg hy0 hy1 hrb
     (try go_wp2_with fail)
     refine hK.out _ _ ?_ (fun hHeld=> ?_)
     ·exact Db.out.keep7 XB.out
     clear hK K
     (try simp only[Act.put,List.setIfInBounds_toArray,List.set_cons_zero,List.set_cons_succ])
     refine wpAnyH_ready (rs:=[9]) (by kernel_rfl) (by simp) ?_;refine AllReadyH.cons rfl (fun K hK=> ?_) AllReadyH.nil;have C7:=zr6 n fi v6 g zl cg go ko co gv kv cv zs O V x6 wb (Db.out.ints HZ.out.1 HZ.out.2) (Db.out.ints HO.out.1 HO.out.2) (Db.out.ints HV.out.1 HV.out.2) HLZ.out HLO.out HLV.out hk2 hv2 (HAT.out _ Db.out) (by rw[HXL.out];omega) id y7 (by rw[HXL.out];exact HY7.out);rw[HXL.out]at C7;go_simp;refine C7.mono ?_;rintro e wi ⟨ch,Dv,xs,⟨hb,ad,ca,rfl,ho⟩,hlen⟩;have HLN:Hid (ch=true->xs.length=xl+1/\∀z∈xs,z∈x6.ids∨z=id):=hlen;have Di:Hid (PD w wi q a bs c #[.int .i64 n,.slice (some ⟨g,0,none⟩) zl cg,.slice (some ⟨go,0,none⟩) ko co,.slice (some ⟨gv,0,none⟩) kv cv,.int .i64 fi] kp (.slice ra nr rc) (.slice (some ⟨gl,0,none⟩) m cl) R L):=Db.out.below hb;have XI:Hid (wi.heap[kx]? =some (.cells #[.int .i64 v6,.slice x6.a xl x6.c] 43 (0,0))):=za1 hb (za3 XB.out) XB.out;have BN:Hid (wi.heap[kn]? =some (.cells #[.int .i64 0,.slice none 0 0] 43 (0,0))):=za1 hb (za3 BN.out) BN.out;have OI:Hid (World.ownsRow wi (w.heap.size+2) 2 1 (.slice ad xs.length ca) xs.length (xs.map (Value.int .i64))):=zb7 ho (by have:=Db.out.size;omega);clear hb ho hlen C7
     (try go_wp2_with fail)
     refine hK.out _ _ ?_ (fun hHeld=> ?_)
     ·exact Di.out.keep7 XI.out
     clear hK K
     (try simp only[Act.put,List.setIfInBounds_toArray,List.set_cons_zero,List.set_cons_succ])
     refine tkH 10 hHeld ?_;refine tkH 11 hHeld ?_;refine tkH 12 hHeld ?_;refine tkH 13 hHeld ?_;refine wpAnyH_ready (rs:=[15]) (by kernel_rfl) (by simp) ?_;refine AllReadyH.cons rfl (fun K hK=> ?_) AllReadyH.nil;obtain⟨z0,z1⟩:=za2 BN.out;have zf:=fun i=>frozen_of_row _ _ i _ _ BN.out;have Ds:Hid (PD w ((wi.setCell ⟨kn,0,none⟩ (.int .i64 (chI ch v6))).setCell ⟨kn,1,none⟩ (.slice ad xs.length ca)) q a bs c #[.int .i64 n,.slice (some ⟨g,0,none⟩) zl cg,.slice (some ⟨go,0,none⟩) ko co,.slice (some ⟨gv,0,none⟩) kv cv,.int .i64 fi] kp (.slice ra nr rc) (.slice (some ⟨gl,0,none⟩) m cl) R L):=Di.out.setX BN.out hkn HNN.out;have BS:Hid (((wi.setCell ⟨kn,0,none⟩ (.int .i64 (chI ch v6))).setCell ⟨kn,1,none⟩ (.slice ad xs.length ca)).heap[kn]? =some (.cells #[.int .i64 (chI ch v6),.slice ad xs.length ca] 43 (0,0))):=zy4 (xs:=(_,_)) BN.out;have hs7:wi.grownBy ((wi.setCell ⟨kn,0,none⟩ (.int .i64 (chI ch v6))).setCell ⟨kn,1,none⟩ (.slice ad xs.length ca)) (some kn):=zb0 (za9 _ _ _ _) (za9 _ _ _ _);have XS:Hid (((wi.setCell ⟨kn,0,none⟩ (.int .i64 (chI ch v6))).setCell ⟨kn,1,none⟩ (.slice ad xs.length ca)).heap[kx]? =some (.cells #[.int .i64 v6,.slice x6.a xl x6.c] 43 (0,0))):=za5 hs7 XI.out (fun e=>by injection e with e;have:=HXN.out;omega);have OS:Hid (World.ownsRow ((wi.setCell ⟨kn,0,none⟩ (.int .i64 (chI ch v6))).setCell ⟨kn,1,none⟩ (.slice ad xs.length ca)) (w.heap.size+2) 2 1 (.slice ad xs.length ca) xs.length (xs.map (Value.int .i64))):=zh9 OI.out hs7 (zf3 OI.out BN.out (by decide));clear hs7;go_simp;refine hK.out _ _ ?_ (fun hHeld=> ?_)
     ·exact Ds.out.keep7 XS.out
     clear hK K;generalize((wi.setCell ⟨kn,0,none⟩ (.int .i64 (chI ch v6))).setCell ⟨kn,1,none⟩ (.slice ad xs.length ca))=Ws at*;refine wpAnyH_ready (rs:=[16]) (by kernel_rfl) (by simp) ?_;refine AllReadyH.cons rfl (fun K hK=> ?_) AllReadyH.nil;go_simp;refine hK.out _ _ ?_ (fun hHeld=> ?_)
     ·exact Ds.out.keep7 XS.out
     clear hK K;refine wpAnyH_ready (rs:=[17]) (by kernel_rfl) (by simp) ?_;refine AllReadyH.cons rfl (fun K hK=> ?_) AllReadyH.nil;go_simp;refine hK.out _ _ ?_ (fun hHeld=> ?_)
     ·exact Ds.out.keep7 XS.out
     clear hK K;refine wpAnyH_done (by kernel_rfl) ?_ _
     (try go_wp2_with fail)
     go_meet;exact⟨kn,_,Dv,ch,ad,ca,xs,rfl,rfl,rfl,HLN.out,Ds.out,BS.out,OS.out⟩
    case rest=>
     clear D6 BX6;obtain⟨kn,vn,Dv,ch,ad,ca,xs,rfl,rfl,rfl,hlen,hd,hbn,hown⟩:=hcut;have D7:Hid (PD w wc q a bs c #[.int .i64 n,.slice (some ⟨g,0,none⟩) zl cg,.slice (some ⟨go,0,none⟩) ko co,.slice (some ⟨gv,0,none⟩) kv cv,.int .i64 fi] kp (.slice ra nr rc) (.slice (some ⟨gl,0,none⟩) m cl) R L):=hd;have B7:Hid (wc.heap[kn]? =some (.cells #[.int .i64 vn,.slice ad xs.length ca] 43 (0,0))):=hbn;have O7:Hid (wc.ownsRow (w.heap.size+2) 2 1 (.slice ad xs.length ca) xs.length (xs.map (Value.int .i64))):=hown;clear hd hbn hown;cases ch
     ·clear hlen
      go_wp2;go_roundw
      case rel=>exact⟨j - 1,_,_,R,L,by rw[HNR.out];omega,(fun r hr=>⟨(HRI.out r hr).1,by have:=(HRI.out r hr).2;omega⟩),by rw[HM.out];exact hL12,HLW.out,by first|rfl|go_num,HDJ.out,(fun _=>⟨_,_,_,rfl⟩),HRP.out,D7.out⟩
      case measure=>simp[intOf];omega
     ·have hxn:xs.length=xl+1:=(hlen rfl).1
      have HXZ:Hid (∀z∈xs,P z):=fun z hz6=>((hlen rfl).2 z hz6).elim (HXP.out z) (fun h=>by rw[h];exact HPI.out)
      clear hlen;obtain⟨gn,e⟩:∃gn,ad=some ⟨gn,0,none⟩:=by
       rcases own_kinds O7.out with⟨_,e0⟩|⟨gn,c',e,_,_⟩
       ·omega
       ·simp only[Value.slice.injEq]at e;exact⟨gn,e.1⟩
      subst e;have IX:Hid (za0 wc (some ⟨gn,0,none⟩) xs):=zd2 O7.out;obtain⟨xn,HXN⟩:=nmd xs.length;rw[HXN.out]at hxn B7;have HXE:Hid (xs≠[]/\xs.length=xn):=⟨fun e=>by have:=HXN.out;rw[e]at this;simp at this;omega,HXN.out⟩;have hR8:za6 wc ra R:=by
       have hpo:=D7.out.po;rw[<-HNR.out]at hpo;exact hpo.at
      have hL8:za0 wc (some ⟨gl,0,none⟩) L:=zd2 (by have:=D7.out.po.l;rw[HM.out]at this;exact this);have C8:=z74 ra gl 0 rc cl gn 0 ca R L vn xs wc hR8 hL8 IX.out (by rw[HNR.out];omega) (fun r hr=>⟨(HRI.out r hr).1,by have:=(HRI.out r hr).2;omega⟩) (by rw[HM.out];omega) ⟨HXE.out.1,by rw[HXN.out];omega⟩;rw[HNR.out,HM.out,HXN.out]at C8;have HX1:Hid (xn=xl+1):=hxn;clear hR8 hL8 IX O7 hxn hwr;obtain⟨p0,p1⟩:=za2 D7.out.bp;obtain⟨n0,n1⟩:=za2 B7.out
      go_wp2_with(first
       |(go_at_call 69
         go_must(refine C8.mono ?_)
         go_must(rintro e w8 ⟨ra8,rc8,gl8,lc8,S8,rfl,hb8,hk8,ho8⟩)
         have HSB:Hid (S8.length<=R.length+1/\∀s∈S8,s.ids≠[]/\s.ids.length+(j - 1)<=9):=zU2 hk8 HRI.out ⟨HXE.out.1,by have:=HXE.out.2;have:=HX1.out;simp only;omega⟩;have HSP:Hid (∀s∈S8,∀z∈s.ids,P z):=yp9 hk8 HRP.out HXZ.out;obtain⟨n8,HN8⟩:=nmd S8.length;have DB:=D7.out.below hb8;have D8:Hid (PD w ((w8.setCell ⟨kp,0,none⟩ (.slice ra8 n8 rc8)).setCell ⟨kp,1,none⟩ (.slice (some ⟨gl8,0,none⟩) m lc8)) q a bs c #[.int .i64 n,.slice (some ⟨g,0,none⟩) zl cg,.slice (some ⟨go,0,none⟩) ko co,.slice (some ⟨gv,0,none⟩) kv cv,.int .i64 fi] kp (.slice ra8 n8 rc8) (.slice (some ⟨gl8,0,none⟩) m lc8) S8 L):=DB.set2 (by
          have:=ho8.base (b0:=w.heap.size+2) (by have:=D7.out.size;omega);rw[HM.out,HN8.out]at this;exact this)
         rw[HN8.out,HM.out];obtain⟨e0,e1⟩:=za2 DB.bp;have ef:=fun i=>frozen_of_row _ _ i _ _ DB.bp;have I8:Hid (za0 ((w8.setCell ⟨kp,0,none⟩ (.slice ra8 n8 rc8)).setCell ⟨kp,1,none⟩ (.slice (some ⟨gl8,0,none⟩) m lc8)) (some ⟨gl8,0,none⟩) L):=zd2 (by have:=D8.out.po.l;rw[HM.out]at this;exact this);clear hb8 hk8 ho8 DB)
       |(go_at_call 70
         go_must(refine(z43 (some ⟨gl8,0,none⟩) lc8 m L id _ I8.out HM.out (by omega)).mono ?_)
         go_must(rintro e w9 ⟨g9,c9,rfl,hb9,ho9⟩)
         have DC:=D8.out.below hb9;have D9:Hid (PD w (w9.setCell ⟨kp,1,none⟩ (.slice (some ⟨g9,0,none⟩) (zh7 L id).length c9)) q a bs c #[.int .i64 n,.slice (some ⟨g,0,none⟩) zl cg,.slice (some ⟨go,0,none⟩) ko co,.slice (some ⟨gv,0,none⟩) kv cv,.int .i64 fi] kp (.slice ra8 n8 rc8) (.slice (some ⟨g9,0,none⟩) (zh7 L id).length c9) S8 (zh7 L id)):=DC.setL (zb7 ho9 (by have:=D8.out.size;omega));have J9:Hid (DJ S8 (.slice (some ⟨g9,0,none⟩) (zh7 L id).length c9)):=DJ.new D8.out (fun k e=>(ho9.lt k e).1);obtain⟨f0,f1⟩:=za2 DC.bp;have ff:=fun i=>frozen_of_row _ _ i _ _ DC.bp;clear hb9 ho9 DC))
      go_roundw
      case rel=>exact⟨j - 1,_,_,S8,zh7 L id,by have:=HSB.out.1;rw[HNR.out]at this;omega,HSB.out.2,Nat.le_trans (z00 _ _) (by rw[HM.out];exact hL12),(fun x hx=>HLW.out x (yi7 hx)),by first|rfl|go_num,J9.out,(fun _=>⟨_,_,_,rfl⟩),HSP.out,D9.out⟩
      case measure=>simp[intOf];omega
  ·obtain⟨p4,hr4⟩:=D4.out.r
   have R4:Hid (RD wr q a bs c p4):=hr4;clear hr4;go_upto_region 3 with fail;go_cut [36]from 20 to 35 (fun s36 wx=>s36=.bool false/\wr=wx)
   case first=>
    by_cases hj0:0<j
    ·have hjI:(0:Int)<(j:Int):=by omega
     cases cb
     ·clear hcond
      go_wp2_with fail
      go_meet;exact⟨rfl,rfl⟩
     ·have hm0:m=0:=by
       by_cases h0:0<m
       ·exact absurd ⟨hj0,rfl,h0⟩ hcond
       ·omega
      have hmz:¬((0:Int)<(m:Int)):=by omega
      clear hm0 hcond
      go_wp2_with fail
      go_meet;exact⟨rfl,rfl⟩
    ·have hj00:j=0:=by omega
     subst hj00;clear hcond hj0
     go_wp2_with fail
     go_meet;exact⟨rfl,rfl⟩
   case rest=>
    obtain⟨rfl,rfl⟩:=hcut;clear hcond
    go_wp2_with fail
    refine(zb1 q p4 c 30 a bs _ R4.out (by omega)).mono ?_;rintro e w6 ⟨y6,p6,rfl,hy0,hy1,hr,hg⟩;obtain⟨y6,rfl⟩:=Int.eq_ofNat_of_zero_le hy0;have D6:Hid (PD w w6 q a bs c #[.int .i64 n,.slice (some ⟨g,0,none⟩) zl cg,.slice (some ⟨go,0,none⟩) ko co,.slice (some ⟨gv,0,none⟩) kv cv,.int .i64 fi] kp (.slice ra nr rc) (.slice la2 m cl) R L):=D4.out.read hr hg;clear hr hg D4 R4 hy0 hy1 p0 p1 c0 c1 c2 c3 c4;by_cases h29:y6=29
    ·subst h29
     go_wp2_with fail
     refine wp_region_held_drew (S:=(fun _=>True)) (by kernel_rfl) ?_ (fun hHeld=> ?_)
     ·exact trivial
     have D1:Hid (PD w w6.drew q a bs c #[.int .i64 n,.slice (some ⟨g,0,none⟩) zl cg,.slice (some ⟨go,0,none⟩) ko co,.slice (some ⟨gv,0,none⟩) kv cv,.int .i64 fi] kp (.slice ra nr rc) (.slice la2 m cl) R L):=D6.out.below (Below.refl _ _).drew;clear D6;generalize w6.drew=W1 at*;refine tkH 0 hHeld ?_;refine tkH 2 hHeld ?_;refine wpAnyH_ready (rs:=[1,3]) (by kernel_rfl) (by simp) ?_;refine AllReadyH.cons rfl (fun K hK=> ?_) ?_
     ·skip
      obtain⟨t0,t1⟩:=za2 D1.out.bp;go_simp;refine hK.out _ _ ?_ (fun hHeld=> ?_)
      ·trivial
      clear hK K;refine wpAnyH_ready (rs:=[3]) (by kernel_rfl) (by simp) ?_;refine AllReadyH.cons rfl (fun K hK=> ?_) AllReadyH.nil;obtain⟨pb,hrb⟩:=D1.out.r;go_simp;refine(zm8 q pb c 1 6 a bs _ hrb (by omega) (by omega) (by omega) (by omega)).mono ?_;rintro e wo ⟨f7,p7,rfl,hf0,hf1,hr,hg⟩;have Do:Hid (PD w wo q a bs c #[.int .i64 n,.slice (some ⟨g,0,none⟩) zl cg,.slice (some ⟨go,0,none⟩) ko co,.slice (some ⟨gv,0,none⟩) kv cv,.int .i64 fi] kp (.slice ra nr rc) (.slice la2 m cl) R L):=D1.out.read hr hg;have HF7:Hid (-9223372036854775808<=f7/\f7<9223372036854775808):=⟨hf0,hf1⟩;clear hr hg hf0 hf1 hrb
      (try go_wp2_with fail)
      refine hK.out _ _ ?_ (fun hHeld=> ?_)
      ·trivial
      clear hK K
      (try simp only[Act.put,List.setIfInBounds_toArray,List.set_cons_zero,List.set_cons_succ])
      refine wpAnyH_ready (rs:=[4]) (by kernel_rfl) (by simp) ?_;refine AllReadyH.cons rfl (fun K hK=> ?_) AllReadyH.nil;have Da:Hid (PD w (wo.alloc (.cells #[.int .i64 f7] 2)) q a bs c #[.int .i64 n,.slice (some ⟨g,0,none⟩) zl cg,.slice (some ⟨go,0,none⟩) ko co,.slice (some ⟨gv,0,none⟩) kv cv,.int .i64 fi] kp (.slice ra nr rc) (.slice la2 m cl) R L):=Do.out.below ((Below.refl _ _).alloc (Nat.le_refl _) _);have I7:Hid (za0 (wo.alloc (.cells #[.int .i64 f7] 2)) (some ⟨wo.heap.size,0,none⟩) [f7]):=zk2 wo f7;go_simp;refine hK.out _ _ ?_ (fun hHeld=> ?_)
      ·trivial
      clear hK K;obtain⟨ka,HKA⟩:=nmd wo.heap.size;rw[HKA.out]at I7⊢;generalize wo.alloc (.cells #[.int .i64 f7] 2)=Wa at*;refine wpAnyH_ready (rs:=[5]) (by kernel_rfl) (by simp) ?_;refine AllReadyH.cons rfl (fun K hK=> ?_) AllReadyH.nil;refine zd3 rfl (.tmp 88) (.tmp 91) rfl (w.heap.size+2) (.slice la2 m cl) L m rfl (by have:=Da.out.po.l;rw[HM.out]at this;exact this) ka 0 1 1 [f7] rfl rfl I7.out (by omega) (by omega) (by have:=Da.out.size;omega) ?_;intro v' wp ho hg hn9;rcases own_kinds ho with⟨_,e0⟩|⟨g9,c9,e9,-,-⟩
      ·omega
      subst e9;have Dp:Hid (PD w (wp.setCell ⟨kp,1,none⟩ (.slice (some ⟨g9,0,none⟩) (m+1) c9)) q a bs c #[.int .i64 n,.slice (some ⟨g,0,none⟩) zl cg,.slice (some ⟨go,0,none⟩) ko co,.slice (some ⟨gv,0,none⟩) kv cv,.int .i64 fi] kp (.slice ra nr rc) (.slice (some ⟨g9,0,none⟩) (m+1) c9) R (L++[f7])):=Da.out.addL HDJ.out hg (by rw[List.length_append,HM.out];exact ho);have hbp:=za5 hg Da.out.bp (fun e=>(Da.out.rowL' _ e.symm).2 rfl);obtain⟨x4,y4⟩:=za2 hbp;have xf:=fun i=>frozen_of_row _ _ i _ _ hbp;clear ho hg hn9 hbp;refine hK.out _ _ ?_ (fun hHeld=> ?_)
      ·trivial
      clear hK K;change wpAnyH _ _ _ _ _ _ _ (Act.put _ (some 92) _) _;simp only[Act.put,List.setIfInBounds_toArray,List.set_cons_zero,List.set_cons_succ];refine tkH 6 hHeld ?_;refine wpAnyH_ready (rs:=[7]) (by kernel_rfl) (by simp) ?_;refine AllReadyH.cons rfl (fun K hK=> ?_) AllReadyH.nil;go_simp;refine hK.out _ _ ?_ (fun hHeld=> ?_)
      ·trivial
      clear hK K;clear x4 y4 xf;generalize wp.setCell ⟨kp,1,none⟩ (.slice (some ⟨g9,0,none⟩) (m+1) c9)=Wz at*;refine wpAnyH_done (by kernel_rfl) ?_ _;obtain⟨t0,t1⟩:=za2 Dp.out.bp;obtain⟨b0,b1⟩:=za2 Dp.out.b0;have bf:=fun i=>frozen_of_row _ _ i _ _ Dp.out.b0;go_wp2;exact Dp.out.done (by rw[HNR.out];omega) (fun r hr=>by have:=(HRI.out r hr).2;omega) (by rw[List.length_append,HM.out];simp;omega) (fun x hx=>(List.mem_append.1 hx).elim (HLW.out x) (fun h=>by rw[show x=f7 by simpa using h];exact HF7.out)) HRP.out (fun _=>⟨_,_,_,rfl⟩) _ (by rfl) (by rfl)
     refine AllReadyH.cons rfl (fun K hK=> ?_) AllReadyH.nil;obtain⟨pb,hrb⟩:=D1.out.r;go_simp;refine(zm8 q pb c 1 6 a bs _ hrb (by omega) (by omega) (by omega) (by omega)).mono ?_;rintro e wo ⟨f7,p7,rfl,hf0,hf1,hr,hg⟩;have Do:Hid (PD w wo q a bs c #[.int .i64 n,.slice (some ⟨g,0,none⟩) zl cg,.slice (some ⟨go,0,none⟩) ko co,.slice (some ⟨gv,0,none⟩) kv cv,.int .i64 fi] kp (.slice ra nr rc) (.slice la2 m cl) R L):=D1.out.read hr hg;have HF7:Hid (-9223372036854775808<=f7/\f7<9223372036854775808):=⟨hf0,hf1⟩;clear hr hg hf0 hf1 hrb
     (try go_wp2_with fail)
     refine hK.out _ _ ?_ (fun hHeld=> ?_)
     ·trivial
     clear hK K
     (try simp only[Act.put,List.setIfInBounds_toArray,List.set_cons_zero,List.set_cons_succ])
     refine wpAnyH_ready (rs:=[1,4]) (by kernel_rfl) (by simp) ?_;refine AllReadyH.cons rfl (fun K hK=> ?_) ?_
     ·skip
      obtain⟨t0,t1⟩:=za2 Do.out.bp;go_simp;refine hK.out _ _ ?_ (fun hHeld=> ?_)
      ·trivial
      clear hK K;refine wpAnyH_ready (rs:=[4]) (by kernel_rfl) (by simp) ?_;refine AllReadyH.cons rfl (fun K hK=> ?_) AllReadyH.nil;have Da:Hid (PD w (wo.alloc (.cells #[.int .i64 f7] 2)) q a bs c #[.int .i64 n,.slice (some ⟨g,0,none⟩) zl cg,.slice (some ⟨go,0,none⟩) ko co,.slice (some ⟨gv,0,none⟩) kv cv,.int .i64 fi] kp (.slice ra nr rc) (.slice la2 m cl) R L):=Do.out.below ((Below.refl _ _).alloc (Nat.le_refl _) _);have I7:Hid (za0 (wo.alloc (.cells #[.int .i64 f7] 2)) (some ⟨wo.heap.size,0,none⟩) [f7]):=zk2 wo f7;go_simp;refine hK.out _ _ ?_ (fun hHeld=> ?_)
      ·trivial
      clear hK K;obtain⟨ka,HKA⟩:=nmd wo.heap.size;rw[HKA.out]at I7⊢;generalize wo.alloc (.cells #[.int .i64 f7] 2)=Wa at*;refine wpAnyH_ready (rs:=[5]) (by kernel_rfl) (by simp) ?_;refine AllReadyH.cons rfl (fun K hK=> ?_) AllReadyH.nil;refine zd3 rfl (.tmp 88) (.tmp 91) rfl (w.heap.size+2) (.slice la2 m cl) L m rfl (by have:=Da.out.po.l;rw[HM.out]at this;exact this) ka 0 1 1 [f7] rfl rfl I7.out (by omega) (by omega) (by have:=Da.out.size;omega) ?_;intro v' wp ho hg hn9;rcases own_kinds ho with⟨_,e0⟩|⟨g9,c9,e9,-,-⟩
      ·omega
      subst e9;have Dp:Hid (PD w (wp.setCell ⟨kp,1,none⟩ (.slice (some ⟨g9,0,none⟩) (m+1) c9)) q a bs c #[.int .i64 n,.slice (some ⟨g,0,none⟩) zl cg,.slice (some ⟨go,0,none⟩) ko co,.slice (some ⟨gv,0,none⟩) kv cv,.int .i64 fi] kp (.slice ra nr rc) (.slice (some ⟨g9,0,none⟩) (m+1) c9) R (L++[f7])):=Da.out.addL HDJ.out hg (by rw[List.length_append,HM.out];exact ho);have hbp:=za5 hg Da.out.bp (fun e=>(Da.out.rowL' _ e.symm).2 rfl);obtain⟨x4,y4⟩:=za2 hbp;have xf:=fun i=>frozen_of_row _ _ i _ _ hbp;clear ho hg hn9 hbp;refine hK.out _ _ ?_ (fun hHeld=> ?_)
      ·trivial
      clear hK K;change wpAnyH _ _ _ _ _ _ _ (Act.put _ (some 92) _) _;simp only[Act.put,List.setIfInBounds_toArray,List.set_cons_zero,List.set_cons_succ];refine tkH 6 hHeld ?_;refine wpAnyH_ready (rs:=[7]) (by kernel_rfl) (by simp) ?_;refine AllReadyH.cons rfl (fun K hK=> ?_) AllReadyH.nil;go_simp;refine hK.out _ _ ?_ (fun hHeld=> ?_)
      ·trivial
      clear hK K;clear x4 y4 xf;generalize wp.setCell ⟨kp,1,none⟩ (.slice (some ⟨g9,0,none⟩) (m+1) c9)=Wz at*;refine wpAnyH_done (by kernel_rfl) ?_ _;obtain⟨t0,t1⟩:=za2 Dp.out.bp;obtain⟨b0,b1⟩:=za2 Dp.out.b0;have bf:=fun i=>frozen_of_row _ _ i _ _ Dp.out.b0;go_wp2;exact Dp.out.done (by rw[HNR.out];omega) (fun r hr=>by have:=(HRI.out r hr).2;omega) (by rw[List.length_append,HM.out];simp;omega) (fun x hx=>(List.mem_append.1 hx).elim (HLW.out x) (fun h=>by rw[show x=f7 by simpa using h];exact HF7.out)) HRP.out (fun _=>⟨_,_,_,rfl⟩) _ (by rfl) (by rfl)
     refine AllReadyH.cons rfl (fun K hK=> ?_) AllReadyH.nil;have Da:Hid (PD w (wo.alloc (.cells #[.int .i64 f7] 2)) q a bs c #[.int .i64 n,.slice (some ⟨g,0,none⟩) zl cg,.slice (some ⟨go,0,none⟩) ko co,.slice (some ⟨gv,0,none⟩) kv cv,.int .i64 fi] kp (.slice ra nr rc) (.slice la2 m cl) R L):=Do.out.below ((Below.refl _ _).alloc (Nat.le_refl _) _);have I7:Hid (za0 (wo.alloc (.cells #[.int .i64 f7] 2)) (some ⟨wo.heap.size,0,none⟩) [f7]):=zk2 wo f7;go_simp;refine hK.out _ _ ?_ (fun hHeld=> ?_)
     ·trivial
     clear hK K;obtain⟨ka,HKA⟩:=nmd wo.heap.size;rw[HKA.out]at I7⊢;generalize wo.alloc (.cells #[.int .i64 f7] 2)=Wa at*;refine wpAnyH_ready (rs:=[1]) (by kernel_rfl) (by simp) ?_;refine AllReadyH.cons rfl (fun K hK=> ?_) AllReadyH.nil;obtain⟨t0,t1⟩:=za2 Da.out.bp;go_simp;refine hK.out _ _ ?_ (fun hHeld=> ?_)
     ·trivial
     clear hK K;refine wpAnyH_ready (rs:=[5]) (by kernel_rfl) (by simp) ?_;refine AllReadyH.cons rfl (fun K hK=> ?_) AllReadyH.nil;refine zd3 rfl (.tmp 88) (.tmp 91) rfl (w.heap.size+2) (.slice la2 m cl) L m rfl (by have:=Da.out.po.l;rw[HM.out]at this;exact this) ka 0 1 1 [f7] rfl rfl I7.out (by omega) (by omega) (by have:=Da.out.size;omega) ?_;intro v' wp ho hg hn9;rcases own_kinds ho with⟨_,e0⟩|⟨g9,c9,e9,-,-⟩
     ·omega
     subst e9;have Dp:Hid (PD w (wp.setCell ⟨kp,1,none⟩ (.slice (some ⟨g9,0,none⟩) (m+1) c9)) q a bs c #[.int .i64 n,.slice (some ⟨g,0,none⟩) zl cg,.slice (some ⟨go,0,none⟩) ko co,.slice (some ⟨gv,0,none⟩) kv cv,.int .i64 fi] kp (.slice ra nr rc) (.slice (some ⟨g9,0,none⟩) (m+1) c9) R (L++[f7])):=Da.out.addL HDJ.out hg (by rw[List.length_append,HM.out];exact ho);have hbp:=za5 hg Da.out.bp (fun e=>(Da.out.rowL' _ e.symm).2 rfl);obtain⟨x4,y4⟩:=za2 hbp;have xf:=fun i=>frozen_of_row _ _ i _ _ hbp;clear ho hg hn9 hbp;refine hK.out _ _ ?_ (fun hHeld=> ?_)
     ·trivial
     clear hK K;change wpAnyH _ _ _ _ _ _ _ (Act.put _ (some 92) _) _;simp only[Act.put,List.setIfInBounds_toArray,List.set_cons_zero,List.set_cons_succ];refine tkH 6 hHeld ?_;refine wpAnyH_ready (rs:=[7]) (by kernel_rfl) (by simp) ?_;refine AllReadyH.cons rfl (fun K hK=> ?_) AllReadyH.nil;go_simp;refine hK.out _ _ ?_ (fun hHeld=> ?_)
     ·trivial
     clear hK K;clear x4 y4 xf;generalize wp.setCell ⟨kp,1,none⟩ (.slice (some ⟨g9,0,none⟩) (m+1) c9)=Wz at*;refine wpAnyH_done (by kernel_rfl) ?_ _;obtain⟨t0,t1⟩:=za2 Dp.out.bp;obtain⟨b0,b1⟩:=za2 Dp.out.b0;have bf:=fun i=>frozen_of_row _ _ i _ _ Dp.out.b0;go_wp2;exact Dp.out.done (by rw[HNR.out];omega) (fun r hr=>by have:=(HRI.out r hr).2;omega) (by rw[List.length_append,HM.out];simp;omega) (fun x hx=>(List.mem_append.1 hx).elim (HLW.out x) (fun h=>by rw[show x=f7 by simpa using h];exact HF7.out)) HRP.out (fun _=>⟨_,_,_,rfl⟩) _ (by rfl) (by rfl)
    ·by_cases h28:y6=28
     ·subst h28
      clear h29;have kS:=zb6 (D6.out.below (Below.refl _ _).drew).bc
      go_wp2_with fail
      refine wp_region_held_drew (S:=(fun W=>W.cell? ⟨w.heap.size,0,none⟩=some (.int .i64 n)/\W.cell? ⟨w.heap.size,1,none⟩=some (.slice (some ⟨g,0,none⟩) zl cg)/\W.cell? ⟨w.heap.size,2,none⟩=some (.slice (some ⟨go,0,none⟩) ko co)/\W.cell? ⟨w.heap.size,3,none⟩=some (.slice (some ⟨gv,0,none⟩) kv cv)/\W.cell? ⟨w.heap.size,4,none⟩=some (.int .i64 fi))) (by kernel_rfl) ?_ (fun hHeld=> ?_)
      ·exact kS
      have D1:Hid (PD w w6.drew q a bs c #[.int .i64 n,.slice (some ⟨g,0,none⟩) zl cg,.slice (some ⟨go,0,none⟩) ko co,.slice (some ⟨gv,0,none⟩) kv cv,.int .i64 fi] kp (.slice ra nr rc) (.slice la2 m cl) R L):=D6.out.below (Below.refl _ _).drew;clear D6;generalize w6.drew=W1 at*;refine tkH 0 hHeld ?_;refine tkH 2 hHeld ?_;refine tkH 3 hHeld ?_;refine wpAnyH_ready (rs:=[1,4]) (by kernel_rfl) (by simp) ?_;refine AllReadyH.cons rfl (fun K hK=> ?_) ?_
      ·skip
       obtain⟨t0,t1⟩:=za2 D1.out.bp;go_simp;refine hK.out _ _ ?_ (fun hHeld=> ?_)
       ·exact zb6 D1.out.bc
       clear hK K;refine wpAnyH_ready (rs:=[4]) (by kernel_rfl) (by simp) ?_;refine AllReadyH.cons rfl (fun K hK=> ?_) AllReadyH.nil;obtain⟨pb,hrb⟩:=D1.out.r;go_simp;refine(zB5 P q pb c n fi g zl cg go ko co gv kv cv O V a bs _ hrb (D1.out.ints HO.out.1 HO.out.2) (D1.out.ints HV.out.1 HV.out.2) HO.out.2 HV.out.2 HLO.out HLV.out hk1 hk2 hv1 hv2 HPO.out HPN.out).mono ?_;rintro e wo ⟨veh,sl,Lr,rfl,hl4,hg,⟨p7,hr⟩,ho,hpr⟩;have HPR:Hid (∀x∈Lr,P x):=hpr;clear hpr;obtain⟨ax,cx,e⟩:=zi5 ho;subst e;have Do:Hid (PD w wo q a bs c #[.int .i64 n,.slice (some ⟨g,0,none⟩) zl cg,.slice (some ⟨go,0,none⟩) ko co,.slice (some ⟨gv,0,none⟩) kv cv,.int .i64 fi] kp (.slice ra nr rc) (.slice la2 m cl) R L):=D1.out.read hr hg;have OX:Hid (wo.ownsRow (w.heap.size+2) 2 1 (.slice ax Lr.length cx) Lr.length (Lr.map (Value.int .i64))):=zb7 ho (by have:=D1.out.size;omega);obtain⟨lr,HLR⟩:=nmd Lr.length;rw[HLR.out]at hl4 OX⊢;clear hr hg ho hrb
       (try go_wp2_with fail)
       refine hK.out _ _ ?_ (fun hHeld=> ?_)
       ·exact zb6 Do.out.bc
       clear hK K
       (try simp only[Act.put,List.setIfInBounds_toArray,List.set_cons_zero,List.set_cons_succ])
       refine wpAnyH_ready (rs:=[5]) (by kernel_rfl) (by simp) ?_;refine AllReadyH.cons rfl (fun K hK=> ?_) AllReadyH.nil;have Da:Hid (PD w (wo.alloc (.cells #[.int .i64 veh,.slice ax lr cx] 43)) q a bs c #[.int .i64 n,.slice (some ⟨g,0,none⟩) zl cg,.slice (some ⟨go,0,none⟩) ko co,.slice (some ⟨gv,0,none⟩) kv cv,.int .i64 fi] kp (.slice ra nr rc) (.slice la2 m cl) R L):=Do.out.below ((Below.refl _ _).alloc (Nat.le_refl _) _);have OA:Hid (World.ownsRow (wo.alloc (.cells #[.int .i64 veh,.slice ax lr cx] 43)) (w.heap.size+2) 2 1 (.slice ax lr cx) lr (Lr.map (Value.int .i64))):=OX.out.alloc _;have I7:Hid (∀j u,[Value.int .i64 veh,.slice ax lr cx][j]? =some u->World.cell? (wo.alloc (.cells #[.int .i64 veh,.slice ax lr cx] 43)) ⟨wo.heap.size,0+j,none⟩=some u):=zd8 _ _ _ _ _ rfl;go_simp;refine hK.out _ _ ?_ (fun hHeld=> ?_)
       ·exact zb6 Da.out.bc
       clear hK K;obtain⟨ka,HKA⟩:=nmd wo.heap.size;rw[HKA.out]at I7⊢;generalize wo.alloc (.cells #[.int .i64 veh,.slice ax lr cx] 43)=Wa at*;refine wpAnyH_ready (rs:=[6]) (by kernel_rfl) (by simp) ?_;refine AllReadyH.cons rfl (fun K hK=> ?_) AllReadyH.nil;refine zc9 Tryz.underlying31 zk4 (by rfl) (by omega) rfl (.tmp 97) (.tmp 101) rfl (w.heap.size+2) (.slice ra nr rc) nr (zg9 R) rfl (by have:=Da.out.po.r;rw[HNR.out]at this;exact this) ka 0 1 1 [.int .i64 veh,.slice ax lr cx] rfl rfl I7.out (by simp[Value.oneCell']) (by omega) (by omega) (by have:=Da.out.size;omega) ?_;intro v' wp ho hg hbk hn9;rcases own_kinds ho with⟨_,e0⟩|⟨g9,c9,e9,-,-⟩
       ·omega
       subst e9;have Dp:Hid (PD w (wp.setCell ⟨kp,0,none⟩ (.slice (some ⟨g9,0,none⟩) (nr+1) c9)) q a bs c #[.int .i64 n,.slice (some ⟨g,0,none⟩) zl cg,.slice (some ⟨go,0,none⟩) ko co,.slice (some ⟨gv,0,none⟩) kv cv,.int .i64 fi] kp (.slice (some ⟨g9,0,none⟩) (nr+1) c9) (.slice la2 m cl) (R++[⟨veh,ax,Lr,cx⟩]) L):=Da.out.addR (r:=⟨veh,ax,Lr,cx⟩) (by have:=OA.out;rw[<-HLR.out]at this;exact this) hg (by rw[HNR.out];show World.ownsRow _ _ _ _ _ _ (_++[_,Value.slice _ Lr.length _]);rw[HLR.out];exact ho);have hbp:=za5 hg Da.out.bp (fun e=>(Da.out.rowR' _ e.symm).2 rfl);obtain⟨x4,y4⟩:=za2 hbp;have xf:=fun i=>frozen_of_row _ _ i _ _ hbp;have bc4:=za5 hg Da.out.bc (fun e=>by have:=(Da.out.rowR' _ e.symm).1;omega);clear ho hg hbk hn9 hbp;refine hK.out _ _ ?_ (fun hHeld=> ?_)
       ·exact zb6 bc4
       clear hK K;change wpAnyH _ _ _ _ _ _ _ (Act.put _ (some 102) _) _;simp only[Act.put,List.setIfInBounds_toArray,List.set_cons_zero,List.set_cons_succ];refine tkH 7 hHeld ?_;refine wpAnyH_ready (rs:=[8]) (by kernel_rfl) (by simp) ?_;refine AllReadyH.cons rfl (fun K hK=> ?_) AllReadyH.nil;go_simp;refine hK.out _ _ ?_ (fun hHeld=> ?_)
       ·exact zb6 Dp.out.bc
       clear hK K;clear x4 y4 xf;generalize wp.setCell ⟨kp,0,none⟩ (.slice (some ⟨g9,0,none⟩) (nr+1) c9)=Wz at*;refine wpAnyH_done (by kernel_rfl) ?_ _;obtain⟨t0,t1⟩:=za2 Dp.out.bp;obtain⟨b0,b1⟩:=za2 Dp.out.b0;have bf:=fun i=>frozen_of_row _ _ i _ _ Dp.out.b0;go_wp2;exact Dp.out.done (by rw[List.length_append,HNR.out];simp;omega) (fun r hr=>(List.mem_append.1 hr).elim (fun h=>by have:=(HRI.out r h).2;omega) (fun h=>by rw[show r=⟨veh,ax,Lr,cx⟩ by simpa using h];show Lr.length<=9;rw[HLR.out];omega)) (by rw[HM.out];omega) HLW.out (fun r hr=>(List.mem_append.1 hr).elim (HRP.out r) (fun h=>by rw[show r=⟨veh,ax,Lr,cx⟩ by simpa using h];exact HPR.out)) (by have:=HLN2.out;rw[HM.out]at this;exact this) _ (by rfl) (by rfl)
      refine AllReadyH.cons rfl (fun K hK=> ?_) AllReadyH.nil;obtain⟨pb,hrb⟩:=D1.out.r;go_simp;refine(zB5 P q pb c n fi g zl cg go ko co gv kv cv O V a bs _ hrb (D1.out.ints HO.out.1 HO.out.2) (D1.out.ints HV.out.1 HV.out.2) HO.out.2 HV.out.2 HLO.out HLV.out hk1 hk2 hv1 hv2 HPO.out HPN.out).mono ?_;rintro e wo ⟨veh,sl,Lr,rfl,hl4,hg,⟨p7,hr⟩,ho,hpr⟩;have HPR:Hid (∀x∈Lr,P x):=hpr;clear hpr;obtain⟨ax,cx,e⟩:=zi5 ho;subst e;have Do:Hid (PD w wo q a bs c #[.int .i64 n,.slice (some ⟨g,0,none⟩) zl cg,.slice (some ⟨go,0,none⟩) ko co,.slice (some ⟨gv,0,none⟩) kv cv,.int .i64 fi] kp (.slice ra nr rc) (.slice la2 m cl) R L):=D1.out.read hr hg;have OX:Hid (wo.ownsRow (w.heap.size+2) 2 1 (.slice ax Lr.length cx) Lr.length (Lr.map (Value.int .i64))):=zb7 ho (by have:=D1.out.size;omega);obtain⟨lr,HLR⟩:=nmd Lr.length;rw[HLR.out]at hl4 OX⊢;clear hr hg ho hrb
      (try go_wp2_with fail)
      refine hK.out _ _ ?_ (fun hHeld=> ?_)
      ·exact zb6 Do.out.bc
      clear hK K
      (try simp only[Act.put,List.setIfInBounds_toArray,List.set_cons_zero,List.set_cons_succ])
      refine wpAnyH_ready (rs:=[1,5]) (by kernel_rfl) (by simp) ?_;refine AllReadyH.cons rfl (fun K hK=> ?_) ?_
      ·skip
       obtain⟨t0,t1⟩:=za2 Do.out.bp;go_simp;refine hK.out _ _ ?_ (fun hHeld=> ?_)
       ·exact zb6 Do.out.bc
       clear hK K;refine wpAnyH_ready (rs:=[5]) (by kernel_rfl) (by simp) ?_;refine AllReadyH.cons rfl (fun K hK=> ?_) AllReadyH.nil;have Da:Hid (PD w (wo.alloc (.cells #[.int .i64 veh,.slice ax lr cx] 43)) q a bs c #[.int .i64 n,.slice (some ⟨g,0,none⟩) zl cg,.slice (some ⟨go,0,none⟩) ko co,.slice (some ⟨gv,0,none⟩) kv cv,.int .i64 fi] kp (.slice ra nr rc) (.slice la2 m cl) R L):=Do.out.below ((Below.refl _ _).alloc (Nat.le_refl _) _);have OA:Hid (World.ownsRow (wo.alloc (.cells #[.int .i64 veh,.slice ax lr cx] 43)) (w.heap.size+2) 2 1 (.slice ax lr cx) lr (Lr.map (Value.int .i64))):=OX.out.alloc _;have I7:Hid (∀j u,[Value.int .i64 veh,.slice ax lr cx][j]? =some u->World.cell? (wo.alloc (.cells #[.int .i64 veh,.slice ax lr cx] 43)) ⟨wo.heap.size,0+j,none⟩=some u):=zd8 _ _ _ _ _ rfl;go_simp;refine hK.out _ _ ?_ (fun hHeld=> ?_)
       ·exact zb6 Da.out.bc
       clear hK K;obtain⟨ka,HKA⟩:=nmd wo.heap.size;rw[HKA.out]at I7⊢;generalize wo.alloc (.cells #[.int .i64 veh,.slice ax lr cx] 43)=Wa at*;refine wpAnyH_ready (rs:=[6]) (by kernel_rfl) (by simp) ?_;refine AllReadyH.cons rfl (fun K hK=> ?_) AllReadyH.nil;refine zc9 Tryz.underlying31 zk4 (by rfl) (by omega) rfl (.tmp 97) (.tmp 101) rfl (w.heap.size+2) (.slice ra nr rc) nr (zg9 R) rfl (by have:=Da.out.po.r;rw[HNR.out]at this;exact this) ka 0 1 1 [.int .i64 veh,.slice ax lr cx] rfl rfl I7.out (by simp[Value.oneCell']) (by omega) (by omega) (by have:=Da.out.size;omega) ?_;intro v' wp ho hg hbk hn9;rcases own_kinds ho with⟨_,e0⟩|⟨g9,c9,e9,-,-⟩
       ·omega
       subst e9;have Dp:Hid (PD w (wp.setCell ⟨kp,0,none⟩ (.slice (some ⟨g9,0,none⟩) (nr+1) c9)) q a bs c #[.int .i64 n,.slice (some ⟨g,0,none⟩) zl cg,.slice (some ⟨go,0,none⟩) ko co,.slice (some ⟨gv,0,none⟩) kv cv,.int .i64 fi] kp (.slice (some ⟨g9,0,none⟩) (nr+1) c9) (.slice la2 m cl) (R++[⟨veh,ax,Lr,cx⟩]) L):=Da.out.addR (r:=⟨veh,ax,Lr,cx⟩) (by have:=OA.out;rw[<-HLR.out]at this;exact this) hg (by rw[HNR.out];show World.ownsRow _ _ _ _ _ _ (_++[_,Value.slice _ Lr.length _]);rw[HLR.out];exact ho);have hbp:=za5 hg Da.out.bp (fun e=>(Da.out.rowR' _ e.symm).2 rfl);obtain⟨x4,y4⟩:=za2 hbp;have xf:=fun i=>frozen_of_row _ _ i _ _ hbp;have bc4:=za5 hg Da.out.bc (fun e=>by have:=(Da.out.rowR' _ e.symm).1;omega);clear ho hg hbk hn9 hbp;refine hK.out _ _ ?_ (fun hHeld=> ?_)
       ·exact zb6 bc4
       clear hK K;change wpAnyH _ _ _ _ _ _ _ (Act.put _ (some 102) _) _;simp only[Act.put,List.setIfInBounds_toArray,List.set_cons_zero,List.set_cons_succ];refine tkH 7 hHeld ?_;refine wpAnyH_ready (rs:=[8]) (by kernel_rfl) (by simp) ?_;refine AllReadyH.cons rfl (fun K hK=> ?_) AllReadyH.nil;go_simp;refine hK.out _ _ ?_ (fun hHeld=> ?_)
       ·exact zb6 Dp.out.bc
       clear hK K;clear x4 y4 xf;generalize wp.setCell ⟨kp,0,none⟩ (.slice (some ⟨g9,0,none⟩) (nr+1) c9)=Wz at*;refine wpAnyH_done (by kernel_rfl) ?_ _;obtain⟨t0,t1⟩:=za2 Dp.out.bp;obtain⟨b0,b1⟩:=za2 Dp.out.b0;have bf:=fun i=>frozen_of_row _ _ i _ _ Dp.out.b0;go_wp2;exact Dp.out.done (by rw[List.length_append,HNR.out];simp;omega) (fun r hr=>(List.mem_append.1 hr).elim (fun h=>by have:=(HRI.out r h).2;omega) (fun h=>by rw[show r=⟨veh,ax,Lr,cx⟩ by simpa using h];show Lr.length<=9;rw[HLR.out];omega)) (by rw[HM.out];omega) HLW.out (fun r hr=>(List.mem_append.1 hr).elim (HRP.out r) (fun h=>by rw[show r=⟨veh,ax,Lr,cx⟩ by simpa using h];exact HPR.out)) (by have:=HLN2.out;rw[HM.out]at this;exact this) _ (by rfl) (by rfl)
      refine AllReadyH.cons rfl (fun K hK=> ?_) AllReadyH.nil;have Da:Hid (PD w (wo.alloc (.cells #[.int .i64 veh,.slice ax lr cx] 43)) q a bs c #[.int .i64 n,.slice (some ⟨g,0,none⟩) zl cg,.slice (some ⟨go,0,none⟩) ko co,.slice (some ⟨gv,0,none⟩) kv cv,.int .i64 fi] kp (.slice ra nr rc) (.slice la2 m cl) R L):=Do.out.below ((Below.refl _ _).alloc (Nat.le_refl _) _);have OA:Hid (World.ownsRow (wo.alloc (.cells #[.int .i64 veh,.slice ax lr cx] 43)) (w.heap.size+2) 2 1 (.slice ax lr cx) lr (Lr.map (Value.int .i64))):=OX.out.alloc _;have I7:Hid (∀j u,[Value.int .i64 veh,.slice ax lr cx][j]? =some u->World.cell? (wo.alloc (.cells #[.int .i64 veh,.slice ax lr cx] 43)) ⟨wo.heap.size,0+j,none⟩=some u):=zd8 _ _ _ _ _ rfl;go_simp;refine hK.out _ _ ?_ (fun hHeld=> ?_)
      ·exact zb6 Da.out.bc
      clear hK K;obtain⟨ka,HKA⟩:=nmd wo.heap.size;rw[HKA.out]at I7⊢;generalize wo.alloc (.cells #[.int .i64 veh,.slice ax lr cx] 43)=Wa at*;refine wpAnyH_ready (rs:=[1]) (by kernel_rfl) (by simp) ?_;refine AllReadyH.cons rfl (fun K hK=> ?_) AllReadyH.nil;obtain⟨t0,t1⟩:=za2 Da.out.bp;go_simp;refine hK.out _ _ ?_ (fun hHeld=> ?_)
      ·exact zb6 Da.out.bc
      clear hK K;refine wpAnyH_ready (rs:=[6]) (by kernel_rfl) (by simp) ?_;refine AllReadyH.cons rfl (fun K hK=> ?_) AllReadyH.nil;refine zc9 Tryz.underlying31 zk4 (by rfl) (by omega) rfl (.tmp 97) (.tmp 101) rfl (w.heap.size+2) (.slice ra nr rc) nr (zg9 R) rfl (by have:=Da.out.po.r;rw[HNR.out]at this;exact this) ka 0 1 1 [.int .i64 veh,.slice ax lr cx] rfl rfl I7.out (by simp[Value.oneCell']) (by omega) (by omega) (by have:=Da.out.size;omega) ?_;intro v' wp ho hg hbk hn9;rcases own_kinds ho with⟨_,e0⟩|⟨g9,c9,e9,-,-⟩
      ·omega
      subst e9;have Dp:Hid (PD w (wp.setCell ⟨kp,0,none⟩ (.slice (some ⟨g9,0,none⟩) (nr+1) c9)) q a bs c #[.int .i64 n,.slice (some ⟨g,0,none⟩) zl cg,.slice (some ⟨go,0,none⟩) ko co,.slice (some ⟨gv,0,none⟩) kv cv,.int .i64 fi] kp (.slice (some ⟨g9,0,none⟩) (nr+1) c9) (.slice la2 m cl) (R++[⟨veh,ax,Lr,cx⟩]) L):=Da.out.addR (r:=⟨veh,ax,Lr,cx⟩) (by have:=OA.out;rw[<-HLR.out]at this;exact this) hg (by rw[HNR.out];show World.ownsRow _ _ _ _ _ _ (_++[_,Value.slice _ Lr.length _]);rw[HLR.out];exact ho);have hbp:=za5 hg Da.out.bp (fun e=>(Da.out.rowR' _ e.symm).2 rfl);obtain⟨x4,y4⟩:=za2 hbp;have xf:=fun i=>frozen_of_row _ _ i _ _ hbp;have bc4:=za5 hg Da.out.bc (fun e=>by have:=(Da.out.rowR' _ e.symm).1;omega);clear ho hg hbk hn9 hbp;refine hK.out _ _ ?_ (fun hHeld=> ?_)
      ·exact zb6 bc4
      clear hK K;change wpAnyH _ _ _ _ _ _ _ (Act.put _ (some 102) _) _;simp only[Act.put,List.setIfInBounds_toArray,List.set_cons_zero,List.set_cons_succ];refine tkH 7 hHeld ?_;refine wpAnyH_ready (rs:=[8]) (by kernel_rfl) (by simp) ?_;refine AllReadyH.cons rfl (fun K hK=> ?_) AllReadyH.nil;go_simp;refine hK.out _ _ ?_ (fun hHeld=> ?_)
      ·exact zb6 Dp.out.bc
      clear hK K;clear x4 y4 xf;generalize wp.setCell ⟨kp,0,none⟩ (.slice (some ⟨g9,0,none⟩) (nr+1) c9)=Wz at*;refine wpAnyH_done (by kernel_rfl) ?_ _;obtain⟨t0,t1⟩:=za2 Dp.out.bp;obtain⟨b0,b1⟩:=za2 Dp.out.b0;have bf:=fun i=>frozen_of_row _ _ i _ _ Dp.out.b0;go_wp2;exact Dp.out.done (by rw[List.length_append,HNR.out];simp;omega) (fun r hr=>(List.mem_append.1 hr).elim (fun h=>by have:=(HRI.out r h).2;omega) (fun h=>by rw[show r=⟨veh,ax,Lr,cx⟩ by simpa using h];show Lr.length<=9;rw[HLR.out];omega)) (by rw[HM.out];omega) HLW.out (fun r hr=>(List.mem_append.1 hr).elim (HRP.out r) (fun h=>by rw[show r=⟨veh,ax,Lr,cx⟩ by simpa using h];exact HPR.out)) (by have:=HLN2.out;rw[HM.out]at this;exact this) _ (by rfl) (by rfl)
     ·have e29:((y6:Int)==29)=false:=by simp;omega
      have e28:((y6:Int)==28)=false:=by simp;omega
      clear h29 h28;obtain⟨t0,t1⟩:=za2 D6.out.bp;obtain⟨b0,b1⟩:=za2 D6.out.b0;have bf:=fun i=>frozen_of_row _ _ i _ _ D6.out.b0;go_wp2;exact D6.out.done (by rw[HNR.out];omega) (fun r hr=>by have:=(HRI.out r hr).2;omega) (by rw[HM.out];omega) HLW.out HRP.out (by have:=HLN2.out;rw[HM.out]at this;exact this) _ (by rfl) (by rfl)
theorem zw6{R:List RT}{b:Nat}(h:∀r∈R,r.ids.length<=b):∀k,k<=R.length->(zb3 R k).length<=k*b
 |0,_=>by simp[zl6]
 |k+1,hk=>by
  have ih:=zw6 h k (by omega);have hm:R.getD k rt0∈R:=by rw[List.getD_eq_getElem?_getD,List.getElem?_eq_getElem (by omega)];simp
  have:=h _ hm;rw[zg3 (by omega),List.length_append,Nat.succ_mul];omega
structure LP(w W:World)(k kp:Nat)(cs:Array Value)(ra:Option Addr)(nr rc:Nat)(la:Option Addr)(m lc:Nat)(g go gv:Nat)(zs O V:List Int)(R:List RT)(L:List Int):Prop where
 b:Below w.heap.size w W
 b1:W.heap[k]? =some (.cells cs 30 (0,0))
 b2:W.heap[kp]? =some (.cells #[.slice ra nr rc,.slice la m lc] 33 (0,0))
 iz:za0 W (some ⟨g,0,none⟩) zs
 io:za0 W (some ⟨go,0,none⟩) O
 iv:za0 W (some ⟨gv,0,none⟩) V
 r:za6 W ra R
 l:za0 W la L
theorem LP.below{w W W':World}{k kp:Nat}{cs:Array Value}{ra:Option Addr}{nr rc:Nat}{la:Option Addr}{m lc:Nat}{g go gv:Nat}{zs O V:List Int}{R:List RT}{L:List Int}(h:LP w W k kp cs ra nr rc la m lc g go gv zs O V R L)(hb:Below W.heap.size W W'):LP w W' k kp cs ra nr rc la m lc g go gv zs O V R L:=
 ⟨h.b.trans (hb.mono h.b.size),za1 hb (za3 h.b1) h.b1,za1 hb (za3 h.b2) h.b2,h.iz.below hb,h.io.below hb,h.iv.below hb,h.r.below hb,h.l.below hb⟩
end Go.Proofs.YtjobhigmdaiinaaGreat
