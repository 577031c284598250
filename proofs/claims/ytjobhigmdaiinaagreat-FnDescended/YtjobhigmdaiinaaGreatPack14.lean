import Derived.Test.YtjobhigmdaiinaaGreatPack1
import Derived.Test.YtjobhigmdaiinaaGreatPack3
import Derived.Test.YtjobhigmdaiinaaGreatPack4
import Derived.Test.YtjobhigmdaiinaaGreatPack5
import Derived.Test.YtjobhigmdaiinaaGreatPack7
import Derived.Test.YtjobhigmdaiinaaGreatDrawRoute
import Derived.Test.YtjobhigmdaiinaaGreatPack13
namespace Go.Proofs.YtjobhigmdaiinaaGreat
open Go.RowKit
structure PD(w W:World)(q:Nat)(a:Option Addr)(bs:List Int)(c:Nat)(cs:Array Value)(kp:Nat)(rs ls:Value)(R:List RT)(L:List Int):Prop where
 gr:w.grownBy W (some q)
 r0:∃p,RD w q a bs c p
 r:∃p,RD W q a bs c p
 bc:W.heap[w.heap.size]? =some (.cells cs 30 (0,0))
 b0:W.heap[w.heap.size+1]? =some (.cells #[.slice none 0 0,.slice none 0 0] 33 (0,0))
 bp:W.heap[kp]? =some (.cells #[rs,ls] 33 (0,0))
 hk:w.heap.size+1<kp
 po:PO W (w.heap.size+2) rs R ls L
section
variable {w W W':World} {q:Nat} {a:Option Addr} {bs:List Int} {c:Nat} {cs:Array Value} {kp:Nat} {rs ls rs' ls':Value} {R R':List RT} {L L':List Int}
theorem PD.lt(h:PD w W q a bs c cs kp rs ls R L):q<w.heap.size:=by
 obtain⟨p,hr⟩:=h.r0;exact za3 hr.1
theorem PD.size(h:PD w W q a bs c cs kp rs ls R L):w.heap.size+3<=W.heap.size:=by
 have:=za3 h.bp;have:=h.hk;omega
theorem PD.read{p:Nat}(h:PD w W q a bs c cs kp rs ls R L)(hr:RD W' q a bs c p)(hg:W.grownBy W' (some q)):PD w W' q a bs c cs kp rs ls R L:=by
 have hl:=h.lt;have hk:=h.hk;exact⟨zb4 h.gr hg,h.r0,⟨p,hr⟩,za5 hg h.bc (fun e=>by injection e with e;omega),za5 hg h.b0 (fun e=>by injection e with e;omega),za5 hg h.bp (fun e=>by injection e with e;omega),h.hk,h.po.other hg (.inl (by omega))⟩
theorem PD.below(h:PD w W q a bs c cs kp rs ls R L)(hb:Below W.heap.size W W'):PD w W' q a bs c cs kp rs ls R L:=by
 obtain⟨p,hr⟩:=h.r;exact⟨zn5 h.gr hb,h.r0,⟨p,hr.below hb⟩,za1 hb (za3 h.bc) h.bc,za1 hb (za3 h.b0) h.b0,za1 hb (za3 h.bp) h.bp,h.hk,h.po.below hb⟩
theorem PD.ints{g:Nat}{zs:List Int}(h:PD w W q a bs c cs kp rs ls R L)(hz:za0 w (some ⟨g,0,none⟩) zs)(hne:g≠q):za0 W (some ⟨g,0,none⟩) zs:=ze8 hz h.gr hne
theorem PD.put{i:Nat}{row:Option Nat}{u:Value}(h:PD w W q a bs c cs kp rs ls R L)(hg:W.grownBy W' row)(hrow:∀k,row=some k->w.heap.size+2<=k/\k≠kp)(hcs:(#[rs,ls]:Array Value).setIfInBounds i u= #[rs',ls'])(hp:PO W' (w.heap.size+2) rs' R' ls' L'):PD w (W'.setCell ⟨kp,i,none⟩ u) q a bs c cs kp rs' ls' R' L':=by
 obtain⟨p,hr⟩:=h.r;obtain⟨p0,hr0⟩:=h.r0;have hk:=h.hk;have hs:=zb3 W' kp i u;have hsl:∀b,some kp=some b->w.heap.size<=b:=fun b e=>by injection e with e;omega
 have hrw:∀b,row=some b->w.heap.size<=b:=fun b e=>by have:=(hrow b e).1;omega
 have hbp:=za5 hg h.bp (fun e=>(hrow _ e.symm).2 rfl);refine⟨zd1 (zd1 h.gr hg hrw) hs hsl,h.r0,⟨p,RD.kept2 hr0 (RD.kept2 hr0 hr hg hrw) hs hsl⟩,za5 hs (za5 hg h.bc (fun e=>by have:=(hrow _ e.symm).1;omega)) (fun e=>by injection e with e;omega),za5 hs (za5 hg h.b0 (fun e=>by have:=(hrow _ e.symm).1;omega)) (fun e=>by injection e with e;omega),?_,h.hk,hp.box hbp⟩;rw[<-hcs];exact ze0 (i:=i) u hbp
theorem PD.rowR'(h:PD w W q a bs c cs kp rs ls R L):∀k,rs.ownBlock=some k->w.heap.size+2<=k/\k≠kp:=fun k e=>⟨(h.po.r.lt k e).1,fun e2=>zf0 h.po.r h.bp (by decide) (by rw[e,e2])⟩
theorem PD.rowL'(h:PD w W q a bs c cs kp rs ls R L):∀k,ls.ownBlock=some k->w.heap.size+2<=k/\k≠kp:=fun k e=>⟨(h.po.l.lt k e).1,fun e2=>zf0 h.po.l h.bp (by decide) (by rw[e,e2])⟩
theorem PD.set2(h:PD w W q a bs c cs kp rs ls R L)(hp:PO W (w.heap.size+2) rs' R' ls' L'):PD w ((W.setCell ⟨kp,0,none⟩ rs').setCell ⟨kp,1,none⟩ ls') q a bs c cs kp rs' ls' R' L':=by
 have hb0:W.grownBy W none:=⟨rfl,rfl,rfl,Nat.le_refl _,fun _ _ _=>rfl⟩;obtain⟨p,hr⟩:=h.r;obtain⟨p0,hr0⟩:=h.r0;have hk:=h.hk;have hs:W.grownBy ((W.setCell ⟨kp,0,none⟩ rs').setCell ⟨kp,1,none⟩ ls') (some kp):=zb4 (zb3 _ _ _ _) (zb3 _ _ _ _);have hsl:∀b,some kp=some b->w.heap.size<=b:=fun b e=>by injection e with e;omega
 refine⟨zd1 h.gr hs hsl,h.r0,⟨p,RD.kept2 hr0 hr hs hsl⟩,za5 hs h.bc (fun e=>by injection e with e;omega),za5 hs h.b0 (fun e=>by injection e with e;omega),?_,h.hk,(hp.box h.bp).box (by
  have:=ze0 (i:=0) rs' h.bp;simpa using this)⟩
 have:=ze0 (i:=1) ls' (ze0 (i:=0) rs' h.bp);simpa using this
theorem PD.setL(h:PD w W q a bs c cs kp rs ls R L)(hl:W.ownsRow (w.heap.size+2) 2 1 ls' L'.length (L'.map (Value.int .i64))):PD w (W.setCell ⟨kp,1,none⟩ ls') q a bs c cs kp rs ls' R L':=
 h.put (i:=1) (u:=ls') (row:=none) (W':=W) ⟨rfl,rfl,rfl,Nat.le_refl _,fun _ _ _=>rfl⟩ (fun k e=>by cases e) rfl ⟨h.po.r,h.po.s,hl⟩
end
theorem z17(ra la:Option Addr)(rc ln lc nr:Nat)(R:List RT)(veh:Int)(x:RT)(w:World)(hR:za6 w ra R)(hn:R.length<=1048576)(hnr:R.length=nr)(hx:zc8 R veh=x):
 Calls Tryz.prog 66 #[.agg #[.slice ra nr rc,.slice la ln lc],.int .i64 veh] w fun e w'=>e=.returned (.agg #[.int .i64 veh,.slice x.a x.ids.length x.c])/\Below w.heap.size w w':=by
 subst hnr hx;exact z97 ra la rc ln lc R veh w hR hn
theorem zX3(l:List Int)(k:Nat)(x:Int)(hk:k<=l.length):(insL l k x).length=l.length+1:=by simp[insL];omega
theorem zX5{l:List Int}{k:Nat}{x:Int}:∀z∈insL l k x,z∈l∨z=x:=fun z hz=>by
 unfold insL at hz;rcases List.mem_append.1 hz with h|h
 ·exact .inl (List.mem_of_mem_take h)
 ·rcases List.mem_cons.1 h with h|h
  ·exact .inr h
  ·exact .inl (List.mem_of_mem_drop h)
theorem zt4(n fi veh:Int)(g zl cg go ko co gv kv cv:Nat)(zs O V:List Int)(x:RT)(W:World)(hA:za0 W (some ⟨g,0,none⟩) zs)(hO:za0 W (some ⟨go,0,none⟩) O)(hV:za0 W (some ⟨gv,0,none⟩) V)(hlz:zs.length=zl)(hlo:O.length=ko*6)(hlv:V.length=kv*5)(hk2:ko<=12)(hv2:kv<=5)(hx:(x.a=none/\x.ids=[]/\x.c=0)∨((∃gx,x.a=some ⟨gx,0,none⟩)/\za0 W x.a x.ids/\x.ids.length<=x.c))(h9:x.ids.length<=100)(id y:Int)(hy:0<=y/\y<=(x.ids.length:Int)):
 Calls Tryz.prog 68 #[.agg #[.int .i64 n,.slice (some ⟨g,0,none⟩) zl cg,.slice (some ⟨go,0,none⟩) ko co,.slice (some ⟨gv,0,none⟩) kv cv,.int .i64 fi],.agg #[.int .i64 veh,.slice x.a x.ids.length x.c],.int .i64 id,.int .i64 y] W (fun e w'=>∃ch D xs,yw0 W ch veh D xs e w'/\(ch=true->xs.length=x.ids.length+1/\∀z∈xs,z∈x.ids∨z=id)):=by
 subst hlz;obtain⟨xv,xa,xids,xc⟩:=x;simp only at hx h9 hy⊢;rcases hx with⟨rfl,rfl,rfl⟩|⟨⟨gx,rfl⟩,hI,hc⟩
 ·refine(z54 n fi veh _ _ _ cg ko co kv cv zs O V W hA hO hV hlo hlv (by omega) (by omega) id y _ rfl _ rfl _ rfl).mono ?_
  intro e w' h;refine⟨_,_,_,h,fun hch=> ?_⟩;rw[hch];exact⟨zX3 _ _ _ (by simp at hy⊢;omega),zX5⟩
 ·refine(z50 n fi veh _ _ _ gx 0 cg ko co kv cv xc zs O V xids W hA hO hV hI hlo hlv (by omega) (by omega) (by omega) hc id y _ rfl _ rfl _ rfl).mono ?_
  intro e w' h;refine⟨_,_,_,h,fun hch=> ?_⟩;rw[hch];exact⟨zX3 _ _ _ (by omega),zX5⟩
section
variable {w W W':World} {q:Nat} {a:Option Addr} {bs:List Int} {c:Nat} {n fi:Int} {g zl cg go ko co gv kv cv:Nat} {kp:Nat} {rs ls:Value} {R:List RT} {L:List Int}
theorem PD.keepL{cs:Array Value}{gl m cl:Nat}{f:Nat->Int}(h:PD w W q a bs c cs kp rs (.slice (some ⟨gl,0,none⟩) m cl) R L)(hm:L.length=m)(hf:∀y,L.getD y 0=f y):W.cell? ⟨kp,1,none⟩=some (.slice (some ⟨gl,0,none⟩) m cl)/\∀y:Nat,y<m->W.cell? ⟨gl,y,none⟩=some (.int .i64 (f y)):=by
 refine⟨(za2 h.bp).2,fun y hy=> ?_⟩;have hl:=h.po.l;rw[hm]at hl;obtain⟨b,off,e,hc⟩:=zd6 hl y (by rw[hm];exact hy);simp at e;obtain⟨rfl,rfl⟩:=e;rw[hf y]at hc;simpa using hc
theorem PD.keepV{V:List Int}{f:Nat->Int}(h:PD w W q a bs c #[.int .i64 n,.slice (some ⟨g,0,none⟩) zl cg,.slice (some ⟨go,0,none⟩) ko co,.slice (some ⟨gv,0,none⟩) kv cv,.int .i64 fi] kp rs ls R L)(hV:za0 w (some ⟨gv,0,none⟩) V/\gv≠q)(hlv:V.length=kv*5)(hf:∀y,V.getD (y*5) 0=f y):W.cell? ⟨kp,0,none⟩=some rs/\W.cell? ⟨kp,1,none⟩=some ls/\W.cell? ⟨w.heap.size,3,none⟩=some (.slice (some ⟨gv,0,none⟩) kv cv)/\∀y:Nat,y<kv->W.cell? ⟨gv,y*5,none⟩=some (.int .i64 (f y)):=by
 obtain⟨p0,p1⟩:=za2 h.bp;refine⟨p0,p1,(zb8 h.bc).2.2.2.1,fun y hy=> ?_⟩;rw[<-hf y];obtain⟨_,_,e,hc⟩:=(h.ints hV.1 hV.2) (y*5) (by omega);simp at e;obtain⟨rfl,rfl⟩:=e;simpa using hc
theorem PD.setX{cs xs:Array Value}{kx:Nat}{u v:Value}(h:PD w W q a bs c cs kp rs ls R L)(hx:W.heap[kx]? =some (.cells xs 43 (0,0)))(hk:w.heap.size+1<kx)(hr:rs.ownBlock≠some kx):PD w ((W.setCell ⟨kx,0,none⟩ u).setCell ⟨kx,1,none⟩ v) q a bs c cs kp rs ls R L:=by
 obtain⟨p,hrd⟩:=h.r;obtain⟨p0,hr0⟩:=h.r0;have hkp:kx≠kp:=fun e=>by
  have:=h.bp;rw[<-e,hx]at this;simp at this
 have hs:W.grownBy ((W.setCell ⟨kx,0,none⟩ u).setCell ⟨kx,1,none⟩ v) (some kx):=zb4 (zb3 _ _ _ _) (zb3 _ _ _ _);have hsl:∀b,some kx=some b->w.heap.size<=b:=fun b e=>by injection e with e;omega
 exact⟨zd1 h.gr hs hsl,h.r0,⟨p,RD.kept2 hr0 hrd hs hsl⟩,za5 hs h.bc (fun e=>by injection e with e;omega),za5 hs h.b0 (fun e=>by injection e with e;omega),za5 hs h.bp (fun e=>hkp (by injection e with e;exact e.symm)),h.hk,⟨zj1 h.po.r hs hr,fun s hm=>zj1 (h.po.s s hm) hs (zf0 (h.po.s s hm) hx (by decide)),zj1 h.po.l hs (zf0 h.po.l hx (by decide))⟩⟩
theorem z15{W:World}{kx:Nat}{xs:Value×Value}{u v:Value}{T:TypeId}(hx:W.heap[kx]? =some (.cells #[xs.1,xs.2] T (0,0))):((W.setCell ⟨kx,0,none⟩ u).setCell ⟨kx,1,none⟩ v).heap[kx]? =some (.cells #[u,v] T (0,0)):=by
 have:=ze0 (i:=1) v (ze0 (i:=0) u hx);simpa using this
theorem PD.keep7{kx:Nat}{u v:Value}{T:TypeId}(h:PD w W q a bs c #[.int .i64 n,.slice (some ⟨g,0,none⟩) zl cg,.slice (some ⟨go,0,none⟩) ko co,.slice (some ⟨gv,0,none⟩) kv cv,.int .i64 fi] kp rs ls R L)(hx:W.heap[kx]? =some (.cells #[u,v] T (0,0))):W.cell? ⟨w.heap.size,0,none⟩=some (.int .i64 n)/\W.cell? ⟨w.heap.size,1,none⟩=some (.slice (some ⟨g,0,none⟩) zl cg)/\W.cell? ⟨w.heap.size,2,none⟩=some (.slice (some ⟨go,0,none⟩) ko co)/\W.cell? ⟨w.heap.size,3,none⟩=some (.slice (some ⟨gv,0,none⟩) kv cv)/\W.cell? ⟨w.heap.size,4,none⟩=some (.int .i64 fi)/\W.cell? ⟨kx,0,none⟩=some u/\W.cell? ⟨kx,1,none⟩=some v:=by
 obtain⟨c0,c1,c2,c3,c4⟩:=zb8 h.bc;obtain⟨x0,x1⟩:=za2 hx;exact⟨c0,c1,c2,c3,c4,x0,x1⟩
theorem zZ7{S:List RT}{r:RT}{j:Nat}(hk:S.map RT.key=(setL R r).map RT.key)(hR:∀x∈R,x.ids≠[]/\x.ids.length+j<=9)(hr:r.ids≠[]/\r.ids.length+(j - 1)<=9):S.length<=R.length+1/\∀s∈S,s.ids≠[]/\s.ids.length+(j - 1)<=9:=by
 obtain⟨h1,h2⟩:=zE5 R r;refine⟨?_,fun s hs=> ?_⟩
 ·have:=congrArg List.length hk
  simp only[List.length_map]at this;omega
 ·have hm:s.key∈(setL R r).map RT.key:=by rw[<-hk];exact List.mem_map_of_mem hs
  obtain⟨x,hx,e⟩:=List.mem_map.1 hm;have e2:x.ids=s.ids:=congrArg Prod.snd e;rw[<-e2];rcases h1 x hx with h|h
  ·have:=hR x h
   exact⟨this.1,by omega⟩
  ·rw[h];exact hr
theorem yx5{S:List RT}{r:RT}{P:Int->Prop}(hk:S.map RT.key=(setL R r).map RT.key)(hR:∀x∈R,∀z∈x.ids,P z)(hr:∀z∈r.ids,P z):∀s∈S,∀z∈s.ids,P z:=fun s hs=>by
 have hm:s.key∈(setL R r).map RT.key:=by rw[<-hk];exact List.mem_map_of_mem hs
 obtain⟨x,hx,e⟩:=List.mem_map.1 hm;have e2:x.ids=s.ids:=congrArg Prod.snd e;rw[<-e2];rcases(zE5 R r).1 x hx with h|h
 ·exact hR x h
 ·rw[h];exact hr
def DJ(R:List RT)(ls:Value):Prop:=∀s∈R,∀k,ls.ownBlock=some k->(Value.slice s.a s.ids.length s.c).ownBlock≠some k
theorem PD.addL{cs:Array Value}{ls':Value}{L':List Int}(h:PD w W q a bs c cs kp rs ls R L)(hdj:DJ R ls)(hg:W.grownBy W' ls.ownBlock)(ho:W'.ownsRow (w.heap.size+2) 2 1 ls' L'.length (L'.map (Value.int .i64))):PD w (W'.setCell ⟨kp,1,none⟩ ls') q a bs c cs kp rs ls' R L':=by
 have key:∀(T:TypeId) (size n:Nat) (v:Value) (xs:List Value),W.ownsRow (w.heap.size+2) T size v n xs->(∀k,ls.ownBlock=some k->v.ownBlock≠some k)->W'.ownsRow (w.heap.size+2) T size v n xs:=fun T size n v xs hv hne=>by
  refine hv.kept hg ?_;cases hb:v.ownBlock with
  |none=>exact .inl rfl
  |some k=>exact .inr (fun e=>hne k e.symm hb)
 refine h.put (i:=1) (u:=ls') hg (fun k e=>h.rowL' k e) rfl ⟨key _ _ _ _ _ h.po.r (fun k e e2=> ?_),fun s hs=>key _ _ _ _ _ (h.po.s s hs) (hdj s hs),ho⟩;have hrow:∃cs,W.heap[k]? =some (.cells cs 2 (0,0)):=by
  obtain⟨_,⟨h3,_⟩|⟨g',cap,cur,h3,_,h4,_⟩⟩:=h.po.l
  ·rw[h3]at e;cases e
  ·rw[h3]at e
   simp[Value.ownBlock]at e;exact⟨cur,by rw[<-e];exact h4⟩
 obtain⟨cs',hcs⟩:=hrow;exact zf0 h.po.r hcs (by decide) e2
theorem PD.addR{cs:Array Value}{rs':Value}{r:RT}(h:PD w W q a bs c cs kp rs ls R L)(hr:W.ownsRow (w.heap.size+2) 2 1 (.slice r.a r.ids.length r.c) r.ids.length (r.ids.map (Value.int .i64)))(hg:W.grownBy W' rs.ownBlock)(ho:W'.ownsRow (w.heap.size+2) 43 2 rs' (R.length+1) (zi6 R++zo1 r)):PD w (W'.setCell ⟨kp,0,none⟩ rs') q a bs c cs kp rs' ls (R++[r]) L:=
 h.put (i:=0) (u:=rs') hg (fun k e=>h.rowR' k e) rfl (h.po.more hr hg ho)
theorem DJ.new{cs:Array Value}{ls':Value}(h:PD w W q a bs c cs kp rs ls R L)(hn:∀k,ls'.ownBlock=some k->W.heap.size<=k):DJ R ls':=fun s hs k e e2=>by
 have:=(h.po.s s hs).lt k e2;have:=hn k e;omega
end
def LN(cb:Bool)(ls:Value):Prop:=cb=true->∃g m c,ls=.slice (some ⟨g,0,none⟩) m c
def zX6(P:Int->Prop)(cb:Bool)(w:World)(q:Nat)(a:Option Addr)(bs:List Int)(c:Nat)(e:Ending)(w':World):Prop:=∃(rs ls:Value) (R:List RT) (L:List Int),e=.returned (.agg #[rs,ls])/\R.length<=10/\(∀r∈R,r.ids.length<=9)/\L.length<=13/\(∀x∈L,-9223372036854775808<=x/\x<9223372036854775808)/\w.grownBy w' (some q)/\(∃p,RD w' q a bs c p)/\PO w' w.heap.size rs R ls L/\(∀r∈R,∀z∈r.ids,P z)/\LN cb ls
theorem z75:(Tryz.prog.info? 33).map (·.size)=some 2:=by kernel_rfl
theorem PD.done{P:Int->Prop}{cb:Bool}{w W:World}{q:Nat}{a:Option Addr}{bs:List Int}{c:Nat}{cs:Array Value}{kp:Nat}{rs ls:Value}{R:List RT}{L:List Int}(h:PD w W q a bs c cs kp rs ls R L)(hR:R.length<=10)(hr9:∀r∈R,r.ids.length<=9)(hL:L.length<=13)(hw:∀x∈L,-9223372036854775808<=x/\x<9223372036854775808)(hP:∀r∈R,∀z∈r.ids,P z)(hN:LN cb ls)(A:Act)(hp:A.tmps.getD 4 undef=.pointer (some ⟨w.heap.size+1,0,none⟩))(hds:A.defers=[]):
 bodyPost Tryz.prog Tryz.f40 (zX6 P cb w q a bs c) Exit.ret A ((W.setCell ⟨w.heap.size+1,0,none⟩ rs).setCell ⟨w.heap.size+1,1,none⟩ ls):=by
 obtain⟨p,hr⟩:=h.r;obtain⟨p0,hr0⟩:=h.r0;have hsl:∀b,some (w.heap.size+1)=some b->w.heap.size<=b:=fun b e=>by injection e with e;omega
 have hs:W.grownBy ((W.setCell ⟨w.heap.size+1,0,none⟩ rs).setCell ⟨w.heap.size+1,1,none⟩ ls) (some (w.heap.size+1)):=zb4 (zb3 _ _ _ _) (zb3 _ _ _ _);have hrow:((W.setCell ⟨w.heap.size+1,0,none⟩ rs).setCell ⟨w.heap.size+1,1,none⟩ ls).heap[w.heap.size+1]? =some (.cells #[rs,ls] 33 (0,0)):=by
  have:=ze0 (i:=1) ls (ze0 (i:=0) rs h.b0);simpa using this
 refine bodyPost_ret (v:=.agg #[rs,ls]) (results_cell_row Tryz.results40 _ _ (w.heap.size+1) 33 _ (0,0) _ hp hrow Tryz.underlying33 rfl z75) hds
  ⟨rs,ls,R,L,rfl,hR,hr9,hL,hw,zd1 h.gr hs hsl,⟨p,RD.kept2 hr0 hr hs hsl⟩,((h.po.set (by omega)).set (by omega)).base (by omega),hP,hN⟩
theorem zy5{R:List RT}{b:Nat}(h:∀r∈R,r.ids.length<=b):∀k,k<=R.length->(za7 R k).length<=k*b
 |0,_=>by simp[zi0]
 |k+1,hk=>by
  have ih:=zy5 h k (by omega);have hm:R.getD k rt0∈R:=by rw[List.getD_eq_getElem?_getD,List.getElem?_eq_getElem (by omega)];simp
  have:=h _ hm;rw[zf7 (by omega),List.length_append,Nat.succ_mul];omega
structure LP(w W:World)(k kp:Nat)(cs:Array Value)(ra:Option Addr)(nr rc:Nat)(la:Option Addr)(m lc:Nat)(g go gv:Nat)(zs O V:List Int)(R:List RT)(L:List Int):Prop where
 b:Below w.heap.size w W
 b1:W.heap[k]? =some (.cells cs 30 (0,0))
 b2:W.heap[kp]? =some (.cells #[.slice ra nr rc,.slice la m lc] 33 (0,0))
 iz:za0 W (some ⟨g,0,none⟩) zs
 io:za0 W (some ⟨go,0,none⟩) O
 iv:za0 W (some ⟨gv,0,none⟩) V
 r:za6 W ra R
 l:za0 W la L
theorem LP.below{w W W':World}{k kp:Nat}{cs:Array Value}{ra:Option Addr}{nr rc:Nat}{la:Option Addr}{m lc:Nat}{g go gv:Nat}{zs O V:List Int}{R:List RT}{L:List Int}(h:LP w W k kp cs ra nr rc la m lc g go gv zs O V R L)(hb:Below W.heap.size W W'):LP w W' k kp cs ra nr rc la m lc g go gv zs O V R L:=
 ⟨h.b.trans (hb.mono h.b.size),za1 hb (za3 h.b1) h.b1,za1 hb (za3 h.b2) h.b2,h.iz.below hb,h.io.below hb,h.iv.below hb,h.r.below hb,h.l.below hb⟩
end Go.Proofs.YtjobhigmdaiinaaGreat
