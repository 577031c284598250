import Derived.Test.YtkchnomkiboihaaGreatPack2
import Derived.Test.YtkchnomkiboihaaGreatPack7
import Derived.Test.YtkchnomkiboihaaGreatPack29
import Derived.Deep.CutRange
set_option linter.unusedSimpArgs false
set_option maxHeartbeats 8000000
namespace Go.Proofs.YtkchnomkiboihaaGreat
theorem qQ:type_of% @Go.World.ownsRow_nil:=@Go.World.ownsRow_nil
open Value renaming slice→za,int→zc,ownBlock→zm,oneCell'→zr
open IntKind renaming i64→zb
open Obj renaming cells→zd
open Proofs.Tryz renaming prog→ze
open Go renaming World→zg
open Act renaming put→zi
open List renaming length→zj
open World renaming ownsRow→zk
open Go.RowKit
open Q
theorem PO.box{w:zg}{base k i:Nat}{rs ls u:Value}{S:List RT}{L:List Int}{cs:Array Value}(h:PO w base rs S ls L)(hk:w.heap[k]? =some (.cells cs 33 (0,0))):PO (w.setCell ⟨k,i,none⟩ u) base rs S ls L:=
 ⟨x8 h.r (zl5 h.r hk (by decide)) _,fun s hs=>x8 (h.s s hs) (zl5 (h.s s hs) hk (by decide)) _,x8 h.l (zl5 h.l hk (by decide)) _⟩
theorem PO.more{w w':zg}{base:Nat}{rs rs' ls:Value}{S:List RT}{L:List Int}{r:RT}(h:PO w base rs S ls L)(hr:w.ownsRow base 2 1 (za r.a r.ids.length r.c) r.ids.length (r.ids.map (zc zb)))(hg:w.grownBy w' rs.ownBlock)(ho:w'.ownsRow base 80 2 rs' (S.length+1) (zg5 S++zq8 r)):PO w' base rs' (S++[r]) ls L:=by
 have keep:∀(v:Value) n xs,w.ownsRow base 2 1 v n xs->w'.ownsRow base 2 1 v n xs:=fun v n xs hv=>by
  refine hv.kept hg ?_;rcases h.rv with⟨e,_⟩|⟨g,c,e,_,_⟩
  ·rw[e]at hg⊢
   cases hb:v.ownBlock with
   |none=>exact .inl rfl
   |some q=>exact .inr (by simp[zm])
  ·rw[e]
   refine .inr fun e2=> ?_;have hrow:∃cs,w.heap[g]? =some (.cells cs 80 (0,0)):=by
    have h2:=h.r;rw[e]at h2;obtain⟨_,⟨h3,_⟩|⟨g',cap,cur,h3,_,h4,_⟩⟩:=h2
    ·cases h3
    ·simp only[xW,xV,xZ]at h3
     exact⟨cur,by rw[h3.1.1];exact h4⟩
   obtain⟨cs,hcs⟩:=hrow;exact zl5 hv hcs (by decide) e2
 refine⟨?_,fun s hs=> ?_,keep _ _ _ h.l⟩
 ·rw[xU,zk1,show zg5 [r]=zq8 r by simp[zg5]]
  exact ho
 ·rcases yi.1 hs with hs|hs
  ·exact keep _ _ _ (h.s s hs)
  ·have:s=r:=by simpa using hs
   subst this;exact keep _ _ _ hr
structure CQ(w W:zg)(kb:Nat)(p0 p1 rs ls:Value)(S:List RT)(L:List Int):Prop where
 b:Below w.heap.size w W
 p:W.heap[w.heap.size]? =some (zd #[p0,p1] 33 (0,0))
 a:W.heap[w.heap.size+1]? =some (zd #[za none 0 0,za none 0 0] 33 (0,0))
 o:W.heap[kb]? =some (zd #[rs,ls] 33 (0,0))
 k:w.heap.size+1<kb
 q:PO W (w.heap.size+2) rs S ls L
theorem CQ.below{w W W':zg}{kb:Nat}{p0 p1 rs ls:Value}{S:List RT}{L:List Int}(h:CQ w W kb p0 p1 rs ls S L)(hb:Below W.heap.size W W'):CQ w W' kb p0 p1 rs ls S L:=
 ⟨h.b.trans (hb.mono h.b.size),za0 hb (za2 h.p) h.p,za0 hb (za2 h.a) h.a,za0 hb (za2 h.o) h.o,h.k,h.q.below hb⟩
theorem CQ.moreO{w W w4:zg}{kb:Nat}{p0 p1 rs ls:Value}{S:List RT}{L:List Int}(h:CQ w W kb p0 p1 rs ls S L)(hg:W.grownBy w4 rs.ownBlock):w4.cell? ⟨w.heap.size,0,none⟩=some p0/\w4.heap[kb]? =some (zd #[rs,ls] 33 (0,0))/\Below w.heap.size w w4:=by
 have hnp:∀j cs,W.heap[j]? =some (.cells cs 33 (0,0))->some j≠rs.ownBlock:=fun j cs hj e=>zl5 h.q.r hj (by decide) e.symm
 exact⟨(za1 (zb9 hg h.p (hnp _ _ h.p))).1,zb9 hg h.o (hnp _ _ h.o),h.b.grown hg h.b.size (fun j e=>by have:=(h.q.r.lt j e).1;omega)⟩
theorem CQ.more{w W w4:zg}{kb k q g3 c3:Nat}{p0 p1 rs ls v':Value}{S:List RT}{L rids:List Int}{rv:Int}(h:CQ w W kb p0 p1 rs ls S L)(hq:rids.length=q)(hk:S.length=k)(hs:W.ownsRow (w.heap.size+2) 2 1 (za (some ⟨g3,0,none⟩) q c3) q (rids.map (zc zb)))(hg:W.grownBy w4 rs.ownBlock)(ho:w4.ownsRow (w.heap.size+2) 80 2 v' (k+1) (zg5 S++[zc zb rv,za (some ⟨g3,0,none⟩) q c3])):CQ w (w4.setCell ⟨kb,0,none⟩ v') kb p0 p1 v' ls (S++[⟨rv,some ⟨g3,0,none⟩,rids,c3⟩]) L:=by
 subst hq hk;have hnp:∀j cs,W.heap[j]? =some (.cells cs 33 (0,0))->some j≠rs.ownBlock:=fun j cs hj e=>zl5 h.q.r hj (by decide) e.symm
 have hb4:Below w.heap.size w w4:=h.b.grown hg h.b.size (fun j e=>by have:=(h.q.r.lt j e).1;omega);have MO:=h.q.more (r:=⟨rv,some ⟨g3,0,none⟩,rids,c3⟩) hs hg ho;have hk5:=h.k;have ho4:=zb9 hg h.o (hnp _ _ h.o);have s1:=zP w4 kb 0 _ _ v' ho4;refine⟨hb4.setCell (by simp;omega) _,?_,?_,by simpa using s1,hk5,MO.box ho4⟩
 ·rw[xg _ _ _ _ (by simp;omega)];exact zb9 hg h.p (hnp _ _ h.p)
 ·rw[xg _ _ _ _ (by simp;omega)];exact zb9 hg h.a (hnp _ _ h.a)
theorem zf9(W:zg)(o0 o1:Value)(T:TypeId)(g:Nat)(hg:W.heap.size=g):∀j u,[o0,o1][j]? =some u->(W.alloc (zd #[o0,o1] T)).cell? ⟨g,0+j,none⟩=some u:=by
 subst hg;intro j u h;have hr:=zN W (zd #[o0,o1] T);rw[z6,zR _ _ j _ _ _ hr,<-h];simp
def yz6(w:zg)(R:List RT)(L:List Int)(e:Ending)(w':zg):Prop:=∃ra rc gl lc S,e=.returned (.agg #[za ra R.length rc,za (some ⟨gl,0,none⟩) L.length lc])/\Below w.heap.size w w'/\S.map RT.key=R.map RT.key/\PO w' (w.heap.size+2) (za ra R.length rc) S (za (some ⟨gl,0,none⟩) L.length lc) L
theorem zz4(ra la:Option Addr)(rc lc:Nat)(R:List RT)(L:List Int)(w:zg)(hR:za9 w ra R)(hL:za3 w la L)(hla:(la=none/\L.length=0)∨∃bl ol,la=some ⟨bl,ol,none⟩)(hn:R.length<=500)(hi:∀r∈R,r.ids≠[]/\r.ids.length<=500)(hl:L.length<=500):
 Calls ze 40 #[.agg #[za ra R.length rc,za la L.length lc]] w (yz6 w R L):=by
 have HR:=za4 hR;have HL:=za4 hL;have HLA:Hid _:=hla;have HI:Hid _:=hi;clear hR hL hi hla;obtain⟨n,HN⟩:=nmd R.length;obtain⟨m,HM⟩:=nmd L.length;rw[HN.X]at hn⊢;rw[HM.X]at hl⊢;have B1:Hid (Below w.heap.size w (((w.alloc (zd #[za ra n rc,za la m lc] 33)).alloc (zd #[za none 0 0,za none 0 0] 33)).alloc (zd #[] 2))):=((zK _).alloc (by simp) _).alloc (by simp;omega) _;have P1:Hid ((((w.alloc (zd #[za ra n rc,za la m lc] 33)).alloc (zd #[za none 0 0,za none 0 0] 33)).alloc (zd #[] 2)).heap[w.heap.size]? =some (zd #[za ra n rc,za la m lc] 33 (0,0))):=(yY _ _ (by simp;omega)).trans (xb _ _ _);have A1:Hid ((((w.alloc (zd #[za ra n rc,za la m lc] 33)).alloc (zd #[za none 0 0,za none 0 0] 33)).alloc (zd #[] 2)).heap[w.heap.size+1]? =some (zd #[za none 0 0,za none 0 0] 33 (0,0))):=(yY _ _ (by simp)).trans (y8 _ _ _);have O1:Hid ((((w.alloc (zd #[za ra n rc,za la m lc] 33)).alloc (zd #[za none 0 0,za none 0 0] 33)).alloc (zd #[] 2)).ownsRow (w.heap.size+2) 2 1 (za (some ⟨w.heap.size+1+1,0,none⟩) 0 0) 0 (([]:List Int).map (zc zb))):=by
  have:=qa ((w.alloc (zd #[za ra n rc,za la m lc] 33)).alloc (zd #[za none 0 0,za none 0 0] 33)) #[] 0 (base:=w.heap.size+2) (e:=2) (size:=1) (by simp) (by unfold maxLen;omega) (by simp);show zk _ _ _ _ _ _ _;simpa using this
 go_enter Tryz.func40,Tryz.ntmps40;obtain⟨p0,p1⟩:=za1 P1.X;go_upto_region 1 with fail;go_cut [3]from 5 to 9 (fun s3 wx=>∃(kb gl cl:Nat),s3=.pointer (some ⟨kb,0,none⟩)/\CQ w wx kb (za ra n rc) (za la m lc) (za none 0 0) (za (some ⟨gl,0,none⟩) m cl) [] L)
 case first=>
  rcases HLA.X with⟨h1,h2⟩|⟨bl,ol,h1⟩
  ·have hm0:m=0:=HM.X.symm.trans h2
   have hL0:L=[]:=xt h2;subst hm0 h1
   go_wp2_with(at_builtin
               refine zM5 _ rfl (.tmp 5) (.tmp 7) rfl (w.heap.size+1+1) 0 0 lc rfl rfl (zQ _) ?_)
   go_meet;refine⟨_,w.heap.size+1+1,0,rfl,?_⟩;subst hL0;have hA:=(yV _ (((w.alloc (zd #[za ra n rc,za none 0 lc] 33)).alloc (zd #[za none 0 0,za none 0 0] 33)).alloc (zd #[] 2))).alloc (zQ _) (zd #[za none 0 0,za (some ⟨w.heap.size+1+1,0,none⟩) 0 0] 33);have hb:=B1.X.trans (hA.mono B1.X.size);have hp:=za0 hA (za2 P1.X) P1.X;have ha:=za0 hA (za2 A1.X) A1.X;have hk:((((w.alloc (zd #[za ra n rc,za none 0 lc] 33)).alloc (zd #[za none 0 0,za none 0 0] 33)).alloc (zd #[] 2))).heap.size=w.heap.size+3:=by simp
   have ho:=zN (((w.alloc (zd #[za ra n rc,za none 0 lc] 33)).alloc (zd #[za none 0 0,za none 0 0] 33)).alloc (zd #[] 2)) (zd #[za none 0 0,za (some ⟨w.heap.size+1+1,0,none⟩) 0 0] 33);rw[hk]at ho;exact⟨hb,hp,ha,by first|exact ho|simpa using ho,by simp,⟨qQ _ _ _ _,(fun s hs=>by cases hs),O1.X.alloc _⟩⟩
  ·subst h1
   go_wp2_with(first
    |(at_builtin
      go_must(refine zc9 _ rfl (.tmp 5) (.tmp 7) rfl (w.heap.size+2) _ 0 [] rfl O1.X bl ol m lc L rfl HM.X (HL.X.below B1.X) (by omega) (by omega) (by simp) ?_)
      go_loud(
       intro lv w2 hown hg hbk hnl;have hsz:=B1.X.size;have hge:∀k,(za (some ⟨w.heap.size+1+1,0,none⟩) 0 0).ownBlock=some k->w.heap.size+2<=k:=fun k e=>by have:=z45 e;omega
       have Q2:Hid (CQ w (w2.alloc (zd #[za none 0 0,lv] 33)) w2.heap.size (za ra n rc) (za (some ⟨bl,ol,none⟩) m lc) (za none 0 0) lv [] L):=by
        have hb2:Below w.heap.size w w2:=B1.X.grown hg B1.X.size (fun k e=>by have:=hge k e;omega);have ha:Below w2.heap.size w2 (w2.alloc (zd #[za none 0 0,lv] 33)):=zK _;have hp2:=zb9 hg P1.X (fun e=>by have:=hge _ e.symm;omega);have ha2:=zb9 hg A1.X (fun e=>by have:=hge _ e.symm;omega);refine⟨hb2.trans (ha.mono hb2.size),za0 ha (za2 hp2) hp2,za0 ha (za2 ha2) ha2,zN _ _,za2 ha2,⟨qQ _ _ _ _,(fun s hs=>by cases hs),?_⟩⟩;rw[z6,yo]at hown;rw[HM.X];exact hown.alloc _
       obtain⟨gl,cl,e⟩:=zq9 hown (zn9 hnl ⟨_,_,_,rfl⟩);rw[z6]at e;subst e)
      clear hown hg hbk hnl hsz hge))
   go_meet;exact⟨w2.heap.size,gl,cl,rfl,Q2.X⟩
 case rest=>
  obtain⟨kb,gl,cl,rfl,hQ2⟩:=hcut;have Q2:Hid _:=hQ2;clear hQ2 p0 p1;obtain⟨W2,hW2⟩:∃v,v=wc:=⟨_,rfl⟩;subst hW2
  go_wp2_with fail
  go_loopw[4] (fun t wr=>∃(k:Nat) (rs:Value) (S:List RT),k<=n/\t=zc zb k/\S.map RT.key=(R.take k).map RT.key/\CQ w wr kb (za ra n rc) (za la m lc) rs (za (some ⟨gl,0,none⟩) m cl) S L) (fun t _=>n - (intOf t).toNat)
  case atStart=>exact⟨0,za none 0 0,[],yZ _,rfl,rfl,Q2.X⟩
  case round=>
   clear Q2 B1 P1 A1 O1;obtain⟨k,rs,S,hk,rfl,hkey,hQ⟩:=hrel;have Q3:Hid _:=hQ;have HKY:Hid _:=hkey;have hSk:S.length=k:=by
    have:=congrArg zj hkey;simp only[qi,zZ,HN.X]at this;omega
   have HSK:=za4 hSk;clear hQ hkey hSk;obtain⟨p0,p1⟩:=za1 Q3.X.p;by_cases hlt:k<n
   ·have hkI:(k:Int)<(n:Int):=by omega
    have hkR:k<R.length:=by rw[HN.X];exact hlt
    obtain⟨b,off,e,r1,r2,i3⟩:=(HR.X.below Q3.X.b) k hkR;have hmem:R.getD k rt0∈R:=by rw[zM,zO hkR];simp
    obtain⟨hne,h500⟩:=HI.X _ hmem;have HRC:Hid (∀W,Below w.heap.size w W->W.cell? ⟨b,off+k*2,none⟩=some (zc zb (R.getD k rt0).v)/\W.cell? ⟨b,off+k*2+1,none⟩=some (.slice (R.getD k rt0).a (R.getD k rt0).ids.length (R.getD k rt0).c)):=fun W hW=>by
     obtain⟨b2,off2,e2,q1,q2,_⟩:=(HR.X.below hW) k hkR;rw[e]at e2;simp only[xV,xZ,qb]at e2;obtain⟨rfl,rfl⟩:=e2;exact⟨q1,q2⟩
    have HTK:Hid (R.take (k+1)=R.take k++[R.getD k rt0]):=by
     show _=_;rw[yd hkR];simp[List.getD,hkR]
    subst e;generalize R.getD k rt0=r at*;obtain⟨rv,rra,rids,rcc⟩:=r;simp only at r1 r2 i3 hne h500;have hpos:=xL.2 hne;obtain⟨b',off',e',-⟩:=i3 0 hpos;subst e';have I3:=za4 i3;obtain⟨q,HQ⟩:=nmd rids.length;simp only[HQ.X]at r2 h500 hpos HRC;clear i3 hne hmem;obtain⟨o0,o1⟩:=za1 Q3.X.o;have of:=fun i=>yU _ _ i _ _ Q3.X.o;have kS:=xe p0 (xe o0 (xe r1 r2));have hkb:=za2 Q3.X.o
    go_wp2_with fail
    -- REGION
    refine ze1 (S:=(fun W=>W.cell? ⟨w.heap.size,0,none⟩=some (za (some ⟨b,off,none⟩) n rc)/\W.cell? ⟨kb,0,none⟩=some rs/\W.cell? ⟨b,off+k*2,none⟩=some (zc zb rv)/\W.cell? ⟨b,off+k*2+1,none⟩=some (za (some ⟨b',off',none⟩) q rcc))) 20 (by kernel_rfl) ?_ (fun hHeld=> ?_)
    ·exact kS
    have Q1:Hid _:=Q3.X.below (yV _ _).drew;have I1:Hid (za3 wr.drew (some ⟨b',off',none⟩) rids):=I3.X.below (yV _ _).drew;clear Q3 I3 p0 p1 r1 r2 o0 o1 of kS;generalize wr.drew=W1 at*;have QA:Hid (CQ w (W1.alloc (zd #[] 2)) kb (za (some ⟨b,off,none⟩) n rc) (za la m lc) rs (za (some ⟨gl,0,none⟩) m cl) S L):=Q1.X.below (zK _);obtain⟨o0,o1⟩:=za1 Q1.X.o;obtain⟨oa0,oa1⟩:=za1 QA.X.o;have kSa:(fun W=>W.cell? ⟨w.heap.size,0,none⟩=some (za (some ⟨b,off,none⟩) n rc)/\W.cell? ⟨kb,0,none⟩=some rs/\W.cell? ⟨b,off+k*2,none⟩=some (zc zb rv)/\W.cell? ⟨b,off+k*2+1,none⟩=some (za (some ⟨b',off',none⟩) q rcc)) (W1.alloc (zd #[] 2)):=⟨(za1 QA.X.p).1,(za1 QA.X.o).1,HRC.X _ QA.X.b⟩;refine tkZ 0 hHeld ?_;refine tkZ 1 hHeld ?_;refine tkZ 2 hHeld ?_;refine tkZ 3 hHeld ?_;refine tkZ 4 hHeld ?_;refine tkZ 5 hHeld ?_;refine tkZ 6 hHeld ?_;refine tkZ 7 hHeld ?_;refine tkZ 9 hHeld ?_;refine tkZ 10 hHeld ?_;refine tkZ 11 hHeld ?_;refine tkZ 12 hHeld ?_;refine tkZ 13 hHeld ?_;refine tkZ 14 hHeld ?_;refine zb7 (rs:=[8]) (by kernel_rfl) (by simp) ?_;refine zb1.cons rfl (fun K hK=> ?_) zb1.nil;go_simp;refine hK.out _ _ ?_ (fun hHeld=> ?_)
    ·exact kSa
    clear hK K
    (try simp only[zi,xB,zL,xC])
    refine zb7 (rs:=[15]) (by kernel_rfl) (by simp) ?_;refine zb1.cons rfl (fun K hK=> ?_) zb1.nil;refine zi3 rfl (.tmp 25) (.tmp 31) rfl W1.heap.size (za (some ⟨W1.heap.size,0,none⟩) 0 0) [] 0 rfl (qa W1 #[] 0 (zQ _) (by unfold maxLen;omega) (by simp)) b' off' q rcc rids rfl HQ.X (I1.X.below (zK _)) (by omega) (by omega) (by simp) ?_;intro v3 w3 ho hg hn;obtain⟨g3,c3,e3⟩:=zq9 ho (zn9 hn ⟨_,_,_,rfl⟩);rw[z6]at e3;subst e3;have hbx:Below W1.heap.size W1 w3:=((yV W1.heap.size W1).alloc (zQ _) _).grown hg (by simp) (fun k e=>z45 e);have Q4:Hid _:=Q1.X.below hbx;have O4:Hid (w3.ownsRow (w.heap.size+2) 2 1 (za (some ⟨g3,0,none⟩) q c3) q (rids.map (zc zb))):=by
     rw[z6,yo]at ho;exact zc4 ho (by have:=za2 Q1.X.a;omega)
    have kS3:(fun W=>W.cell? ⟨w.heap.size,0,none⟩=some (za (some ⟨b,off,none⟩) n rc)/\W.cell? ⟨kb,0,none⟩=some rs/\W.cell? ⟨b,off+k*2,none⟩=some (zc zb rv)/\W.cell? ⟨b,off+k*2+1,none⟩=some (za (some ⟨b',off',none⟩) q rcc)) w3:=⟨(za1 Q4.X.p).1,(za1 Q4.X.o).1,HRC.X _ Q4.X.b⟩;have QB:Hid (CQ w (w3.alloc (zd #[zc zb rv,za (some ⟨g3,0,none⟩) q c3] 80)) kb (za (some ⟨b,off,none⟩) n rc) (za la m lc) rs (za (some ⟨gl,0,none⟩) m cl) S L):=Q4.X.below (zK _);have OB:Hid (zk (w3.alloc (zd #[zc zb rv,za (some ⟨g3,0,none⟩) q c3] 80)) (w.heap.size+2) 2 1 (za (some ⟨g3,0,none⟩) q c3) q (rids.map (zc zb))):=O4.X.alloc _;have kSb:(fun W=>W.cell? ⟨w.heap.size,0,none⟩=some (za (some ⟨b,off,none⟩) n rc)/\W.cell? ⟨kb,0,none⟩=some rs/\W.cell? ⟨b,off+k*2,none⟩=some (zc zb rv)/\W.cell? ⟨b,off+k*2+1,none⟩=some (za (some ⟨b',off',none⟩) q rcc)) (w3.alloc (zd #[zc zb rv,za (some ⟨g3,0,none⟩) q c3] 80)):=⟨(za1 QB.X.p).1,(za1 QB.X.o).1,HRC.X _ QB.X.b⟩;obtain⟨x0,x1⟩:=za1 Q4.X.o;obtain⟨xa0,xa1⟩:=za1 QB.X.o;clear ho hg hn hbx;refine hK.out _ _ ?_ (fun hHeld=> ?_)
    ·exact kS3
    clear hK K;change zk8 _ _ _ _ _ _ _ _ (zi _ (some 32) _) _;simp only[zi,xB,zL,xC];refine tkZ 16 hHeld ?_;refine zb7 (rs:=[17]) (by kernel_rfl) (by simp) ?_;refine zb1.cons rfl (fun K hK=> ?_) zb1.nil;go_simp;refine hK.out _ _ ?_ (fun hHeld=> ?_)
    ·exact kSb
    clear hK K
    (try simp only[zi,xB,zL,xC])
    refine zb7 (rs:=[18]) (by kernel_rfl) (by simp) ?_;refine zb1.cons rfl (fun K hK=> ?_) zb1.nil;refine zd8 xI zp2 (by rfl) (by omega) rfl (.tmp 18) (.tmp 34) rfl (w.heap.size+2) rs k (zg5 S) rfl (by rw[<-HSK.X];exact QB.X.q.r) w3.heap.size 0 1 1 [zc zb rv,za (some ⟨g3,0,none⟩) q c3] rfl rfl (zf9 _ _ _ _ _ rfl) (by simp[zr]) (by omega) (by omega) (by have:=za2 Q4.X.a;simp;omega) ?_;intro v' w4 ho hg hbk hn;rcases own_kinds ho with⟨_,e0⟩|⟨g4,c4,e4,-,-⟩
    ·omega
    subst e4;have Q5:Hid _:=QB.X.more HQ.X HSK.X OB.X hg ho;have X4:=QB.X.moreO hg;have kS4:(fun W=>W.cell? ⟨w.heap.size,0,none⟩=some (za (some ⟨b,off,none⟩) n rc)/\W.cell? ⟨kb,0,none⟩=some rs/\W.cell? ⟨b,off+k*2,none⟩=some (zc zb rv)/\W.cell? ⟨b,off+k*2+1,none⟩=some (za (some ⟨b',off',none⟩) q rcc)) w4:=⟨X4.1,(za1 X4.2.1).1,HRC.X _ X4.2.2⟩;obtain⟨x4,y4⟩:=za1 X4.2.1;have xf:=fun i=>yU _ _ i _ _ X4.2.1;clear ho hg hbk hn X4;refine hK.out _ _ ?_ (fun hHeld=> ?_)
    ·exact kS4
    clear hK K;change zk8 _ _ _ _ _ _ _ _ (zi _ (some 35) _) _;simp only[zi,xB,zL,xC];refine tkZ 19 hHeld ?_;refine zb7 (rs:=[20]) (by kernel_rfl) (by simp) ?_;refine zb1.last rfl (fun K hK=> ?_);go_simp;refine hK.out _ _ ?_;clear hK K;refine zh0 (by kernel_rfl) ?_ _;clear hHeld xf x4 y4 kS4 x0 x1 xa0 xa1 kSb kS3 kSa oa0 oa1 o0 o1 QB OB Q4 O4 QA Q1 I1;generalize w4.setCell ⟨kb,0,none⟩ (za (some ⟨g4,0,none⟩) (k+1) c4)=W5 at*;go_wp2;go_roundw
    case rel=>
     refine⟨k+1,_,_,by omega,by first|rfl|go_num,?_,Q5.X⟩;rw[HTK.X,xX,xX,HKY.X];rfl
    case measure=>simp[intOf];omega
    -- NOIGER
   ·have hkI:¬((k:Int)<(n:Int)):=by omega
    have hke:k=n:=by omega
    obtain⟨a0,a1⟩:=za1 Q3.X.a;have af:=fun i=>yU _ _ i _ _ Q3.X.a;obtain⟨o0,o1⟩:=za1 Q3.X.o;have HKE:Hid (S.map RT.key=R.map RT.key):=by
     show _=_;rw[HKY.X,hke,<-HN.X,yc]
    have hSn:S.length=n:=by rw[HSK.X];exact hke
    obtain⟨ga,ca,e⟩:∃ga ca,rs=za ga n ca:=by
     rcases Q3.X.q.rv with⟨e,h0⟩|⟨g,c,e,_,_⟩
     ·exact⟨none,0,by rw[e,<-hSn,h0]⟩
     ·exact⟨_,c,by rw[e,hSn]⟩
    subst e;clear hke hSn HSK HKY;go_wp2;refine yX (v:=.agg #[za ga n ca,za (some ⟨gl,0,none⟩) m cl]) (by simp[results,Tryz.results40,go_sem,a0,a1]) rfl ⟨ga,ca,gl,cl,S,by rw[HN.X,HM.X],?_,HKE.X,?_⟩
    ·repeat(first|with_reducible exact Q3.X.b|refine xd ?_ (by simp<;>omega) _)
    ·rw[HN.X,HM.X]
     repeat(first|with_reducible exact Q3.X.q|refine PO.set ?_ (by omega))
theorem zp9(ra:Option Addr)(bl ol rc lc:Nat)(R:List RT)(L:List Int)(w:zg)(hR:za9 w ra R)(hL:za3 w (some ⟨bl,ol,none⟩) L)(hn:R.length<=500)(hi:∀r∈R,r.ids≠[]/\r.ids.length<=500)(hl:L.length<=500):
 Calls ze 40 #[.agg #[za ra R.length rc,za (some ⟨bl,ol,none⟩) L.length lc]] w (yz6 w R L):=zz4 ra _ rc lc R L w hR hL (.inr ⟨_,_,rfl⟩) hn hi hl
structure SQ(w W:zg)(kb:Nat)(p0 p1 r0 r1 rs ls:Value)(oo:List RT)(L:List Int):Prop where
 b:Below w.heap.size w W
 p:W.heap[w.heap.size]? =some (zd #[p0,p1] 33 (0,0))
 x:W.heap[w.heap.size+1]? =some (zd #[r0,r1] 80 (0,0))
 a:W.heap[w.heap.size+2]? =some (zd #[za none 0 0,za none 0 0] 33 (0,0))
 o:W.heap[kb]? =some (zd #[rs,ls] 33 (0,0))
 k:w.heap.size+2<kb
 r:W.ownsRow (w.heap.size+3) 80 2 rs oo.length (zg5 oo)
 l:W.ownsRow (w.heap.size+3) 2 1 ls L.length (L.map (zc zb))
theorem SQ.below{w W W':zg}{kb:Nat}{p0 p1 r0 r1 rs ls:Value}{o:List RT}{L:List Int}(h:SQ w W kb p0 p1 r0 r1 rs ls o L)(hb:Below W.heap.size W W'):SQ w W' kb p0 p1 r0 r1 rs ls o L:=
 ⟨h.b.trans (hb.mono h.b.size),za0 hb (za2 h.p) h.p,za0 hb (za2 h.x) h.x,za0 hb (za2 h.a) h.a,za0 hb (za2 h.o) h.o,h.k,zc5 h.r hb,zc5 h.l hb⟩
theorem SQ.np{w W:zg}{kb:Nat}{p0 p1 r0 r1 rs ls:Value}{o:List RT}{L:List Int}(h:SQ w W kb p0 p1 r0 r1 rs ls o L):∀j cs,W.heap[j]? =some (.cells cs 33 (0,0))->some j≠rs.ownBlock:=fun j cs hj e=>zl5 h.r hj (by decide) e.symm
theorem SQ.nx{w W:zg}{kb:Nat}{p0 p1 r0 r1 rs ls:Value}{o:List RT}{L:List Int}(h:SQ w W kb p0 p1 r0 r1 rs ls o L):some (w.heap.size+1)≠rs.ownBlock:=fun e=>by
 have:=(h.r.lt _ e.symm).1;omega
theorem SQ.moreO{w W w4:zg}{kb:Nat}{p0 p1 r0 r1 rs ls:Value}{o:List RT}{L:List Int}(h:SQ w W kb p0 p1 r0 r1 rs ls o L)(hg:W.grownBy w4 rs.ownBlock):w4.cell? ⟨w.heap.size,0,none⟩=some p0/\w4.heap[kb]? =some (zd #[rs,ls] 33 (0,0))/\Below w.heap.size w w4:=
 ⟨(za1 (zb9 hg h.p (h.np _ _ h.p))).1,zb9 hg h.o (h.np _ _ h.o),h.b.grown hg h.b.size (fun j e=>by have:=(h.r.lt j e).1;omega)⟩
theorem SQ.more{w W w4:zg}{kb k q:Nat}{p0 p1 r0 r1 rs ls v':Value}{o:List RT}{L:List Int}(x:RT)(h:SQ w W kb p0 p1 r0 r1 rs ls o L)(hq:x.ids.length=q)(hk:o.length=k)(hg:W.grownBy w4 rs.ownBlock)(ho:w4.ownsRow (w.heap.size+3) 80 2 v' (k+1) (zg5 o++[zc zb x.v,za x.a q x.c])):SQ w (w4.setCell ⟨kb,0,none⟩ v') kb p0 p1 r0 r1 v' ls (o++[x]) L:=by
 subst hq hk;have hb4:Below w.heap.size w w4:=h.b.grown hg h.b.size (fun j e=>by have:=(h.r.lt j e).1;omega);have hk5:=h.k;have ho4:=zb9 hg h.o (h.np _ _ h.o);have s1:=zP w4 kb 0 _ _ v' ho4;have hro:zk w4 (w.heap.size+3) 80 2 v' (o++[x]).length (zg5 (o++[x])):=by
  rw[xU,zk1,show zg5 [x]=zq8 x by simp[zg5]];exact ho
 have hl4:zk w4 (w.heap.size+3) 2 1 ls L.length (L.map (zc zb)):=by
  refine h.l.kept hg ?_;rcases own_kinds h.r with⟨e,_⟩|⟨g,c,e,_,hg2⟩
  ·cases hb:ls.ownBlock with
   |none=>exact .inl rfl
   |some q=>exact .inr (by rw[e];simp[zm])
  ·refine .inr fun e2=> ?_
   have hrow:∃cs,W.heap[g]? =some (.cells cs 80 (0,0)):=by
    have h2:=h.r;rw[e]at h2;obtain⟨_,⟨h3,_⟩|⟨g',cap,cur,h3,_,h4,_⟩⟩:=h2
    ·cases h3
    ·simp only[xW,xV,xZ]at h3
     exact⟨cur,by rw[h3.1.1];exact h4⟩
   obtain⟨cs,hcs⟩:=hrow;rw[e]at e2;exact zl5 h.l hcs (by decide) e2
 refine⟨hb4.setCell (by simp;omega) _,?_,?_,?_,by simpa using s1,hk5,x8 hro (zl5 hro ho4 (T:=33) (by decide)) _,x8 hl4 (zl5 hl4 ho4 (T:=33) (by decide)) _⟩
 ·rw[xg _ _ _ _ (by simp;omega)];exact zb9 hg h.p (h.np _ _ h.p)
 ·rw[xg _ _ _ _ (by simp;omega)];exact zb9 hg h.x h.nx
 ·rw[xg _ _ _ _ (by simp;omega)];exact zb9 hg h.a (h.np _ _ h.a)
theorem SQ.at{w W:zg}{kb n c:Nat}{ra a:Option Addr}{rc:Nat}{p1 r0 r1 ls:Value}{o R:List RT}{r:RT}{L:List Int}(h:SQ w W kb (za ra n rc) p1 r0 r1 (za a o.length c) ls o L)(hR:za9 w ra R)(hr:za3 w r.a r.ids)(hm:∀x∈o,x∈R∨x=r):za9 W a o:=fun j hj=>by
 rcases own_kinds h.r with⟨_,h0⟩|⟨g,c,e,_,_⟩
 ·omega
 ·simp only[xW]at e
  obtain⟨rfl,_,rfl⟩:=e;obtain⟨q1,q2⟩:=zp0 o j hj;have c1:=(zd5 h.r q1).1;have c2:=(zd5 h.r q2).1;have hmem:o.getD j rt0∈o:=by rw[zM,zO hj];simp
  refine⟨g,0,rfl,by rw[z6];exact c1,by rw[z6];exact c2,?_⟩;rcases hm _ hmem with hx|hx
  ·obtain⟨i,hi,e⟩:=xK hx
   obtain⟨_,_,_,_,_,hi3⟩:=hR i hi;have:R.getD i rt0=o.getD j rt0:=by rw[zM,zO hi];simpa using e
   rw[this]at hi3;exact hi3.below h.b
  ·rw[hx]
   exact hr.below h.b
def yK9(w:zg)(R:List RT)(r:RT)(L:List Int)(e:Ending)(w':zg):Prop:=∃ra rc gl lc S,e=.returned (.agg #[za ra S.length rc,za (some ⟨gl,0,none⟩) L.length lc])/\Below w.heap.size w w'/\S.map RT.key=(zK9 R r).map RT.key/\PO w' w.heap.size (za ra S.length rc) S (za (some ⟨gl,0,none⟩) L.length lc) L
theorem yF5{R:List RT}{r:RT}{k:Nat}{o o':List RT}{d d':Bool}(h:setTo R r k=(o,d))(hk:k<R.length)(hs:zP6 r (o,d) (R.getD k rt0)=(o',d')):setTo R r (k+1)=(o',d'):=by rw[zL0 r hk,h,hs]
theorem z41(ra:Option Addr)(bl ol rc lc br or cr:Nat)(R:List RT)(L:List Int)(rv:Int)(rids:List Int)(w:zg)(hR:za9 w ra R)(hL:za3 w (some ⟨bl,ol,none⟩) L)(hX:za3 w (some ⟨br,or,none⟩) rids)(hn:R.length<=400)(hi:∀r∈R,r.ids≠[]/\r.ids.length<=500)(hl:L.length<=500)(hr:rids≠[]/\rids.length<=500):
 Calls ze 72 #[.agg #[za ra R.length rc,za (some ⟨bl,ol,none⟩) L.length lc],.agg #[zc zb rv,za (some ⟨br,or,none⟩) rids.length cr]] w (yK9 w R ⟨rv,some ⟨br,or,none⟩,rids,cr⟩ L):=by
 have HR:=za4 hR;have HL:=za4 hL;have HX:=za4 hX;have HI:Hid _:=hi;have HRI:Hid _:=hr;clear hR hL hX hi hr;obtain⟨n,HN⟩:=nmd R.length;obtain⟨m,HM⟩:=nmd L.length;have hq0:=xL.2 HRI.1;have hq5:=HRI.2;obtain⟨r,HRR⟩:∃r:RT,Hid ((⟨rv,some ⟨br,or,none⟩,rids,cr⟩:RT)=r):=⟨_,rfl⟩;rw[HRR.X];obtain⟨q,HQ⟩:=nmd rids.length;rw[HN.X]at hn⊢;rw[HM.X]at hl⊢;rw[HQ.X]at hq0 hq5⊢;have hqI:¬((q:Int)=0):=by omega
 have hqb:((q:Int)==0)=false:=by simp;omega
 have B1:Hid (Below w.heap.size w ((((w.alloc (zd #[za ra n rc,za (some ⟨bl,ol,none⟩) m lc] 33)).alloc (zd #[zc zb rv,za (some ⟨br,or,none⟩) q cr] 80)).alloc (zd #[za none 0 0,za none 0 0] 33)).alloc (zd #[] 2))):=(((zK _).alloc (by simp) _).alloc (by simp;omega) _).alloc (by simp;omega) _;have P1:Hid (((((w.alloc (zd #[za ra n rc,za (some ⟨bl,ol,none⟩) m lc] 33)).alloc (zd #[zc zb rv,za (some ⟨br,or,none⟩) q cr] 80)).alloc (zd #[za none 0 0,za none 0 0] 33)).alloc (zd #[] 2)).heap[w.heap.size]? =some (zd #[za ra n rc,za (some ⟨bl,ol,none⟩) m lc] 33 (0,0))):=(yY _ _ (by simp;omega)).trans ((yY _ _ (by simp;omega)).trans (xb _ _ _));have X1:Hid (((((w.alloc (zd #[za ra n rc,za (some ⟨bl,ol,none⟩) m lc] 33)).alloc (zd #[zc zb rv,za (some ⟨br,or,none⟩) q cr] 80)).alloc (zd #[za none 0 0,za none 0 0] 33)).alloc (zd #[] 2)).heap[w.heap.size+1]? =some (zd #[zc zb rv,za (some ⟨br,or,none⟩) q cr] 80 (0,0))):=(yY _ _ (by simp)).trans ((yY _ _ (by simp)).trans (y8 _ _ _));have A1:Hid (((((w.alloc (zd #[za ra n rc,za (some ⟨bl,ol,none⟩) m lc] 33)).alloc (zd #[zc zb rv,za (some ⟨br,or,none⟩) q cr] 80)).alloc (zd #[za none 0 0,za none 0 0] 33)).alloc (zd #[] 2)).heap[w.heap.size+2]? =some (zd #[za none 0 0,za none 0 0] 33 (0,0))):=(yY _ _ (by simp)).trans (by
  have:=zN ((w.alloc (zd #[za ra n rc,za (some ⟨bl,ol,none⟩) m lc] 33)).alloc (zd #[zc zb rv,za (some ⟨br,or,none⟩) q cr] 80)) (zd #[za none 0 0,za none 0 0] 33);simpa using this)
 have O1:Hid (((((w.alloc (zd #[za ra n rc,za (some ⟨bl,ol,none⟩) m lc] 33)).alloc (zd #[zc zb rv,za (some ⟨br,or,none⟩) q cr] 80)).alloc (zd #[za none 0 0,za none 0 0] 33)).alloc (zd #[] 2)).ownsRow (w.heap.size+3) 2 1 (za (some ⟨w.heap.size+1+1+1,0,none⟩) 0 0) 0 (([]:List Int).map (zc zb))):=by
  have:=qa (((w.alloc (zd #[za ra n rc,za (some ⟨bl,ol,none⟩) m lc] 33)).alloc (zd #[zc zb rv,za (some ⟨br,or,none⟩) q cr] 80)).alloc (zd #[za none 0 0,za none 0 0] 33)) #[] 0 (base:=w.heap.size+3) (e:=2) (size:=1) (by simp) (by unfold maxLen;omega) (by simp);show zk _ _ _ _ _ _ _;simpa using this
 obtain⟨p0,p1⟩:=za1 P1.X;obtain⟨x0,x1⟩:=za1 X1.X;go_enter Tryz.func72,Tryz.ntmps72
 go_wp2_with(first
  |(at_builtin
    go_must(refine zc9 _ rfl (.tmp 8) (.tmp 10) rfl (w.heap.size+3) _ 0 [] rfl O1.X bl ol m lc L rfl HM.X (HL.below B1.X) (by omega) (by omega) (by simp) ?_)
    go_must(
     intro lv w2 hown hg hbk hnl;have hsz:=B1.size;have hge:∀k,(za (some ⟨w.heap.size+1+1+1,0,none⟩) 0 0).ownBlock=some k->w.heap.size+3<=k:=fun k e=>by have:=z45 e;omega
     have Q2:Hid (SQ w (w2.alloc (zd #[za none 0 0,lv] 33)) w2.heap.size (za ra n rc) (za (some ⟨bl,ol,none⟩) m lc) (zc zb rv) (za (some ⟨br,or,none⟩) q cr) (za none 0 0) lv [] L):=by
      have hb2:Below w.heap.size w w2:=B1.grown hg B1.size (fun k e=>by have:=hge k e;omega);have ha:Below w2.heap.size w2 (w2.alloc (zd #[za none 0 0,lv] 33)):=zK _;have hp2:=zb9 hg P1.X (fun e=>by have:=hge _ e.symm;omega);have hx2:=zb9 hg X1.X (fun e=>by have:=hge _ e.symm;omega);have ha2:=zb9 hg A1.X (fun e=>by have:=hge _ e.symm;omega);refine⟨hb2.trans (ha.mono hb2.size),za0 ha (za2 hp2) hp2,za0 ha (za2 hx2) hx2,za0 ha (za2 ha2) ha2,zN _ _,za2 ha2,qQ _ _ _ _,?_⟩;rw[z6,yo]at hown;rw[HM.X];exact hown.alloc _
     obtain⟨gl,cl,e⟩:=zq9 hown (zn9 hnl ⟨_,_,_,rfl⟩);rw[z6]at e;subst e;obtain⟨x0,x1⟩:=za1 Q2.x)
    clear hown hg hbk hnl hsz hge))
 clear p0 p1 x0 x1;obtain⟨kb,HKB⟩:=nmd w2.heap.size;rw[HKB.X]at Q2⊢;generalize w2.alloc (zd #[za none 0 0,za (some ⟨gl,0,none⟩) m cl] 33)=W2 at*;go_loopw[6,7] (fun td t wr=>∃(k:Nat) (rs:Value) (o:List RT) (d:Bool),k<=n/\t=zc zb k/\td=.bool d/\setTo R r k=(o,d)/\SQ w wr kb (za ra n rc) (za (some ⟨bl,ol,none⟩) m lc) (zc zb rv) (za (some ⟨br,or,none⟩) q cr) rs (za (some ⟨gl,0,none⟩) m cl) o L) (fun _ t _=>n - (intOf t).toNat)
 case atStart=>exact⟨0,za none 0 0,[],false,yZ _,rfl,rfl,z84 _ _,Q2.X⟩
 case round=>
  clear Q2 B1 P1 X1 A1 O1;obtain⟨k,rs,o,d,hk,rfl,rfl,hst,hQ⟩:=hrel;have Q3:Hid _:=hQ;have HST:Hid _:=hst;have HOL:Hid ((∀x∈o,x∈R∨x=r)/\o.length<=k+1):=by
   have:=z16 R r k (by rw[HN.X];exact hk);rw[hst]at this;exact⟨this.1,y7 this.2 (by simp only;split<;>omega)⟩
  clear hQ hst;obtain⟨ko,HKO⟩:=nmd o.length;have hko:ko<=k+1:=by rw[<-HKO.X];exact HOL.2
  obtain⟨p0,p1⟩:=za1 Q3.p;obtain⟨x0,x1⟩:=za1 Q3.x;by_cases hlt:k<n
  ·have hkI:(k:Int)<(n:Int):=by omega
   have hkR:k<R.length:=by rw[HN.X];exact hlt
   obtain⟨b,off,e,r1,r2,-⟩:=(HR.below Q3.b) k hkR;have HRC:Hid (∀W,Below w.heap.size w W->W.cell? ⟨b,off+k*2,none⟩=some (zc zb (R.getD k rt0).v)/\W.cell? ⟨b,off+k*2+1,none⟩=some (.slice (R.getD k rt0).a (R.getD k rt0).ids.length (R.getD k rt0).c)):=fun W hW=>by
    obtain⟨b2,off2,e2,q1,q2,_⟩:=(HR.below hW) k hkR;rw[e]at e2;simp only[xV,xZ,qb]at e2;obtain⟨rfl,rfl⟩:=e2;exact⟨q1,q2⟩
   have HGO:Hid (∀o' d',zP6 r (o,d) (R.getD k rt0)=(o',d')->setTo R r (k+1)=(o',d')):=fun o' d' h=>yF5 HST.X hkR h;subst e;generalize R.getD k rt0=x at*;obtain⟨xv,xa,xids,xc⟩:=x;simp only at r1 r2 HRC;obtain⟨y,HY⟩:=nmd xids.length;simp only[HY.X]at r2 HRC;have hrV:Hid (r.v=rv):=by rw[<-HRR.X];rfl
   cases d
   ·by_cases h1:xv<rv
    ·skip
     have HNX:Hid _:=HGO.X _ _ (yA1 (by rw[hrV.X];simp only;omega));have g1:decide (rv<=xv)=false:=by simp;omega
     have g2:(xv !=rv)=true:=by simp;omega
     have HKO2:Hid (o.length=ko):=by show _=_;exact HKO.X
     clear HST HGO;clear h1
     go_wp2_with fail
     go_quiet (fail)
     have Q8:Hid _:=Q3.below (xp (yV _ _) nq);clear Q3 p0 p1 x0 x1 r1 r2;generalize wr.drewN nq=W8 at*;obtain⟨p0,p1⟩:=za1 Q8.p;obtain⟨x0,x1⟩:=za1 Q8.x;obtain⟨r1,r2⟩:=HRC.X _ Q8.b
     go_wp2_with fail
     go_quiet (fail)
     have Q9:Hid _:=Q8.below (xp (yV _ _) nq);clear Q8 p0 p1 x0 x1 r1 r2;generalize W8.drewN nq=W9 at*;obtain⟨p0,p1⟩:=za1 Q9.p;obtain⟨x0,x1⟩:=za1 Q9.x;obtain⟨r1,r2⟩:=HRC.X _ Q9.b;have kS:=xe (za1 Q9.o).1 (xe p0 (xe r1 r2))
     go_wp2_with fail
     refine ze1 (S:=(fun W=>W.cell? ⟨kb,0,none⟩=some rs/\W.cell? ⟨w.heap.size,0,none⟩=some (za (some ⟨b,off,none⟩) n rc)/\W.cell? ⟨b,off+k*2,none⟩=some (zc zb xv)/\W.cell? ⟨b,off+k*2+1,none⟩=some (za xa y xc))) 10 (by kernel_rfl) ?_ (fun hHeld=> ?_)
     ·exact kS
     have Q1:Hid _:=Q9.below (yV _ _).drew;clear Q9 p0 p1 r1 r2 x0 x1 kS;generalize W9.drew=W1 at*;have QA:Hid (SQ w (W1.alloc (zd #[zc zb xv,za xa y xc] 80)) kb (za (some ⟨b,off,none⟩) n rc) (za (some ⟨bl,ol,none⟩) m lc) (zc zb rv) (za (some ⟨br,or,none⟩) q cr) rs (za (some ⟨gl,0,none⟩) m cl) o L):=Q1.below (zK _);obtain⟨o0,o1⟩:=za1 Q1.o;obtain⟨oa0,oa1⟩:=za1 QA.o;have kSa:(fun W=>W.cell? ⟨kb,0,none⟩=some rs/\W.cell? ⟨w.heap.size,0,none⟩=some (za (some ⟨b,off,none⟩) n rc)/\W.cell? ⟨b,off+k*2,none⟩=some (zc zb xv)/\W.cell? ⟨b,off+k*2+1,none⟩=some (za xa y xc)) (W1.alloc (zd #[zc zb xv,za xa y xc] 80)):=⟨oa0,(za1 QA.p).1,HRC.X _ QA.b⟩;refine tkZ 0 hHeld ?_;refine tkZ 1 hHeld ?_;refine tkZ 2 hHeld ?_;refine tkZ 3 hHeld ?_;refine tkZ 4 hHeld ?_;refine tkZ 5 hHeld ?_;refine tkZ 6 hHeld ?_;refine zb7 (rs:=[7]) (by kernel_rfl) (by simp) ?_;refine zb1.cons rfl (fun K hK=> ?_) zb1.nil;go_simp;refine hK.out _ _ ?_ (fun hHeld=> ?_)
     ·exact kSa
     clear hK K;refine zb7 (rs:=[8]) (by kernel_rfl) (by simp) ?_;refine zb1.cons rfl (fun K hK=> ?_) zb1.nil;refine zd8 xI zp2 (by rfl) (by omega) rfl (.tmp 53) (.tmp 59) rfl (w.heap.size+3) rs (ko) (zg5 o) rfl (by have:=QA.r;rw[HKO2.X]at this;exact this) W1.heap.size 0 1 1 [zc zb xv,za xa y xc] rfl rfl (zf9 _ _ _ _ _ rfl) (by simp[zr]) (by omega) (by omega) (by have:=za2 Q1.a;simp;omega) ?_;intro v' w4 ho hg hbk hn4;rcases own_kinds ho with⟨_,e0⟩|⟨g4,c4,e4,-,-⟩
     ·omega
     subst e4;have Q5:Hid _:=QA.more ⟨xv,xa,xids,xc⟩ HY.X HKO2.X hg ho;have X4:=QA.moreO hg;have kS4:(fun W=>W.cell? ⟨kb,0,none⟩=some rs/\W.cell? ⟨w.heap.size,0,none⟩=some (za (some ⟨b,off,none⟩) n rc)/\W.cell? ⟨b,off+k*2,none⟩=some (zc zb xv)/\W.cell? ⟨b,off+k*2+1,none⟩=some (za xa y xc)) w4:=⟨(za1 X4.2.1).1,X4.1,HRC.X _ X4.2.2⟩;obtain⟨x4,y4⟩:=za1 X4.2.1;have xf:=fun i=>yU _ _ i _ _ X4.2.1;clear ho hg hbk hn4 X4;refine hK.out _ _ ?_ (fun hHeld=> ?_)
     ·exact kS4
     clear hK K;change zk8 _ _ _ _ _ _ _ _ (zi _ (some 60) _) _;simp only[zi,xB,zL,xC];refine tkZ 9 hHeld ?_;refine zb7 (rs:=[10]) (by kernel_rfl) (by simp) ?_;refine zb1.last rfl (fun K hK=> ?_);go_simp;refine hK.out _ _ ?_;clear hK K;refine zh0 (by kernel_rfl) ?_ _;clear hHeld xf x4 y4 kS4 kSa oa0 oa1 o0 o1 QA Q1;generalize w4.setCell ⟨kb,0,none⟩ (za (some ⟨g4,0,none⟩) (ko+1) c4)=W5 at*;go_wp2;go_roundw
     case rel=>exact⟨k+1,_,_,_,by omega,by first|rfl|go_num,rfl,HNX.X,Q5.X⟩
     case measure=>simp[intOf];omega
    ·by_cases h2:xv=rv
     ·skip
      have HNX:Hid _:=HGO.X _ _ (y91 (by rw[hrV.X];simp only;omega));have g1:decide (rv<=xv)=true:=by simp;omega
      have g2:(xv !=rv)=false:=by simp;omega
      have HKO2:Hid ((o++[r]).length=(ko+1)):=by show _=_;rw[xU,HKO.X];rfl
      clear HST HGO;clear h1;clear h2
      go_wp2_with fail
      go_quiet (fail)
      have Q8:Hid _:=Q3.below (xp (yV _ _) nq);clear Q3 p0 p1 x0 x1 r1 r2;generalize wr.drewN nq=W8 at*;obtain⟨p0,p1⟩:=za1 Q8.p;obtain⟨x0,x1⟩:=za1 Q8.x;obtain⟨r1,r2⟩:=HRC.X _ Q8.b;obtain⟨o0,o1⟩:=za1 Q8.o;have of:=fun i=>yU _ _ i _ _ Q8.o
      go_wp2_with(first
       |(at_builtin
         go_must(refine zl3 xI zp2 (by rfl) (by omega) _ rfl (.tmp 38) (.tmp 40) rfl (w.heap.size+3) rs ko (zg5 o) rfl (by have:=(Q8.below (zK (zd #[zc zb rv,za (some ⟨br,or,none⟩) q cr] 80))).r;rw[HKO.X]at this;exact this) W8.heap.size 0 1 1 [zc zb rv,za (some ⟨br,or,none⟩) q cr] rfl rfl (zf9 _ _ _ _ _ rfl) (by simp[zr]) (by omega) (by omega) (by have:=za2 Q8.a;simp;omega) ?_)
         intro v' w6 ho hg hbk hn6;rcases own_kinds ho with⟨_,e0⟩|⟨g6,c6,e6,-,-⟩
         ·omega
         subst e6;have QA:SQ w (W8.alloc (zd #[zc zb rv,za (some ⟨br,or,none⟩) q cr] 80)) kb (za (some ⟨b,off,none⟩) n rc) (za (some ⟨bl,ol,none⟩) m lc) (zc zb rv) (za (some ⟨br,or,none⟩) q cr) rs (za (some ⟨gl,0,none⟩) m cl) o L:=Q8.below (zK _);have Q6:Hid (SQ w (w6.setCell ⟨kb,0,none⟩ (za (some ⟨g6,0,none⟩) (ko+1) c6)) kb (za (some ⟨b,off,none⟩) n rc) (za (some ⟨bl,ol,none⟩) m lc) (zc zb rv) (za (some ⟨br,or,none⟩) q cr) (za (some ⟨g6,0,none⟩) (ko+1) c6) (za (some ⟨gl,0,none⟩) m cl) (o++[r]) L):=by
          rw[<-HRR.X];exact QA.more ⟨rv,some ⟨br,or,none⟩,rids,cr⟩ HQ.X HKO.X hg ho
         have X4:=QA.moreO hg;obtain⟨x4,y4⟩:=za1 X4.2.1;have xf:=fun i=>yU _ _ i _ _ X4.2.1;clear ho hg hbk hn6 X4 QA))
      clear x4 y4 xf o0 o1 of Q8 p0 p1 x0 x1 r1 r2;generalize w6.setCell ⟨kb,0,none⟩ (za (some ⟨g6,0,none⟩) (ko+1) c6)=W7 at*;obtain⟨p0,p1⟩:=za1 Q6.p;obtain⟨x0,x1⟩:=za1 Q6.x;obtain⟨r1,r2⟩:=HRC.X _ Q6.b
      go_wp2_with fail
      go_quiet (fail)
      have Q9:Hid _:=Q6.below (xp (yV _ _) nq);clear Q6 p0 p1 x0 x1 r1 r2;generalize W7.drewN nq=W9 at*;obtain⟨p0,p1⟩:=za1 Q9.p;obtain⟨x0,x1⟩:=za1 Q9.x;obtain⟨r1,r2⟩:=HRC.X _ Q9.b;go_wp2;go_roundw
      case rel=>exact⟨k+1,_,_,_,by omega,by first|rfl|go_num,rfl,HNX.X,Q9.X⟩
      case measure=>simp[intOf];omega
     ·skip
      have HNX:Hid _:=HGO.X _ _ (y94 (by rw[hrV.X];simp only;omega));have g1:decide (rv<=xv)=true:=by simp;omega
      have g2:(xv !=rv)=true:=by simp;omega
      have HKO2:Hid ((o++[r]).length=(ko+1)):=by show _=_;rw[xU,HKO.X];rfl
      clear HST HGO;clear h1;clear h2
      go_wp2_with fail
      go_quiet (fail)
      have Q8:Hid _:=Q3.below (xp (yV _ _) nq);clear Q3 p0 p1 x0 x1 r1 r2;generalize wr.drewN nq=W8 at*;obtain⟨p0,p1⟩:=za1 Q8.p;obtain⟨x0,x1⟩:=za1 Q8.x;obtain⟨r1,r2⟩:=HRC.X _ Q8.b;obtain⟨o0,o1⟩:=za1 Q8.o;have of:=fun i=>yU _ _ i _ _ Q8.o
      go_wp2_with(first
       |(at_builtin
         go_must(refine zl3 xI zp2 (by rfl) (by omega) _ rfl (.tmp 38) (.tmp 40) rfl (w.heap.size+3) rs ko (zg5 o) rfl (by have:=(Q8.below (zK (zd #[zc zb rv,za (some ⟨br,or,none⟩) q cr] 80))).r;rw[HKO.X]at this;exact this) W8.heap.size 0 1 1 [zc zb rv,za (some ⟨br,or,none⟩) q cr] rfl rfl (zf9 _ _ _ _ _ rfl) (by simp[zr]) (by omega) (by omega) (by have:=za2 Q8.a;simp;omega) ?_)
         intro v' w6 ho hg hbk hn6;rcases own_kinds ho with⟨_,e0⟩|⟨g6,c6,e6,-,-⟩
         ·omega
         subst e6;have QA:SQ w (W8.alloc (zd #[zc zb rv,za (some ⟨br,or,none⟩) q cr] 80)) kb (za (some ⟨b,off,none⟩) n rc) (za (some ⟨bl,ol,none⟩) m lc) (zc zb rv) (za (some ⟨br,or,none⟩) q cr) rs (za (some ⟨gl,0,none⟩) m cl) o L:=Q8.below (zK _);have Q6:Hid (SQ w (w6.setCell ⟨kb,0,none⟩ (za (some ⟨g6,0,none⟩) (ko+1) c6)) kb (za (some ⟨b,off,none⟩) n rc) (za (some ⟨bl,ol,none⟩) m lc) (zc zb rv) (za (some ⟨br,or,none⟩) q cr) (za (some ⟨g6,0,none⟩) (ko+1) c6) (za (some ⟨gl,0,none⟩) m cl) (o++[r]) L):=by
          rw[<-HRR.X];exact QA.more ⟨rv,some ⟨br,or,none⟩,rids,cr⟩ HQ.X HKO.X hg ho
         have X4:=QA.moreO hg;obtain⟨x4,y4⟩:=za1 X4.2.1;have xf:=fun i=>yU _ _ i _ _ X4.2.1;clear ho hg hbk hn6 X4 QA))
      clear x4 y4 xf o0 o1 of Q8 p0 p1 x0 x1 r1 r2;generalize w6.setCell ⟨kb,0,none⟩ (za (some ⟨g6,0,none⟩) (ko+1) c6)=W7 at*;obtain⟨p0,p1⟩:=za1 Q6.p;obtain⟨x0,x1⟩:=za1 Q6.x;obtain⟨r1,r2⟩:=HRC.X _ Q6.b
      go_wp2_with fail
      go_quiet (fail)
      have Q9:Hid _:=Q6.below (xp (yV _ _) nq);clear Q6 p0 p1 x0 x1 r1 r2;generalize W7.drewN nq=W9 at*;obtain⟨p0,p1⟩:=za1 Q9.p;obtain⟨x0,x1⟩:=za1 Q9.x;obtain⟨r1,r2⟩:=HRC.X _ Q9.b;have kS:=xe (za1 Q9.o).1 (xe p0 (xe r1 r2))
      go_wp2_with fail
      refine ze1 (S:=(fun W=>W.cell? ⟨kb,0,none⟩=some (za (some ⟨g6,0,none⟩) (ko+1) c6)/\W.cell? ⟨w.heap.size,0,none⟩=some (za (some ⟨b,off,none⟩) n rc)/\W.cell? ⟨b,off+k*2,none⟩=some (zc zb xv)/\W.cell? ⟨b,off+k*2+1,none⟩=some (za xa y xc))) 10 (by kernel_rfl) ?_ (fun hHeld=> ?_)
      ·exact kS
      have Q1:Hid _:=Q9.below (yV _ _).drew;clear Q9 p0 p1 r1 r2 x0 x1 kS;generalize W9.drew=W1 at*;have QA:Hid (SQ w (W1.alloc (zd #[zc zb xv,za xa y xc] 80)) kb (za (some ⟨b,off,none⟩) n rc) (za (some ⟨bl,ol,none⟩) m lc) (zc zb rv) (za (some ⟨br,or,none⟩) q cr) (za (some ⟨g6,0,none⟩) (ko+1) c6) (za (some ⟨gl,0,none⟩) m cl) (o++[r]) L):=Q1.below (zK _);obtain⟨o0,o1⟩:=za1 Q1.o;obtain⟨oa0,oa1⟩:=za1 QA.o;have kSa:(fun W=>W.cell? ⟨kb,0,none⟩=some (za (some ⟨g6,0,none⟩) (ko+1) c6)/\W.cell? ⟨w.heap.size,0,none⟩=some (za (some ⟨b,off,none⟩) n rc)/\W.cell? ⟨b,off+k*2,none⟩=some (zc zb xv)/\W.cell? ⟨b,off+k*2+1,none⟩=some (za xa y xc)) (W1.alloc (zd #[zc zb xv,za xa y xc] 80)):=⟨oa0,(za1 QA.p).1,HRC.X _ QA.b⟩;refine tkZ 0 hHeld ?_;refine tkZ 1 hHeld ?_;refine tkZ 2 hHeld ?_;refine tkZ 3 hHeld ?_;refine tkZ 4 hHeld ?_;refine tkZ 5 hHeld ?_;refine tkZ 6 hHeld ?_;refine zb7 (rs:=[7]) (by kernel_rfl) (by simp) ?_;refine zb1.cons rfl (fun K hK=> ?_) zb1.nil;go_simp;refine hK.out _ _ ?_ (fun hHeld=> ?_)
      ·exact kSa
      clear hK K;refine zb7 (rs:=[8]) (by kernel_rfl) (by simp) ?_;refine zb1.cons rfl (fun K hK=> ?_) zb1.nil;refine zd8 xI zp2 (by rfl) (by omega) rfl (.tmp 53) (.tmp 59) rfl (w.heap.size+3) (za (some ⟨g6,0,none⟩) (ko+1) c6) ((ko+1)) (zg5 (o++[r])) rfl (by have:=QA.r;rw[HKO2.X]at this;exact this) W1.heap.size 0 1 1 [zc zb xv,za xa y xc] rfl rfl (zf9 _ _ _ _ _ rfl) (by simp[zr]) (by omega) (by omega) (by have:=za2 Q1.a;simp;omega) ?_;intro v' w4 ho hg hbk hn4;rcases own_kinds ho with⟨_,e0⟩|⟨g4,c4,e4,-,-⟩
      ·omega
      subst e4;have Q5:Hid _:=QA.more ⟨xv,xa,xids,xc⟩ HY.X HKO2.X hg ho;have X4:=QA.moreO hg;have kS4:(fun W=>W.cell? ⟨kb,0,none⟩=some (za (some ⟨g6,0,none⟩) (ko+1) c6)/\W.cell? ⟨w.heap.size,0,none⟩=some (za (some ⟨b,off,none⟩) n rc)/\W.cell? ⟨b,off+k*2,none⟩=some (zc zb xv)/\W.cell? ⟨b,off+k*2+1,none⟩=some (za xa y xc)) w4:=⟨(za1 X4.2.1).1,X4.1,HRC.X _ X4.2.2⟩;obtain⟨x4,y4⟩:=za1 X4.2.1;have xf:=fun i=>yU _ _ i _ _ X4.2.1;clear ho hg hbk hn4 X4;refine hK.out _ _ ?_ (fun hHeld=> ?_)
      ·exact kS4
      clear hK K;change zk8 _ _ _ _ _ _ _ _ (zi _ (some 60) _) _;simp only[zi,xB,zL,xC];refine tkZ 9 hHeld ?_;refine zb7 (rs:=[10]) (by kernel_rfl) (by simp) ?_;refine zb1.last rfl (fun K hK=> ?_);go_simp;refine hK.out _ _ ?_;clear hK K;refine zh0 (by kernel_rfl) ?_ _;clear hHeld xf x4 y4 kS4 kSa oa0 oa1 o0 o1 QA Q1;generalize w4.setCell ⟨kb,0,none⟩ (za (some ⟨g4,0,none⟩) ((ko+1)+1) c4)=W5 at*;go_wp2;go_roundw
      case rel=>exact⟨k+1,_,_,_,by omega,by first|rfl|go_num,rfl,HNX.X,Q5.X⟩
      case measure=>simp[intOf];omega
   ·by_cases h2:xv=rv
    ·skip
     have HNX:Hid _:=HGO.X _ _ (y74 (by rw[hrV.X];simp only;omega));have g2:(xv !=rv)=false:=by simp;omega
     have HKO2:Hid (o.length=ko):=by show _=_;exact HKO.X
     clear HST HGO;clear h2
     go_wp2_with fail
     go_quiet (fail)
     have Q8:Hid _:=Q3.below (xp (yV _ _) nq);clear Q3 p0 p1 x0 x1 r1 r2;generalize wr.drewN nq=W8 at*;obtain⟨p0,p1⟩:=za1 Q8.p;obtain⟨x0,x1⟩:=za1 Q8.x;obtain⟨r1,r2⟩:=HRC.X _ Q8.b
     go_wp2_with fail
     go_quiet (fail)
     have Q9:Hid _:=Q8.below (xp (yV _ _) nq);clear Q8 p0 p1 x0 x1 r1 r2;generalize W8.drewN nq=W9 at*;obtain⟨p0,p1⟩:=za1 Q9.p;obtain⟨x0,x1⟩:=za1 Q9.x;obtain⟨r1,r2⟩:=HRC.X _ Q9.b;go_wp2;go_roundw
     case rel=>exact⟨k+1,_,_,_,by omega,by first|rfl|go_num,rfl,HNX.X,Q9.X⟩
     case measure=>simp[intOf];omega
    ·skip
     have HNX:Hid _:=HGO.X _ _ (yA3 (by rw[hrV.X];simp only;omega));have g2:(xv !=rv)=true:=by simp;omega
     have HKO2:Hid (o.length=ko):=by show _=_;exact HKO.X
     clear HST HGO;clear h2
     go_wp2_with fail
     go_quiet (fail)
     have Q8:Hid _:=Q3.below (xp (yV _ _) nq);clear Q3 p0 p1 x0 x1 r1 r2;generalize wr.drewN nq=W8 at*;obtain⟨p0,p1⟩:=za1 Q8.p;obtain⟨x0,x1⟩:=za1 Q8.x;obtain⟨r1,r2⟩:=HRC.X _ Q8.b
     go_wp2_with fail
     go_quiet (fail)
     have Q9:Hid _:=Q8.below (xp (yV _ _) nq);clear Q8 p0 p1 x0 x1 r1 r2;generalize W8.drewN nq=W9 at*;obtain⟨p0,p1⟩:=za1 Q9.p;obtain⟨x0,x1⟩:=za1 Q9.x;obtain⟨r1,r2⟩:=HRC.X _ Q9.b;have kS:=xe (za1 Q9.o).1 (xe p0 (xe r1 r2))
     go_wp2_with fail
     refine ze1 (S:=(fun W=>W.cell? ⟨kb,0,none⟩=some rs/\W.cell? ⟨w.heap.size,0,none⟩=some (za (some ⟨b,off,none⟩) n rc)/\W.cell? ⟨b,off+k*2,none⟩=some (zc zb xv)/\W.cell? ⟨b,off+k*2+1,none⟩=some (za xa y xc))) 10 (by kernel_rfl) ?_ (fun hHeld=> ?_)
     ·exact kS
     have Q1:Hid _:=Q9.below (yV _ _).drew;clear Q9 p0 p1 r1 r2 x0 x1 kS;generalize W9.drew=W1 at*;have QA:Hid (SQ w (W1.alloc (zd #[zc zb xv,za xa y xc] 80)) kb (za (some ⟨b,off,none⟩) n rc) (za (some ⟨bl,ol,none⟩) m lc) (zc zb rv) (za (some ⟨br,or,none⟩) q cr) rs (za (some ⟨gl,0,none⟩) m cl) o L):=Q1.below (zK _);obtain⟨o0,o1⟩:=za1 Q1.o;obtain⟨oa0,oa1⟩:=za1 QA.o;have kSa:(fun W=>W.cell? ⟨kb,0,none⟩=some rs/\W.cell? ⟨w.heap.size,0,none⟩=some (za (some ⟨b,off,none⟩) n rc)/\W.cell? ⟨b,off+k*2,none⟩=some (zc zb xv)/\W.cell? ⟨b,off+k*2+1,none⟩=some (za xa y xc)) (W1.alloc (zd #[zc zb xv,za xa y xc] 80)):=⟨oa0,(za1 QA.p).1,HRC.X _ QA.b⟩;refine tkZ 0 hHeld ?_;refine tkZ 1 hHeld ?_;refine tkZ 2 hHeld ?_;refine tkZ 3 hHeld ?_;refine tkZ 4 hHeld ?_;refine tkZ 5 hHeld ?_;refine tkZ 6 hHeld ?_;refine zb7 (rs:=[7]) (by kernel_rfl) (by simp) ?_;refine zb1.cons rfl (fun K hK=> ?_) zb1.nil;go_simp;refine hK.out _ _ ?_ (fun hHeld=> ?_)
     ·exact kSa
     clear hK K;refine zb7 (rs:=[8]) (by kernel_rfl) (by simp) ?_;refine zb1.cons rfl (fun K hK=> ?_) zb1.nil;refine zd8 xI zp2 (by rfl) (by omega) rfl (.tmp 53) (.tmp 59) rfl (w.heap.size+3) rs (ko) (zg5 o) rfl (by have:=QA.r;rw[HKO2.X]at this;exact this) W1.heap.size 0 1 1 [zc zb xv,za xa y xc] rfl rfl (zf9 _ _ _ _ _ rfl) (by simp[zr]) (by omega) (by omega) (by have:=za2 Q1.a;simp;omega) ?_;intro v' w4 ho hg hbk hn4;rcases own_kinds ho with⟨_,e0⟩|⟨g4,c4,e4,-,-⟩
     ·omega
     subst e4;have Q5:Hid _:=QA.more ⟨xv,xa,xids,xc⟩ HY.X HKO2.X hg ho;have X4:=QA.moreO hg;have kS4:(fun W=>W.cell? ⟨kb,0,none⟩=some rs/\W.cell? ⟨w.heap.size,0,none⟩=some (za (some ⟨b,off,none⟩) n rc)/\W.cell? ⟨b,off+k*2,none⟩=some (zc zb xv)/\W.cell? ⟨b,off+k*2+1,none⟩=some (za xa y xc)) w4:=⟨(za1 X4.2.1).1,X4.1,HRC.X _ X4.2.2⟩;obtain⟨x4,y4⟩:=za1 X4.2.1;have xf:=fun i=>yU _ _ i _ _ X4.2.1;clear ho hg hbk hn4 X4;refine hK.out _ _ ?_ (fun hHeld=> ?_)
     ·exact kS4
     clear hK K;change zk8 _ _ _ _ _ _ _ _ (zi _ (some 60) _) _;simp only[zi,xB,zL,xC];refine tkZ 9 hHeld ?_;refine zb7 (rs:=[10]) (by kernel_rfl) (by simp) ?_;refine zb1.last rfl (fun K hK=> ?_);go_simp;refine hK.out _ _ ?_;clear hK K;refine zh0 (by kernel_rfl) ?_ _;clear hHeld xf x4 y4 kS4 kSa oa0 oa1 o0 o1 QA Q1;generalize w4.setCell ⟨kb,0,none⟩ (za (some ⟨g4,0,none⟩) (ko+1) c4)=W5 at*;go_wp2;go_roundw
     case rel=>exact⟨k+1,_,_,_,by omega,by first|rfl|go_num,rfl,HNX.X,Q5.X⟩
     case measure=>simp[intOf];omega
  ·have hkI:¬((k:Int)<(n:Int)):=by omega
   have hke:k=n:=by omega
   obtain⟨o0,o1⟩:=za1 Q3.o;have of:=fun i=>yU _ _ i _ _ Q3.o;cases d
   ·have HSL:Hid (zK9 R r=o++[r]):=by
     show _=_;have h:=HST.X;rw[hke,<-HN.X]at h;unfold zK9;rw[h];rfl
    clear hke HST
    go_wp2_with(first
     |(at_builtin
       go_must(refine zl3 xI zp2 (by rfl) (by omega) _ rfl (.tmp 65) (.tmp 67) rfl (w.heap.size+3) rs ko (zg5 o) rfl (by have:=(Q3.below (zK (zd #[zc zb rv,za (some ⟨br,or,none⟩) q cr] 80))).r;rw[HKO.X]at this;exact this) wr.heap.size 0 1 1 [zc zb rv,za (some ⟨br,or,none⟩) q cr] rfl rfl (zf9 _ _ _ _ _ rfl) (by simp[zr]) (by omega) (by omega) (by have:=za2 Q3.a;simp;omega) ?_)
       intro v' w6 ho hg hbk hn6;rcases own_kinds ho with⟨_,e0⟩|⟨g6,c6,e6,-,-⟩
       ·omega
       subst e6;have QA:SQ w (wr.alloc (zd #[zc zb rv,za (some ⟨br,or,none⟩) q cr] 80)) kb (za ra n rc) (za (some ⟨bl,ol,none⟩) m lc) (zc zb rv) (za (some ⟨br,or,none⟩) q cr) rs (za (some ⟨gl,0,none⟩) m cl) o L:=Q3.below (zK _);have Q6:Hid (SQ w (w6.setCell ⟨kb,0,none⟩ (za (some ⟨g6,0,none⟩) (ko+1) c6)) kb (za ra n rc) (za (some ⟨bl,ol,none⟩) m lc) (zc zb rv) (za (some ⟨br,or,none⟩) q cr) (za (some ⟨g6,0,none⟩) (ko+1) c6) (za (some ⟨gl,0,none⟩) m cl) (o++[r]) L):=by
        rw[<-HRR.X];exact QA.more ⟨rv,some ⟨br,or,none⟩,rids,cr⟩ HQ.X HKO.X hg ho
       have X4:=QA.moreO hg;obtain⟨x4,y4⟩:=za1 X4.2.1;have xf:=fun i=>yU _ _ i _ _ X4.2.1;clear ho hg hbk hn6 X4 QA;obtain⟨z0,z1⟩:=za1 Q6.o;have HKO2:Hid ((o++[r]).length=(ko+1)):=by show _=_;rw[xU,HKO.X];rfl
       have HOM:Hid ((∀x∈(o++[r]),x∈R∨x=r)):=fun x hx=>(yi.1 hx).elim (HOL.1 x) (fun h=>.inr (by simpa using h))
       have HAT:Hid (za9 (w6.setCell ⟨kb,0,none⟩ (za (some ⟨g6,0,none⟩) (ko+1) c6)) (some ⟨g6,0,none⟩) (o++[r])):=SQ.at (o:=(o++[r])) (r:=r) (R:=R) (by rw[HKO2.X];exact Q6.X) HR.X (by rw[<-HRR.X];exact HX.X) HOM.X;have C:=zp9 (some ⟨g6,0,none⟩) gl 0 c6 cl (o++[r]) L (w6.setCell ⟨kb,0,none⟩ (za (some ⟨g6,0,none⟩) (ko+1) c6)) HAT.X (ze9 (by have:=Q6.l;rw[HM.X]at this;exact this)) (by rw[HKO2.X];omega) (fun x hx=>(HOM.X x hx).elim (HI.X x) (fun h=>by rw[h,<-HRR.X];exact HRI.X)) (by rw[HM.X];omega);rw[HKO2.X,HM.X]at C)
     |(go_at_call 40
       go_must(refine C.mono ?_)
       rintro e w5 ⟨ra5,rc5,gl5,lc5,S5,rfl,hb5,hk5,ho5⟩;have AR:=za0 hb5 (za2 Q6.a) Q6.a;obtain⟨a0,a1⟩:=za1 AR;have af:=fun i=>yU _ _ i _ _ AR;have hl5:S5.length=(o++[r]).length:=by have:=congrArg zj hk5;simpa using this
       have B5:Hid _:=Q6.b.trans (hb5.mono Q6.b.size);have O5:Hid (PO w5 (w.heap.size+3) (za ra5 S5.length rc5) S5 (za (some ⟨gl5,0,none⟩) L.length lc5) L):=by
        rw[hl5];exact ho5.base (by have:=za2 Q6.a;omega)
       have HK5:Hid (S5.map RT.key=(zK9 R r).map RT.key):=by show _=_;rw[HSL.X];exact hk5
       have HL5:Hid _:=hl5.trans HKO2.X;rw[HKO2.X,HM.X];clear hb5 hk5 ho5 hl5 AR))
    refine yX (v:=.agg #[za ra5 (ko+1) rc5,za (some ⟨gl5,0,none⟩) m lc5]) (by simp[results,Tryz.results72,go_sem,a0,a1]) rfl ⟨ra5,rc5,gl5,lc5,S5,by rw[HL5.X,HM.X],?_,HK5.X,?_⟩
    ·repeat(first|with_reducible exact B5.X|refine xd ?_ (by simp<;>omega) _)
    ·refine PO.base (base:=w.heap.size+3) ?_ (by omega)
     repeat(first|with_reducible exact O5.X|refine PO.set ?_ (by omega))
   ·have HSL:Hid (zK9 R r=o):=by
     show _=_;have h:=HST.X;rw[hke,<-HN.X]at h;unfold zK9;rw[h];rfl
    clear hke HST;obtain⟨ga,ca,e⟩:∃ga ca,rs=za ga ko ca:=by
     rcases own_kinds Q3.r with⟨e,h0⟩|⟨g,c,e,_,_⟩
     ·exact⟨none,0,by rw[e,<-HKO.X,h0]⟩
     ·exact⟨_,c,by rw[e,HKO.X]⟩
    subst e;have HKO2:Hid (o.length=ko):=by show _=_;exact HKO.X
    have HOM:Hid _:=HOL.1;have HAT:Hid (za9 wr ga o):=SQ.at (o:=o) (r:=r) (R:=R) (by rw[HKO2.X];exact Q3.X) HR.X (by rw[<-HRR.X];exact HX.X) HOM.X;have C:=zp9 ga gl 0 ca cl o L wr HAT.X (ze9 (by have:=Q3.l;rw[HM.X]at this;exact this)) (by rw[HKO2.X];omega) (fun x hx=>(HOM.X x hx).elim (HI.X x) (fun h=>by rw[h,<-HRR.X];exact HRI.X)) (by rw[HM.X];omega);rw[HKO2.X,HM.X]at C
    go_wp2_with(first
     |(go_at_call 40
       go_must(refine C.mono ?_)
       rintro e w5 ⟨ra5,rc5,gl5,lc5,S5,rfl,hb5,hk5,ho5⟩;have AR:=za0 hb5 (za2 Q3.a) Q3.a;obtain⟨a0,a1⟩:=za1 AR;have af:=fun i=>yU _ _ i _ _ AR;have hl5:S5.length=o.length:=by have:=congrArg zj hk5;simpa using this
       have B5:Hid _:=Q3.b.trans (hb5.mono Q3.b.size);have O5:Hid (PO w5 (w.heap.size+3) (za ra5 S5.length rc5) S5 (za (some ⟨gl5,0,none⟩) L.length lc5) L):=by
        rw[hl5];exact ho5.base (by have:=za2 Q3.a;omega)
       have HK5:Hid (S5.map RT.key=(zK9 R r).map RT.key):=by show _=_;rw[HSL.X];exact hk5
       have HL5:Hid _:=hl5.trans HKO2.X;rw[HKO2.X,HM.X];clear hb5 hk5 ho5 hl5 AR))
    refine yX (v:=.agg #[za ra5 ko rc5,za (some ⟨gl5,0,none⟩) m lc5]) (by simp[results,Tryz.results72,go_sem,a0,a1]) rfl ⟨ra5,rc5,gl5,lc5,S5,by rw[HL5.X,HM.X],?_,HK5.X,?_⟩
    ·repeat(first|with_reducible exact B5.X|refine xd ?_ (by simp<;>omega) _)
    ·refine PO.base (base:=w.heap.size+3) ?_ (by omega)
     repeat(first|with_reducible exact O5.X|refine PO.set ?_ (by omega))
def yG5(R:List RT)(v:Int):List RT:=R.filter (fun x=>decide (x.v≠v))
def sno(R:List RT)(v:Int)(k:Nat):List RT:=yG5 (R.take k) v
theorem yA7{R:List RT}{v:Int}:sno R v R.length=yG5 R v:=by rw[sno,yc]
theorem y88{R:List RT}{k:Nat}(v:Int)(hk:k<R.length):sno R v (k+1)=sno R v k++(if(R.getD k rt0).v=v then []else [R.getD k rt0]):=by
 unfold sno yG5;rw[yd hk,yE];have:R.getD k rt0=R[k]:=by simp[List.getD,hk]
 rw[this];by_cases h:R[k].v=v<;>simp[h]
theorem yE9{R:List RT}{v:Int}{k:Nat}:∀x∈sno R v k,x∈R:=fun _ hx=>List.mem_of_mem_take (List.mem_filter.1 hx).1
theorem yF1{R:List RT}{v:Int}{k:Nat}:(sno R v k).length<=k:=y7 (yj _ _) (by simp;omega)
theorem y40{R:List RT}{v:Int}{k:Nat}{o:List RT}(h:sno R v k=o)(hk:k<R.length):((R.getD k rt0).v=v->sno R v (k+1)=o)/\((R.getD k rt0).v≠v->sno R v (k+1)=o++[R.getD k rt0]):=by
 rw[y88 v hk,h];exact⟨fun e=>by rw[zV e,xY],fun e=>by rw[zW e]⟩
def yL6(w:zg)(R:List RT)(v:Int)(L:List Int)(e:Ending)(w':zg):Prop:=∃ra rc gl lc S,e=.returned (.agg #[za ra S.length rc,za (some ⟨gl,0,none⟩) L.length lc])/\Below w.heap.size w w'/\S.map RT.key=(yG5 R v).map RT.key/\PO w' w.heap.size (za ra S.length rc) S (za (some ⟨gl,0,none⟩) L.length lc) L
theorem y76(ra xx:Option Addr)(bl ol rc lc cr:Nat)(R:List RT)(L:List Int)(rv:Int)(w:zg)(hR:za9 w ra R)(hL:za3 w (some ⟨bl,ol,none⟩) L)(hn:R.length<=400)(hi:∀r∈R,r.ids≠[]/\r.ids.length<=500)(hl:L.length<=500):
 Calls ze 72 #[.agg #[za ra R.length rc,za (some ⟨bl,ol,none⟩) L.length lc],.agg #[zc zb rv,za xx 0 cr]] w (yL6 w R rv L):=by
 have HR:=za4 hR;have HL:=za4 hL;have HI:Hid _:=hi;clear hR hL hi;obtain⟨n,HN⟩:=nmd R.length;obtain⟨m,HM⟩:=nmd L.length;rw[HN.X]at hn⊢;rw[HM.X]at hl⊢;have B1:Hid (Below w.heap.size w ((((w.alloc (zd #[za ra n rc,za (some ⟨bl,ol,none⟩) m lc] 33)).alloc (zd #[zc zb rv,za xx 0 cr] 80)).alloc (zd #[za none 0 0,za none 0 0] 33)).alloc (zd #[] 2))):=(((zK _).alloc (by simp) _).alloc (by simp;omega) _).alloc (by simp;omega) _;have P1:Hid (((((w.alloc (zd #[za ra n rc,za (some ⟨bl,ol,none⟩) m lc] 33)).alloc (zd #[zc zb rv,za xx 0 cr] 80)).alloc (zd #[za none 0 0,za none 0 0] 33)).alloc (zd #[] 2)).heap[w.heap.size]? =some (zd #[za ra n rc,za (some ⟨bl,ol,none⟩) m lc] 33 (0,0))):=(yY _ _ (by simp;omega)).trans ((yY _ _ (by simp;omega)).trans (xb _ _ _));have X1:Hid (((((w.alloc (zd #[za ra n rc,za (some ⟨bl,ol,none⟩) m lc] 33)).alloc (zd #[zc zb rv,za xx 0 cr] 80)).alloc (zd #[za none 0 0,za none 0 0] 33)).alloc (zd #[] 2)).heap[w.heap.size+1]? =some (zd #[zc zb rv,za xx 0 cr] 80 (0,0))):=(yY _ _ (by simp)).trans ((yY _ _ (by simp)).trans (y8 _ _ _));have A1:Hid (((((w.alloc (zd #[za ra n rc,za (some ⟨bl,ol,none⟩) m lc] 33)).alloc (zd #[zc zb rv,za xx 0 cr] 80)).alloc (zd #[za none 0 0,za none 0 0] 33)).alloc (zd #[] 2)).heap[w.heap.size+2]? =some (zd #[za none 0 0,za none 0 0] 33 (0,0))):=(yY _ _ (by simp)).trans (by
  have:=zN ((w.alloc (zd #[za ra n rc,za (some ⟨bl,ol,none⟩) m lc] 33)).alloc (zd #[zc zb rv,za xx 0 cr] 80)) (zd #[za none 0 0,za none 0 0] 33);simpa using this)
 have O1:Hid (((((w.alloc (zd #[za ra n rc,za (some ⟨bl,ol,none⟩) m lc] 33)).alloc (zd #[zc zb rv,za xx 0 cr] 80)).alloc (zd #[za none 0 0,za none 0 0] 33)).alloc (zd #[] 2)).ownsRow (w.heap.size+3) 2 1 (za (some ⟨w.heap.size+1+1+1,0,none⟩) 0 0) 0 (([]:List Int).map (zc zb))):=by
  have:=qa (((w.alloc (zd #[za ra n rc,za (some ⟨bl,ol,none⟩) m lc] 33)).alloc (zd #[zc zb rv,za xx 0 cr] 80)).alloc (zd #[za none 0 0,za none 0 0] 33)) #[] 0 (base:=w.heap.size+3) (e:=2) (size:=1) (by simp) (by unfold maxLen;omega) (by simp);show zk _ _ _ _ _ _ _;simpa using this
 obtain⟨p0,p1⟩:=za1 P1.X;obtain⟨x0,x1⟩:=za1 X1.X;go_enter Tryz.func72,Tryz.ntmps72
 go_wp2_with(first
  |(at_builtin
    go_must(refine zc9 _ rfl (.tmp 8) (.tmp 10) rfl (w.heap.size+3) _ 0 [] rfl O1.X bl ol m lc L rfl HM.X (HL.below B1.X) (by omega) (by omega) (by simp) ?_)
    go_must(
     intro lv w2 hown hg hbk hnl;have hsz:=B1.size;have hge:∀k,(za (some ⟨w.heap.size+1+1+1,0,none⟩) 0 0).ownBlock=some k->w.heap.size+3<=k:=fun k e=>by have:=z45 e;omega
     have Q2:Hid (SQ w (w2.alloc (zd #[za none 0 0,lv] 33)) w2.heap.size (za ra n rc) (za (some ⟨bl,ol,none⟩) m lc) (zc zb rv) (za xx 0 cr) (za none 0 0) lv [] L):=by
      have hb2:Below w.heap.size w w2:=B1.grown hg B1.size (fun k e=>by have:=hge k e;omega);have ha:Below w2.heap.size w2 (w2.alloc (zd #[za none 0 0,lv] 33)):=zK _;have hp2:=zb9 hg P1.X (fun e=>by have:=hge _ e.symm;omega);have hx2:=zb9 hg X1.X (fun e=>by have:=hge _ e.symm;omega);have ha2:=zb9 hg A1.X (fun e=>by have:=hge _ e.symm;omega);refine⟨hb2.trans (ha.mono hb2.size),za0 ha (za2 hp2) hp2,za0 ha (za2 hx2) hx2,za0 ha (za2 ha2) ha2,zN _ _,za2 ha2,qQ _ _ _ _,?_⟩;rw[z6,yo]at hown;rw[HM.X];exact hown.alloc _
     obtain⟨gl,cl,e⟩:=zq9 hown (zn9 hnl ⟨_,_,_,rfl⟩);rw[z6]at e;subst e;obtain⟨x0,x1⟩:=za1 Q2.x)
    clear hown hg hbk hnl hsz hge))
 clear p0 p1 x0 x1;obtain⟨kb,HKB⟩:=nmd w2.heap.size;rw[HKB.X]at Q2⊢;generalize w2.alloc (zd #[za none 0 0,za (some ⟨gl,0,none⟩) m cl] 33)=W2 at*;go_loopw[6,7] (fun td t wr=>∃(k:Nat) (rs:Value) (o:List RT),k<=n/\t=zc zb k/\td=.bool true/\sno R rv k=o/\SQ w wr kb (za ra n rc) (za (some ⟨bl,ol,none⟩) m lc) (zc zb rv) (za xx 0 cr) rs (za (some ⟨gl,0,none⟩) m cl) o L) (fun _ t _=>n - (intOf t).toNat)
 case atStart=>exact⟨0,za none 0 0,[],yZ _,rfl,by first|rfl|simp,rfl,Q2.X⟩
 case round=>
  clear Q2 B1 P1 X1 A1 O1;obtain⟨k,rs,o,hk,rfl,rfl,hst,hQ⟩:=hrel;have Q3:Hid _:=hQ;have HST:Hid _:=hst;have HOL:Hid ((∀x∈o,x∈R)/\o.length<=k+1):=by
   rw[<-hst];exact⟨yE9,Nat.le_succ_of_le yF1⟩
  clear hQ hst;obtain⟨ko,HKO⟩:=nmd o.length;have hko:ko<=k+1:=by rw[<-HKO.X];exact HOL.2
  obtain⟨p0,p1⟩:=za1 Q3.p;obtain⟨x0,x1⟩:=za1 Q3.x;by_cases hlt:k<n
  ·have hkI:(k:Int)<(n:Int):=by omega
   have hkR:k<R.length:=by rw[HN.X];exact hlt
   obtain⟨b,off,e,r1,r2,-⟩:=(HR.below Q3.b) k hkR;have HRC:Hid (∀W,Below w.heap.size w W->W.cell? ⟨b,off+k*2,none⟩=some (zc zb (R.getD k rt0).v)/\W.cell? ⟨b,off+k*2+1,none⟩=some (.slice (R.getD k rt0).a (R.getD k rt0).ids.length (R.getD k rt0).c)):=fun W hW=>by
    obtain⟨b2,off2,e2,q1,q2,_⟩:=(HR.below hW) k hkR;rw[e]at e2;simp only[xV,xZ,qb]at e2;obtain⟨rfl,rfl⟩:=e2;exact⟨q1,q2⟩
   have HGO:Hid _:=y40 HST.X hkR;subst e;generalize R.getD k rt0=x at*;obtain⟨xv,xa,xids,xc⟩:=x;simp only at r1 r2 HRC;obtain⟨y,HY⟩:=nmd xids.length;simp only[HY.X]at r2 HRC;by_cases h2:xv=rv
   ·skip
    have HNX:Hid _:=HGO.1 h2;have g2:(xv !=rv)=false:=by simp;omega
    have HKO2:Hid _:=HKO.X;clear HST HGO h2
    go_wp2_with fail
    go_quiet (fail)
    have Q8:Hid _:=Q3.below (xp (yV _ _) nq);clear Q3 p0 p1 x0 x1 r1 r2;generalize wr.drewN nq=W8 at*;obtain⟨p0,p1⟩:=za1 Q8.p;obtain⟨x0,x1⟩:=za1 Q8.x;obtain⟨r1,r2⟩:=HRC.X _ Q8.b
    go_wp2_with fail
    go_quiet (fail)
    have Q9:Hid _:=Q8.below (xp (yV _ _) nq);clear Q8 p0 p1 x0 x1 r1 r2;generalize W8.drewN nq=W9 at*;obtain⟨p0,p1⟩:=za1 Q9.p;obtain⟨x0,x1⟩:=za1 Q9.x;obtain⟨r1,r2⟩:=HRC.X _ Q9.b;go_wp2;go_roundw
    case rel=>exact⟨k+1,_,_,by omega,by first|rfl|go_num,rfl,HNX.X,Q9.X⟩
    case measure=>simp[intOf];omega
   ·skip
    have HNX:Hid _:=HGO.2 h2;have g2:(xv !=rv)=true:=by simp;omega
    have HKO2:Hid _:=HKO.X;clear HST HGO h2
    go_wp2_with fail
    go_quiet (fail)
    have Q8:Hid _:=Q3.below (xp (yV _ _) nq);clear Q3 p0 p1 x0 x1 r1 r2;generalize wr.drewN nq=W8 at*;obtain⟨p0,p1⟩:=za1 Q8.p;obtain⟨x0,x1⟩:=za1 Q8.x;obtain⟨r1,r2⟩:=HRC.X _ Q8.b
    go_wp2_with fail
    go_quiet (fail)
    have Q9:Hid _:=Q8.below (xp (yV _ _) nq);clear Q8 p0 p1 x0 x1 r1 r2;generalize W8.drewN nq=W9 at*;obtain⟨p0,p1⟩:=za1 Q9.p;obtain⟨x0,x1⟩:=za1 Q9.x;obtain⟨r1,r2⟩:=HRC.X _ Q9.b;have kS:=xe (za1 Q9.o).1 (xe p0 (xe r1 r2))
    go_wp2_with fail
    refine ze1 (S:=(fun W=>W.cell? ⟨kb,0,none⟩=some rs/\W.cell? ⟨w.heap.size,0,none⟩=some (za (some ⟨b,off,none⟩) n rc)/\W.cell? ⟨b,off+k*2,none⟩=some (zc zb xv)/\W.cell? ⟨b,off+k*2+1,none⟩=some (za xa y xc))) 10 (by kernel_rfl) ?_ (fun hHeld=> ?_)
    ·exact kS
    have Q1:Hid _:=Q9.below (yV _ _).drew;clear Q9 p0 p1 r1 r2 x0 x1 kS;generalize W9.drew=W1 at*;have QA:Hid (SQ w (W1.alloc (zd #[zc zb xv,za xa y xc] 80)) kb (za (some ⟨b,off,none⟩) n rc) (za (some ⟨bl,ol,none⟩) m lc) (zc zb rv) (za xx 0 cr) rs (za (some ⟨gl,0,none⟩) m cl) o L):=Q1.below (zK _);obtain⟨o0,o1⟩:=za1 Q1.o;obtain⟨oa0,oa1⟩:=za1 QA.o;have kSa:(fun W=>W.cell? ⟨kb,0,none⟩=some rs/\W.cell? ⟨w.heap.size,0,none⟩=some (za (some ⟨b,off,none⟩) n rc)/\W.cell? ⟨b,off+k*2,none⟩=some (zc zb xv)/\W.cell? ⟨b,off+k*2+1,none⟩=some (za xa y xc)) (W1.alloc (zd #[zc zb xv,za xa y xc] 80)):=⟨oa0,(za1 QA.p).1,HRC.X _ QA.b⟩;refine tkZ 0 hHeld ?_;refine tkZ 1 hHeld ?_;refine tkZ 2 hHeld ?_;refine tkZ 3 hHeld ?_;refine tkZ 4 hHeld ?_;refine tkZ 5 hHeld ?_;refine tkZ 6 hHeld ?_;refine zb7 (rs:=[7]) (by kernel_rfl) (by simp) ?_;refine zb1.cons rfl (fun K hK=> ?_) zb1.nil;go_simp;refine hK.out _ _ ?_ (fun hHeld=> ?_)
    ·exact kSa
    clear hK K;refine zb7 (rs:=[8]) (by kernel_rfl) (by simp) ?_;refine zb1.cons rfl (fun K hK=> ?_) zb1.nil;refine zd8 xI zp2 (by rfl) (by omega) rfl (.tmp 53) (.tmp 59) rfl (w.heap.size+3) rs (ko) (zg5 o) rfl (by have:=QA.r;rw[HKO2.X]at this;exact this) W1.heap.size 0 1 1 [zc zb xv,za xa y xc] rfl rfl (zf9 _ _ _ _ _ rfl) (by simp[zr]) (by omega) (by omega) (by have:=za2 Q1.a;simp;omega) ?_;intro v' w4 ho hg hbk hn4;rcases own_kinds ho with⟨_,e0⟩|⟨g4,c4,e4,-,-⟩
    ·omega
    subst e4;have Q5:Hid _:=QA.more ⟨xv,xa,xids,xc⟩ HY.X HKO2.X hg ho;have X4:=QA.moreO hg;have kS4:(fun W=>W.cell? ⟨kb,0,none⟩=some rs/\W.cell? ⟨w.heap.size,0,none⟩=some (za (some ⟨b,off,none⟩) n rc)/\W.cell? ⟨b,off+k*2,none⟩=some (zc zb xv)/\W.cell? ⟨b,off+k*2+1,none⟩=some (za xa y xc)) w4:=⟨(za1 X4.2.1).1,X4.1,HRC.X _ X4.2.2⟩;obtain⟨x4,y4⟩:=za1 X4.2.1;have xf:=fun i=>yU _ _ i _ _ X4.2.1;clear ho hg hbk hn4 X4;refine hK.out _ _ ?_ (fun hHeld=> ?_)
    ·exact kS4
    clear hK K;change zk8 _ _ _ _ _ _ _ _ (zi _ (some 60) _) _;simp only[zi,xB,zL,xC];refine tkZ 9 hHeld ?_;refine zb7 (rs:=[10]) (by kernel_rfl) (by simp) ?_;refine zb1.last rfl (fun K hK=> ?_);go_simp;refine hK.out _ _ ?_;clear hK K;refine zh0 (by kernel_rfl) ?_ _;clear hHeld xf x4 y4 kS4 kSa oa0 oa1 o0 o1 QA Q1;generalize w4.setCell ⟨kb,0,none⟩ (za (some ⟨g4,0,none⟩) (ko+1) c4)=W5 at*;go_wp2;go_roundw
    case rel=>exact⟨k+1,_,_,by omega,by first|rfl|go_num,rfl,HNX.X,Q5.X⟩
    case measure=>simp[intOf];omega
  ·have hkI:¬((k:Int)<(n:Int)):=by omega
   have hke:k=n:=by omega
   obtain⟨o0,o1⟩:=za1 Q3.o;have of:=fun i=>yU _ _ i _ _ Q3.o;have HSL:Hid (yG5 R rv=o):=by
    show _=_;have h:=HST.X;rw[hke,<-HN.X,yA7]at h;exact h
   clear hke HST;obtain⟨ga,ca,e⟩:∃ga ca,rs=za ga ko ca:=by
    rcases own_kinds Q3.r with⟨e,h0⟩|⟨g,c,e,_,_⟩
    ·exact⟨none,0,by rw[e,<-HKO.X,h0]⟩
    ·exact⟨_,c,by rw[e,HKO.X]⟩
   subst e;have HKO2:Hid _:=HKO.X;have HAT:Hid (za9 wr ga o):=SQ.at (o:=o) (r:=⟨0,none,[],0⟩) (R:=R) (by rw[HKO2.X];exact Q3.X) HR.X (by intro j hj;simp at hj) (fun x hx=>.inl (HOL.1 x hx));have C:=zp9 ga gl 0 ca cl o L wr HAT.X (ze9 (by have:=Q3.l;rw[HM.X]at this;exact this)) (by rw[HKO2.X];omega) (fun x hx=>HI.X x (HOL.1 x hx)) (by rw[HM.X];omega);rw[HKO2.X,HM.X]at C
   go_wp2_with(first
    |(go_at_call 40
      go_must(refine C.mono ?_)
      rintro e w5 ⟨ra5,rc5,gl5,lc5,S5,rfl,hb5,hk5,ho5⟩;have AR:=za0 hb5 (za2 Q3.a) Q3.a;obtain⟨a0,a1⟩:=za1 AR;have af:=fun i=>yU _ _ i _ _ AR;have hl5:S5.length=o.length:=by have:=congrArg zj hk5;simpa using this
      have B5:Hid _:=Q3.b.trans (hb5.mono Q3.b.size);have O5:Hid (PO w5 (w.heap.size+3) (za ra5 S5.length rc5) S5 (za (some ⟨gl5,0,none⟩) L.length lc5) L):=by
       rw[hl5];exact ho5.base (by have:=za2 Q3.a;omega)
      have HK5:Hid (S5.map RT.key=(yG5 R rv).map RT.key):=by show _=_;rw[HSL.X];exact hk5
      have HL5:Hid _:=hl5.trans HKO2.X;rw[HKO2.X,HM.X];clear hb5 hk5 ho5 hl5 AR))
   refine yX (v:=.agg #[za ra5 ko rc5,za (some ⟨gl5,0,none⟩) m lc5]) (by simp[results,Tryz.results72,go_sem,a0,a1]) rfl ⟨ra5,rc5,gl5,lc5,S5,by rw[HL5.X,HM.X],?_,HK5.X,?_⟩
   ·repeat(first|with_reducible exact B5.X|refine xd ?_ (by simp<;>omega) _)
   ·refine PO.base (base:=w.heap.size+3) ?_ (by omega)
    repeat(first|with_reducible exact O5.X|refine PO.set ?_ (by omega))
