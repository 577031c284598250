import Derived.Test.YtkchnomkiboihaaGreatPack2
import Derived.Test.YtkchnomkiboihaaGreatPack5
import Derived.Test.YtkchnomkiboihaaGreatPack6
import Derived.Deep.CutRange
set_option linter.unusedSimpArgs false
set_option maxHeartbeats 8000000
namespace Go.Proofs.YtkchnomkiboihaaGreat
theorem qB:type_of% @Go.Proofs.Tryz.underlying31:=@Go.Proofs.Tryz.underlying31
open Value renaming slice→za,int→ze,ownBlock→zm,oneCell'→zq
open IntKind renaming i64→zd
open Obj renaming cells→zg
open Proofs.Tryz renaming prog→zh
open Go renaming World→zi
open World renaming ownsRow→zk
open List renaming length→zo
open Go.RowKit
open Q
theorem PO.box{w:zi}{base k i:Nat}{rs ls u:Value}{S:List RT}{L:List Int}{cs:Array Value}(h:PO w base rs S ls L)(hk:w.heap[k]? =some (.cells cs 33 (0,0))):PO (w.setCell ⟨k,i,none⟩ u) base rs S ls L:=
 ⟨qm h.r (zg4 h.r hk (by decide)) _,fun s hs=>qm (h.s s hs) (zg4 (h.s s hs) hk (by decide)) _,qm h.l (zg4 h.l hk (by decide)) _⟩
theorem PO.more{w w':zi}{base:Nat}{rs jm ls:Value}{S:List RT}{L:List Int}{r:RT}(h:PO w base rs S ls L)(hr:w.ownsRow base 2 1 (za r.a r.ids.length r.c) r.ids.length (r.ids.map (ze zd)))(hg:w.grownBy w' rs.ownBlock)(ho:w'.ownsRow base 80 2 jm (S.length+1) (zj5 S++zq3 r)):PO w' base jm (S++[r]) ls L:=by
 have keep:∀(v:Value) n xs,w.ownsRow base 2 1 v n xs->w'.ownsRow base 2 1 v n xs:=fun v n xs hv=>by
  refine hv.kept hg ?_;rcases h.rv with⟨e,_⟩|⟨g,c,e,_,_⟩
  ·rw[e]at hg⊢
   cases hb:v.ownBlock with
   |none=>exact .inl rfl
   |some q=>exact .inr (by simp[zm])
  ·rw[e]
   refine .inr fun e2=> ?_;have aM:∃cs,w.heap[g]? =some (.cells cs 80 (0,0)):=by
    have h2:=h.r;rw[e]at h2;obtain⟨_,⟨h3,_⟩|⟨g',ac,az,h3,_,h4,_⟩⟩:=h2
    ·cases h3
    ·simp only[qA,xT,qg]at h3
     exact⟨az,by rw[h3.1.1];exact h4⟩
   obtain⟨cs,aJ⟩:=aM;exact zg4 hv aJ (by decide) e2
 refine⟨?_,fun s hs=> ?_,keep _ _ _ h.l⟩
 ·rw[xS,zp4,show zj5 [r]=zq3 r by simp[zj5]]
  exact ho
 ·rcases yj.1 hs with hs|hs
  ·exact keep _ _ _ (h.s s hs)
  ·have:s=r:=by simpa using hs
   subst this;exact keep _ _ _ hr
structure CQ(w W:zi)(kb:Nat)(p0 p1 rs ls:Value)(S:List RT)(L:List Int):Prop where
 b:Below w.heap.size w W
 p:W.heap[w.heap.size]? =some (zg #[p0,p1] 33 (0,0))
 a:W.heap[w.heap.size+1]? =some (zg #[za none 0 0,za none 0 0] 33 (0,0))
 o:W.heap[kb]? =some (zg #[rs,ls] 33 (0,0))
 k:w.heap.size+1<kb
 q:PO W (w.heap.size+2) rs S ls L
theorem CQ.below{w W W':zi}{kb:Nat}{p0 p1 rs ls:Value}{S:List RT}{L:List Int}(h:CQ w W kb p0 p1 rs ls S L)(hb:Below W.heap.size W W'):CQ w W' kb p0 p1 rs ls S L:=
 ⟨h.b.trans (hb.mono h.b.size),za0 hb (za2 h.p) h.p,za0 hb (za2 h.a) h.a,za0 hb (za2 h.o) h.o,h.k,h.q.below hb⟩
theorem CQ.moreO{w W w4:zi}{kb:Nat}{p0 p1 rs ls:Value}{S:List RT}{L:List Int}(h:CQ w W kb p0 p1 rs ls S L)(hg:W.grownBy w4 rs.ownBlock):w4.cell? ⟨w.heap.size,0,none⟩=some p0/\w4.heap[kb]? =some (zg #[rs,ls] 33 (0,0))/\Below w.heap.size w w4:=by
 have vd:∀j cs,W.heap[j]? =some (.cells cs 33 (0,0))->some j≠rs.ownBlock:=fun j cs hj e=>zg4 h.q.r hj (by decide) e.symm
 exact⟨(za1 (za6 hg h.p (vd _ _ h.p))).1,za6 hg h.o (vd _ _ h.o),h.b.grown hg h.b.size (fun j e=>by have:=(h.q.r.lt j e).1;omega)⟩
theorem CQ.more{w W w4:zi}{kb k q g3 c3:Nat}{p0 p1 rs ls v':Value}{S:List RT}{L aA:List Int}{rv:Int}(h:CQ w W kb p0 p1 rs ls S L)(hq:aA.length=q)(hk:S.length=k)(hs:W.ownsRow (w.heap.size+2) 2 1 (za (some ⟨g3,0,none⟩) q c3) q (aA.map (ze zd)))(hg:W.grownBy w4 rs.ownBlock)(ho:w4.ownsRow (w.heap.size+2) 80 2 v' (k+1) (zj5 S++[ze zd rv,za (some ⟨g3,0,none⟩) q c3])):CQ w (w4.setCell ⟨kb,0,none⟩ v') kb p0 p1 v' ls (S++[⟨rv,some ⟨g3,0,none⟩,aA,c3⟩]) L:=by
 subst hq hk;have vd:∀j cs,W.heap[j]? =some (.cells cs 33 (0,0))->some j≠rs.ownBlock:=fun j cs hj e=>zg4 h.q.r hj (by decide) e.symm
 have lS:Below w.heap.size w w4:=h.b.grown hg h.b.size (fun j e=>by have:=(h.q.r.lt j e).1;omega);have MO:=h.q.more (r:=⟨rv,some ⟨g3,0,none⟩,aA,c3⟩) hs hg ho;have fA:=h.k;have vp:=za6 hg h.o (vd _ _ h.o);have s1:=xb w4 kb 0 _ _ v' vp;refine⟨lS.setCell (by simp;omega) _,?_,?_,by simpa using s1,fA,MO.box vp⟩
 ·rw[xy _ _ _ _ (by simp;omega)];exact za6 hg h.p (vd _ _ h.p)
 ·rw[xy _ _ _ _ (by simp;omega)];exact za6 hg h.a (vd _ _ h.a)
theorem ze0(W:zi)(o0 o1:Value)(T:TypeId)(g:Nat)(hg:W.heap.size=g):∀j u,[o0,o1][j]? =some u->(W.alloc (zg #[o0,o1] T)).cell? ⟨g,0+j,none⟩=some u:=by
 subst hg;intro j u h;have hr:=zS W (zg #[o0,o1] T);rw[yb,zU _ _ j _ _ _ hr,<-h];simp
def yv8(w:zi)(R:List RT)(L:List Int)(e:Ending)(w':zi):Prop:=∃ra rc gl lc S,e=.returned (.agg #[za ra R.length rc,za (some ⟨gl,0,none⟩) L.length lc])/\Below w.heap.size w w'/\S.map RT.key=R.map RT.key/\PO w' (w.heap.size+2) (za ra R.length rc) S (za (some ⟨gl,0,none⟩) L.length lc) L
theorem zz3(ra la:Option Addr)(rc lc:Nat)(R:List RT)(L:List Int)(w:zi)(hR:za9 w ra R)(hL:za3 w la L)(lg:(la=none/\L.length=0)∨∃bl ol,la=some ⟨bl,ol,none⟩)(hn:R.length<=500)(hi:∀r∈R,r.ids≠[]/\r.ids.length<=500)(hl:L.length<=500):
 Calls zh 40 #[.agg #[za ra R.length rc,za la L.length lc]] w (yv8 w R L):=by
 have HR:=za4 hR;have HL:=za4 hL;have oc:Hid _:=lg;have HI:Hid _:=hi;clear hR hL hi lg;obtain⟨n,HN⟩:=nmd R.length;obtain⟨m,HM⟩:=nmd L.length;rw[HN.X]at hn⊢;rw[HM.X]at hl⊢;have B1:Hid (Below w.heap.size w (((w.alloc (zg #[za ra n rc,za la m lc] 33)).alloc (zg #[za none 0 0,za none 0 0] 33)).alloc (zg #[] 2))):=((zP _).alloc (by simp) _).alloc (by simp;omega) _;have P1:Hid ((((w.alloc (zg #[za ra n rc,za la m lc] 33)).alloc (zg #[za none 0 0,za none 0 0] 33)).alloc (zg #[] 2)).heap[w.heap.size]? =some (zg #[za ra n rc,za la m lc] 33 (0,0))):=(xg _ _ (by simp;omega)).trans (xm _ _ _);have A1:Hid ((((w.alloc (zg #[za ra n rc,za la m lc] 33)).alloc (zg #[za none 0 0,za none 0 0] 33)).alloc (zg #[] 2)).heap[w.heap.size+1]? =some (zg #[za none 0 0,za none 0 0] 33 (0,0))):=(xg _ _ (by simp)).trans (xh _ _ _);have O1:Hid ((((w.alloc (zg #[za ra n rc,za la m lc] 33)).alloc (zg #[za none 0 0,za none 0 0] 33)).alloc (zg #[] 2)).ownsRow (w.heap.size+2) 2 1 (za (some ⟨w.heap.size+1+1,0,none⟩) 0 0) 0 (([]:List Int).map (ze zd))):=by
  have:=qo ((w.alloc (zg #[za ra n rc,za la m lc] 33)).alloc (zg #[za none 0 0,za none 0 0] 33)) #[] 0 (base:=w.heap.size+2) (e:=2) (size:=1) (by simp) (by unfold maxLen;omega) (by simp);show zk _ _ _ _ _ _ _;simpa using this
 go_enter Tryz.func40,Tryz.ntmps40;obtain⟨p0,p1⟩:=za1 P1.X;go_upto_region 1 with fail;go_cut [3]from 5 to 9 (fun s3 wx=>∃(kb gl cl:Nat),s3=.pointer (some ⟨kb,0,none⟩)/\CQ w wx kb (za ra n rc) (za la m lc) (za none 0 0) (za (some ⟨gl,0,none⟩) m cl) [] L)
 case first=>
  rcases oc.X with⟨h1,h2⟩|⟨bl,ol,h1⟩
  ·have Fc:m=0:=HM.X.symm.trans h2
   have Oq:L=[]:=xE h2;subst Fc h1
   go_wp2_with(at_builtin
               refine zK7 _ rfl (.tmp 5) (.tmp 7) rfl (w.heap.size+1+1) 0 0 lc rfl rfl (zT _) ?_)
   go_meet;refine⟨_,w.heap.size+1+1,0,rfl,?_⟩;subst Oq;have hA:=(y5 _ (((w.alloc (zg #[za ra n rc,za none 0 lc] 33)).alloc (zg #[za none 0 0,za none 0 0] 33)).alloc (zg #[] 2))).alloc (zT _) (zg #[za none 0 0,za (some ⟨w.heap.size+1+1,0,none⟩) 0 0] 33);have hb:=B1.X.trans (hA.mono B1.X.size);have hp:=za0 hA (za2 P1.X) P1.X;have ha:=za0 hA (za2 A1.X) A1.X;have hk:((((w.alloc (zg #[za ra n rc,za none 0 lc] 33)).alloc (zg #[za none 0 0,za none 0 0] 33)).alloc (zg #[] 2))).heap.size=w.heap.size+3:=by simp
   have ho:=zS (((w.alloc (zg #[za ra n rc,za none 0 lc] 33)).alloc (zg #[za none 0 0,za none 0 0] 33)).alloc (zg #[] 2)) (zg #[za none 0 0,za (some ⟨w.heap.size+1+1,0,none⟩) 0 0] 33);rw[hk]at ho;exact⟨hb,hp,ha,by first|exact ho|simpa using ho,by simp,⟨xZ _ _ _ _,(fun s hs=>by cases hs),O1.X.alloc _⟩⟩
  ·subst h1
   go_wp2_with(first
    |(at_builtin
      go_must(refine zc9 _ rfl (.tmp 5) (.tmp 7) rfl (w.heap.size+2) _ 0 [] rfl O1.X bl ol m lc L rfl HM.X (HL.X.below B1.X) (by omega) (by omega) (by simp) ?_)
      go_loud(
       intro lv w2 ae hg a_ aW;have bU:=B1.X.size;have dF:∀k,(za (some ⟨w.heap.size+1+1,0,none⟩) 0 0).ownBlock=some k->w.heap.size+2<=k:=fun k e=>by have:=z58 e;omega
       have Q2:Hid (CQ w (w2.alloc (zg #[za none 0 0,lv] 33)) w2.heap.size (za ra n rc) (za (some ⟨bl,ol,none⟩) m lc) (za none 0 0) lv [] L):=by
        have aC:Below w.heap.size w w2:=B1.X.grown hg B1.X.size (fun k e=>by have:=dF k e;omega);have ha:Below w2.heap.size w2 (w2.alloc (zg #[za none 0 0,lv] 33)):=zP _;have dS:=za6 hg P1.X (fun e=>by have:=dF _ e.symm;omega);have j8:=za6 hg A1.X (fun e=>by have:=dF _ e.symm;omega);refine⟨aC.trans (ha.mono aC.size),za0 ha (za2 dS) dS,za0 ha (za2 j8) j8,zS _ _,za2 j8,⟨xZ _ _ _ _,(fun s hs=>by cases hs),?_⟩⟩;rw[yb,yw]at ae;rw[HM.X];exact ae.alloc _
       obtain⟨gl,cl,e⟩:=zr1 ae (zn1 aW ⟨_,_,_,rfl⟩);rw[yb]at e;subst e)
      clear ae hg a_ aW bU dF))
   go_meet;exact⟨w2.heap.size,gl,cl,rfl,Q2.X⟩
 case rest=>
  obtain⟨kb,gl,cl,rfl,KH⟩:=hcut;have Q2:Hid _:=KH;clear KH p0 p1;obtain⟨W2,jz⟩:∃v,v=wc:=⟨_,rfl⟩;subst jz
  go_wp2_with fail
  go_loopw[4] (fun t wr=>∃(k:Nat) (rs:Value) (S:List RT),k<=n/\t=ze zd k/\S.map RT.key=(R.take k).map RT.key/\CQ w wr kb (za ra n rc) (za la m lc) rs (za (some ⟨gl,0,none⟩) m cl) S L) (fun t _=>n - (intOf t).toNat)
  case atStart=>exact⟨0,za none 0 0,[],xi _,rfl,rfl,Q2.X⟩
  case round=>
   clear Q2 B1 P1 A1 O1;obtain⟨k,rs,S,hk,rfl,dg,hQ⟩:=hrel;have Q3:Hid _:=hQ;have nG:Hid _:=dg;have v7:S.length=k:=by
    have:=congrArg zo dg;simp only[qz,yh,HN.X]at this;omega
   have lF:=za4 v7;clear hQ dg v7;obtain⟨p0,p1⟩:=za1 Q3.X.p;by_cases ah:k<n
   ·have gV:(k:Int)<(n:Int):=by omega
    have dr:k<R.length:=by rw[HN.X];exact ah
    obtain⟨b,off,e,r1,r2,i3⟩:=(HR.X.below Q3.X.b) k dr;have bH:R.getD k rt0∈R:=by rw[zQ,zR dr];simp
    obtain⟨aq,lM⟩:=HI.X _ bH;have bA:Hid (∀W,Below w.heap.size w W->W.cell? ⟨b,off+k*2,none⟩=some (ze zd (R.getD k rt0).v)/\W.cell? ⟨b,off+k*2+1,none⟩=some (.slice (R.getD k rt0).a (R.getD k rt0).ids.length (R.getD k rt0).c)):=fun W hW=>by
     obtain⟨b2,cV,e2,q1,q2,_⟩:=(HR.X.below hW) k dr;rw[e]at e2;simp only[xT,qg,qt]at e2;obtain⟨rfl,rfl⟩:=e2;exact⟨q1,q2⟩
    have lK:Hid (R.take (k+1)=R.take k++[R.getD k rt0]):=by
     show _=_;rw[yq dr];simp[List.getD,dr]
    subst e;generalize R.getD k rt0=r at*;obtain⟨rv,iu,aA,dE⟩:=r;simp only at r1 r2 i3 aq lM;have fO:=xV.2 aq;obtain⟨b',aT,e',-⟩:=i3 0 fO;subst e';have I3:=za4 i3;obtain⟨q,HQ⟩:=nmd aA.length;simp only[HQ.X]at r2 lM fO bA;clear i3 aq bH;obtain⟨o0,o1⟩:=za1 Q3.X.o;have of:=fun i=>yZ _ _ i _ _ Q3.X.o;have kS:=xr p0 (xr o0 (xr r1 r2));have dB:=za2 Q3.X.o
    go_wp2_with fail
    -- REGION
    refine ze4 (S:=(fun W=>W.cell? ⟨w.heap.size,0,none⟩=some (za (some ⟨b,off,none⟩) n rc)/\W.cell? ⟨kb,0,none⟩=some rs/\W.cell? ⟨b,off+k*2,none⟩=some (ze zd rv)/\W.cell? ⟨b,off+k*2+1,none⟩=some (za (some ⟨b',aT,none⟩) q dE))) 20 (by kernel_rfl) ?_ fun aa=> ?_
    ·exact kS
    have Q1:Hid _:=Q3.X.below (y5 _ _).drew;have I1:=za4 (I3.X.below (y5 _ _).drew);clear Q3 I3 p0 p1 r1 r2 o0 o1 of kS;generalize wr.drew=W1 at*;have QA:Hid (CQ w (W1.alloc (zg #[] 2)) kb (za (some ⟨b,off,none⟩) n rc) (za la m lc) rs (za (some ⟨gl,0,none⟩) m cl) S L):=Q1.X.below (zP _);obtain⟨o0,o1⟩:=za1 Q1.X.o;obtain⟨ly,pE⟩:=za1 QA.X.o;have lk:(fun W=>W.cell? ⟨w.heap.size,0,none⟩=some (za (some ⟨b,off,none⟩) n rc)/\W.cell? ⟨kb,0,none⟩=some rs/\W.cell? ⟨b,off+k*2,none⟩=some (ze zd rv)/\W.cell? ⟨b,off+k*2+1,none⟩=some (za (some ⟨b',aT,none⟩) q dE)) (W1.alloc (zg #[] 2)):=⟨(za1 QA.X.p).1,(za1 QA.X.o).1,bA.X _ QA.X.b⟩;refine tkZ 0 aa ?_;refine tkZ 1 aa ?_;refine tkZ 2 aa ?_;refine tkZ 3 aa ?_;refine tkZ 4 aa ?_;refine tkZ 5 aa ?_;refine tkZ 6 aa ?_;refine tkZ 7 aa ?_;refine tkZ 9 aa ?_;refine tkZ 10 aa ?_;refine tkZ 11 aa ?_;refine tkZ 12 aa ?_;refine tkZ 13 aa ?_;refine tkZ 14 aa ?_;refine rdZ 8 fun K hK=> ?_;go_simp;refine hoW hK lk fun aa=> ?_;clear hK K;refine rdZ 15 fun K hK=> ?_;refine zd7 rfl (.tmp 25) (.tmp 31) rfl W1.heap.size (za (some ⟨W1.heap.size,0,none⟩) 0 0) [] 0 rfl (qo W1 #[] 0 (zT _) (by unfold maxLen;omega) (by simp)) b' aT q dE aA rfl HQ.X (I1.X.below (zP _)) (by omega) (by omega) (by simp) ?_;intro v3 w3 ho hg hn;obtain⟨g3,c3,e3⟩:=zr1 ho (zn1 hn ⟨_,_,_,rfl⟩);rw[yb]at e3;subst e3;have il:Below W1.heap.size W1 w3:=((y5 W1.heap.size W1).alloc (zT _) _).grown hg (by simp) (fun k e=>z58 e);have Q4:Hid _:=Q1.X.below il;have O4:Hid (w3.ownsRow (w.heap.size+2) 2 1 (za (some ⟨g3,0,none⟩) q c3) q (aA.map (ze zd))):=by
     rw[yb,yw]at ho;exact zb5 ho (by have:=za2 Q1.X.a;omega)
    have oN:(fun W=>W.cell? ⟨w.heap.size,0,none⟩=some (za (some ⟨b,off,none⟩) n rc)/\W.cell? ⟨kb,0,none⟩=some rs/\W.cell? ⟨b,off+k*2,none⟩=some (ze zd rv)/\W.cell? ⟨b,off+k*2+1,none⟩=some (za (some ⟨b',aT,none⟩) q dE)) w3:=⟨(za1 Q4.X.p).1,(za1 Q4.X.o).1,bA.X _ Q4.X.b⟩;have QB:Hid (CQ w (w3.alloc (zg #[ze zd rv,za (some ⟨g3,0,none⟩) q c3] 80)) kb (za (some ⟨b,off,none⟩) n rc) (za la m lc) rs (za (some ⟨gl,0,none⟩) m cl) S L):=Q4.X.below (zP _);have OB:Hid (zk (w3.alloc (zg #[ze zd rv,za (some ⟨g3,0,none⟩) q c3] 80)) (w.heap.size+2) 2 1 (za (some ⟨g3,0,none⟩) q c3) q (aA.map (ze zd))):=O4.X.alloc _;have nL:(fun W=>W.cell? ⟨w.heap.size,0,none⟩=some (za (some ⟨b,off,none⟩) n rc)/\W.cell? ⟨kb,0,none⟩=some rs/\W.cell? ⟨b,off+k*2,none⟩=some (ze zd rv)/\W.cell? ⟨b,off+k*2+1,none⟩=some (za (some ⟨b',aT,none⟩) q dE)) (w3.alloc (zg #[ze zd rv,za (some ⟨g3,0,none⟩) q c3] 80)):=⟨(za1 QB.X.p).1,(za1 QB.X.o).1,bA.X _ QB.X.b⟩;obtain⟨x0,x1⟩:=za1 Q4.X.o;obtain⟨uZ,vz⟩:=za1 QB.X.o;clear ho hg hn il;refine hoW hK oN fun aa=> ?_;clear hK K;refine tkZ 16 aa ?_;refine rdZ 17 fun K hK=> ?_;go_simp;refine hoW hK nL fun aa=> ?_;clear hK K;refine rdZ 18 fun K hK=> ?_;refine zd3 qB zm8 (by rfl) (by omega) rfl (.tmp 18) (.tmp 34) rfl (w.heap.size+2) rs k (zj5 S) rfl (by rw[<-lF.X];exact QB.X.q.r) w3.heap.size 0 1 1 [ze zd rv,za (some ⟨g3,0,none⟩) q c3] rfl rfl (ze0 _ _ _ _ _ rfl) (by simp[zq]) (by omega) (by omega) (by have:=za2 Q4.X.a;simp;omega) ?_;intro v' w4 ho hg a_ hn;rcases own_kinds ho with⟨_,e0⟩|⟨g4,c4,e4,-,-⟩
    ·omega
    subst e4;have Q5:Hid _:=QB.X.more HQ.X lF.X OB.X hg ho;have X4:=QB.X.moreO hg;have em:(fun W=>W.cell? ⟨w.heap.size,0,none⟩=some (za (some ⟨b,off,none⟩) n rc)/\W.cell? ⟨kb,0,none⟩=some rs/\W.cell? ⟨b,off+k*2,none⟩=some (ze zd rv)/\W.cell? ⟨b,off+k*2+1,none⟩=some (za (some ⟨b',aT,none⟩) q dE)) w4:=⟨X4.1,(za1 X4.2.1).1,bA.X _ X4.2.2⟩;obtain⟨x4,y4⟩:=za1 X4.2.1;have xf:=fun i=>yZ _ _ i _ _ X4.2.1;clear ho hg a_ hn X4;refine hoW hK em fun aa=> ?_;clear hK K;refine tkZ 19 aa ?_;refine rdL 20 fun K hK=> ?_;go_simp;refine hK.out _ _ ?_;clear hK K;refine zh3 (by kernel_rfl) ?_ _;clear aa xf x4 y4 em x0 x1 uZ vz nL oN lk ly pE o0 o1 QB OB Q4 O4 QA Q1 I1;generalize w4.setCell ⟨kb,0,none⟩ _=W5 at*;go_wp2;go_roundw
    case rel=>
     refine⟨k+1,_,_,by omega,by first|rfl|go_num,?_,Q5.X⟩;rw[lK.X,x8,x8,nG.X];rfl
    case measure=>simp[intOf];omega
    -- NOIGER
   ·have gV:¬((k:Int)<(n:Int)):=by omega
    have cW:k=n:=by omega
    obtain⟨a0,a1⟩:=za1 Q3.X.a;have af:=fun i=>yZ _ _ i _ _ Q3.X.a;obtain⟨o0,o1⟩:=za1 Q3.X.o;have pB:Hid (S.map RT.key=R.map RT.key):=by
     show _=_;rw[nG.X,cW,<-HN.X,ym]
    have tY:S.length=n:=by rw[lF.X];exact cW
    obtain⟨ga,ca,e⟩:∃ga ca,rs=za ga n ca:=by
     rcases Q3.X.q.rv with⟨e,h0⟩|⟨g,c,e,_,_⟩
     ·exact⟨none,0,by rw[e,<-tY,h0]⟩
     ·exact⟨_,c,by rw[e,tY]⟩
    subst e;clear cW tY lF nG;go_wp2;refine xe (v:=.agg #[za ga n ca,za (some ⟨gl,0,none⟩) m cl]) (by simp[results,Tryz.results40,go_sem,a0,a1]) rfl ⟨ga,ca,gl,cl,S,by rw[HN.X,HM.X],?_,pB.X,?_⟩
    ·repeat(first|with_reducible exact Q3.X.b|refine xq ?_ (by simp<;>omega) _)
    ·rw[HN.X,HM.X]
     repeat(first|with_reducible exact Q3.X.q|refine PO.set ?_ (by omega))
theorem zq0(ra:Option Addr)(bl ol rc lc:Nat)(R:List RT)(L:List Int)(w:zi)(hR:za9 w ra R)(hL:za3 w (some ⟨bl,ol,none⟩) L)(hn:R.length<=500)(hi:∀r∈R,r.ids≠[]/\r.ids.length<=500)(hl:L.length<=500):
 Calls zh 40 #[.agg #[za ra R.length rc,za (some ⟨bl,ol,none⟩) L.length lc]] w (yv8 w R L):=zz3 ra _ rc lc R L w hR hL (.inr ⟨_,_,rfl⟩) hn hi hl
structure SQ(w W:zi)(kb:Nat)(p0 p1 r0 r1 rs ls:Value)(oo:List RT)(L:List Int):Prop where
 b:Below w.heap.size w W
 p:W.heap[w.heap.size]? =some (zg #[p0,p1] 33 (0,0))
 x:W.heap[w.heap.size+1]? =some (zg #[r0,r1] 80 (0,0))
 a:W.heap[w.heap.size+2]? =some (zg #[za none 0 0,za none 0 0] 33 (0,0))
 o:W.heap[kb]? =some (zg #[rs,ls] 33 (0,0))
 k:w.heap.size+2<kb
 r:W.ownsRow (w.heap.size+3) 80 2 rs oo.length (zj5 oo)
 l:W.ownsRow (w.heap.size+3) 2 1 ls L.length (L.map (ze zd))
theorem SQ.below{w W W':zi}{kb:Nat}{p0 p1 r0 r1 rs ls:Value}{o:List RT}{L:List Int}(h:SQ w W kb p0 p1 r0 r1 rs ls o L)(hb:Below W.heap.size W W'):SQ w W' kb p0 p1 r0 r1 rs ls o L:=
 ⟨h.b.trans (hb.mono h.b.size),za0 hb (za2 h.p) h.p,za0 hb (za2 h.x) h.x,za0 hb (za2 h.a) h.a,za0 hb (za2 h.o) h.o,h.k,zb9 h.r hb,zb9 h.l hb⟩
theorem SQ.np{w W:zi}{kb:Nat}{p0 p1 r0 r1 rs ls:Value}{o:List RT}{L:List Int}(h:SQ w W kb p0 p1 r0 r1 rs ls o L):∀j cs,W.heap[j]? =some (.cells cs 33 (0,0))->some j≠rs.ownBlock:=fun j cs hj e=>zg4 h.r hj (by decide) e.symm
theorem SQ.nx{w W:zi}{kb:Nat}{p0 p1 r0 r1 rs ls:Value}{o:List RT}{L:List Int}(h:SQ w W kb p0 p1 r0 r1 rs ls o L):some (w.heap.size+1)≠rs.ownBlock:=fun e=>by
 have:=(h.r.lt _ e.symm).1;omega
theorem SQ.moreO{w W w4:zi}{kb:Nat}{p0 p1 r0 r1 rs ls:Value}{o:List RT}{L:List Int}(h:SQ w W kb p0 p1 r0 r1 rs ls o L)(hg:W.grownBy w4 rs.ownBlock):w4.cell? ⟨w.heap.size,0,none⟩=some p0/\w4.heap[kb]? =some (zg #[rs,ls] 33 (0,0))/\Below w.heap.size w w4:=
 ⟨(za1 (za6 hg h.p (h.np _ _ h.p))).1,za6 hg h.o (h.np _ _ h.o),h.b.grown hg h.b.size (fun j e=>by have:=(h.r.lt j e).1;omega)⟩
theorem SQ.more{w W w4:zi}{kb k q:Nat}{p0 p1 r0 r1 rs ls v':Value}{o:List RT}{L:List Int}(x:RT)(h:SQ w W kb p0 p1 r0 r1 rs ls o L)(hq:x.ids.length=q)(hk:o.length=k)(hg:W.grownBy w4 rs.ownBlock)(ho:w4.ownsRow (w.heap.size+3) 80 2 v' (k+1) (zj5 o++[ze zd x.v,za x.a q x.c])):SQ w (w4.setCell ⟨kb,0,none⟩ v') kb p0 p1 r0 r1 v' ls (o++[x]) L:=by
 subst hq hk;have lS:Below w.heap.size w w4:=h.b.grown hg h.b.size (fun j e=>by have:=(h.r.lt j e).1;omega);have fA:=h.k;have vp:=za6 hg h.o (h.np _ _ h.o);have s1:=xb w4 kb 0 _ _ v' vp;have J5:zk w4 (w.heap.size+3) 80 2 v' (o++[x]).length (zj5 (o++[x])):=by
  rw[xS,zp4,show zj5 [x]=zq3 x by simp[zj5]];exact ho
 have gW:zk w4 (w.heap.size+3) 2 1 ls L.length (L.map (ze zd)):=by
  refine h.l.kept hg ?_;rcases own_kinds h.r with⟨e,_⟩|⟨g,c,e,_,rz⟩
  ·cases hb:ls.ownBlock with
   |none=>exact .inl rfl
   |some q=>exact .inr (by rw[e];simp[zm])
  ·refine .inr fun e2=> ?_
   have aM:∃cs,W.heap[g]? =some (.cells cs 80 (0,0)):=by
    have h2:=h.r;rw[e]at h2;obtain⟨_,⟨h3,_⟩|⟨g',ac,az,h3,_,h4,_⟩⟩:=h2
    ·cases h3
    ·simp only[qA,xT,qg]at h3
     exact⟨az,by rw[h3.1.1];exact h4⟩
   obtain⟨cs,aJ⟩:=aM;rw[e]at e2;exact zg4 h.l aJ (by decide) e2
 refine⟨lS.setCell (by simp;omega) _,?_,?_,?_,by simpa using s1,fA,qm J5 (zg4 J5 vp (T:=33) (by decide)) _,qm gW (zg4 gW vp (T:=33) (by decide)) _⟩
 ·rw[xy _ _ _ _ (by simp;omega)];exact za6 hg h.p (h.np _ _ h.p)
 ·rw[xy _ _ _ _ (by simp;omega)];exact za6 hg h.x h.nx
 ·rw[xy _ _ _ _ (by simp;omega)];exact za6 hg h.a (h.np _ _ h.a)
theorem SQ.at{w W:zi}{kb n c:Nat}{ra a:Option Addr}{rc:Nat}{p1 r0 r1 ls:Value}{o R:List RT}{r:RT}{L:List Int}(h:SQ w W kb (za ra n rc) p1 r0 r1 (za a o.length c) ls o L)(hR:za9 w ra R)(hr:za3 w r.a r.ids)(hm:∀x∈o,x∈R∨x=r):za9 W a o:=fun j hj=>by
 rcases own_kinds h.r with⟨_,h0⟩|⟨g,c,e,_,_⟩
 ·omega
 ·simp only[qA]at e
  obtain⟨rfl,_,rfl⟩:=e;obtain⟨q1,q2⟩:=zF0 o j hj;have c1:=(zg8 h.r q1).1;have c2:=(zg8 h.r q2).1;have bH:o.getD j rt0∈o:=by rw[zQ,zR hj];simp
  refine⟨g,0,rfl,by rw[yb];exact c1,by rw[yb];exact c2,?_⟩;rcases hm _ bH with hx|hx
  ·obtain⟨i,hi,e⟩:=xU hx
   obtain⟨_,_,_,_,_,sp⟩:=hR i hi;have:R.getD i rt0=o.getD j rt0:=by rw[zQ,zR hi];simpa using e
   rw[this]at sp;exact sp.below h.b
  ·rw[hx]
   exact hr.below h.b
def yM3(w:zi)(R:List RT)(r:RT)(L:List Int)(e:Ending)(w':zi):Prop:=∃ra rc gl lc S,e=.returned (.agg #[za ra S.length rc,za (some ⟨gl,0,none⟩) L.length lc])/\Below w.heap.size w w'/\S.map RT.key=(setL R r).map RT.key/\PO w' w.heap.size (za ra S.length rc) S (za (some ⟨gl,0,none⟩) L.length lc) L
theorem yD9{R:List RT}{r:RT}{k:Nat}{o o':List RT}{d d':Bool}(h:setTo R r k=(o,d))(hk:k<R.length)(hs:zO9 r (o,d) (R.getD k rt0)=(o',d')):setTo R r (k+1)=(o',d'):=by rw[zL3 r hk,h,hs]
theorem zw5(ra:Option Addr)(bl ol rc lc br or cr:Nat)(R:List RT)(L:List Int)(rv:Int)(aA:List Int)(w:zi)(hR:za9 w ra R)(hL:za3 w (some ⟨bl,ol,none⟩) L)(hX:za3 w (some ⟨br,or,none⟩) aA)(hn:R.length<=400)(hi:∀r∈R,r.ids≠[]/\r.ids.length<=500)(hl:L.length<=500)(hr:aA≠[]/\aA.length<=500):
 Calls zh 72 #[.agg #[za ra R.length rc,za (some ⟨bl,ol,none⟩) L.length lc],.agg #[ze zd rv,za (some ⟨br,or,none⟩) aA.length cr]] w (yM3 w R ⟨rv,some ⟨br,or,none⟩,aA,cr⟩ L):=by
 have HR:=za4 hR;have HL:=za4 hL;have HX:=za4 hX;have HI:Hid _:=hi;have eR:Hid _:=hr;clear hR hL hX hi hr;obtain⟨n,HN⟩:=nmd R.length;obtain⟨m,HM⟩:=nmd L.length;have Ob:=xV.2 eR.1;have Ju:=eR.2;obtain⟨r,jM⟩:∃r:RT,Hid ((⟨rv,some ⟨br,or,none⟩,aA,cr⟩:RT)=r):=⟨_,rfl⟩;rw[jM.X];obtain⟨q,HQ⟩:=nmd aA.length;rw[HN.X]at hn⊢;rw[HM.X]at hl⊢;rw[HQ.X]at Ob Ju⊢;have Rr:¬((q:Int)=0):=by omega
 have rQ:((q:Int)==0)=false:=by simp;omega
 have B1:Hid (Below w.heap.size w ((((w.alloc (zg #[za ra n rc,za (some ⟨bl,ol,none⟩) m lc] 33)).alloc (zg #[ze zd rv,za (some ⟨br,or,none⟩) q cr] 80)).alloc (zg #[za none 0 0,za none 0 0] 33)).alloc (zg #[] 2))):=(((zP _).alloc (by simp) _).alloc (by simp;omega) _).alloc (by simp;omega) _;have P1:Hid (((((w.alloc (zg #[za ra n rc,za (some ⟨bl,ol,none⟩) m lc] 33)).alloc (zg #[ze zd rv,za (some ⟨br,or,none⟩) q cr] 80)).alloc (zg #[za none 0 0,za none 0 0] 33)).alloc (zg #[] 2)).heap[w.heap.size]? =some (zg #[za ra n rc,za (some ⟨bl,ol,none⟩) m lc] 33 (0,0))):=(xg _ _ (by simp;omega)).trans ((xg _ _ (by simp;omega)).trans (xm _ _ _));have X1:Hid (((((w.alloc (zg #[za ra n rc,za (some ⟨bl,ol,none⟩) m lc] 33)).alloc (zg #[ze zd rv,za (some ⟨br,or,none⟩) q cr] 80)).alloc (zg #[za none 0 0,za none 0 0] 33)).alloc (zg #[] 2)).heap[w.heap.size+1]? =some (zg #[ze zd rv,za (some ⟨br,or,none⟩) q cr] 80 (0,0))):=(xg _ _ (by simp)).trans ((xg _ _ (by simp)).trans (xh _ _ _));have A1:Hid (((((w.alloc (zg #[za ra n rc,za (some ⟨bl,ol,none⟩) m lc] 33)).alloc (zg #[ze zd rv,za (some ⟨br,or,none⟩) q cr] 80)).alloc (zg #[za none 0 0,za none 0 0] 33)).alloc (zg #[] 2)).heap[w.heap.size+2]? =some (zg #[za none 0 0,za none 0 0] 33 (0,0))):=(xg _ _ (by simp)).trans (by
  have:=zS ((w.alloc (zg #[za ra n rc,za (some ⟨bl,ol,none⟩) m lc] 33)).alloc (zg #[ze zd rv,za (some ⟨br,or,none⟩) q cr] 80)) (zg #[za none 0 0,za none 0 0] 33);simpa using this)
 have O1:Hid (((((w.alloc (zg #[za ra n rc,za (some ⟨bl,ol,none⟩) m lc] 33)).alloc (zg #[ze zd rv,za (some ⟨br,or,none⟩) q cr] 80)).alloc (zg #[za none 0 0,za none 0 0] 33)).alloc (zg #[] 2)).ownsRow (w.heap.size+3) 2 1 (za (some ⟨w.heap.size+1+1+1,0,none⟩) 0 0) 0 (([]:List Int).map (ze zd))):=by
  have:=qo (((w.alloc (zg #[za ra n rc,za (some ⟨bl,ol,none⟩) m lc] 33)).alloc (zg #[ze zd rv,za (some ⟨br,or,none⟩) q cr] 80)).alloc (zg #[za none 0 0,za none 0 0] 33)) #[] 0 (base:=w.heap.size+3) (e:=2) (size:=1) (by simp) (by unfold maxLen;omega) (by simp);show zk _ _ _ _ _ _ _;simpa using this
 obtain⟨p0,p1⟩:=za1 P1.X;obtain⟨x0,x1⟩:=za1 X1.X;go_enter Tryz.func72,Tryz.ntmps72
 go_wp2_with(first
  |(at_builtin
    go_must(refine zc9 _ rfl (.tmp 8) (.tmp 10) rfl (w.heap.size+3) _ 0 [] rfl O1.X bl ol m lc L rfl HM.X (HL.below B1.X) (by omega) (by omega) (by simp) ?_)
    go_must(
     intro lv w2 ae hg a_ aW;have bU:=B1.size;have dF:∀k,(za (some ⟨w.heap.size+1+1+1,0,none⟩) 0 0).ownBlock=some k->w.heap.size+3<=k:=fun k e=>by have:=z58 e;omega
     have Q2:Hid (SQ w (w2.alloc (zg #[za none 0 0,lv] 33)) w2.heap.size (za ra n rc) (za (some ⟨bl,ol,none⟩) m lc) (ze zd rv) (za (some ⟨br,or,none⟩) q cr) (za none 0 0) lv [] L):=by
      have aC:Below w.heap.size w w2:=B1.grown hg B1.size (fun k e=>by have:=dF k e;omega);have ha:Below w2.heap.size w2 (w2.alloc (zg #[za none 0 0,lv] 33)):=zP _;have dS:=za6 hg P1.X (fun e=>by have:=dF _ e.symm;omega);have lX:=za6 hg X1.X (fun e=>by have:=dF _ e.symm;omega);have j8:=za6 hg A1.X (fun e=>by have:=dF _ e.symm;omega);refine⟨aC.trans (ha.mono aC.size),za0 ha (za2 dS) dS,za0 ha (za2 lX) lX,za0 ha (za2 j8) j8,zS _ _,za2 j8,xZ _ _ _ _,?_⟩;rw[yb,yw]at ae;rw[HM.X];exact ae.alloc _
     obtain⟨gl,cl,e⟩:=zr1 ae (zn1 aW ⟨_,_,_,rfl⟩);rw[yb]at e;subst e;obtain⟨x0,x1⟩:=za1 Q2.x)
    clear ae hg a_ aW bU dF))
 clear p0 p1 x0 x1;obtain⟨kb,fw⟩:=nmd w2.heap.size;rw[fw.X]at Q2⊢;generalize w2.alloc _=W2 at*;go_loopw[6,7] (fun td t wr=>∃(k:Nat) (rs:Value) (o:List RT) (d:Bool),k<=n/\t=ze zd k/\td=.bool d/\setTo R r k=(o,d)/\SQ w wr kb (za ra n rc) (za (some ⟨bl,ol,none⟩) m lc) (ze zd rv) (za (some ⟨br,or,none⟩) q cr) rs (za (some ⟨gl,0,none⟩) m cl) o L) (fun _ t _=>n - (intOf t).toNat)
 case atStart=>exact⟨0,za none 0 0,[],false,xi _,rfl,rfl,z73 _ _,Q2.X⟩
 case round=>
  clear Q2 B1 P1 X1 A1 O1;obtain⟨k,rs,o,d,hk,rfl,rfl,bu,hQ⟩:=hrel;have Q3:Hid _:=hQ;have dD:Hid _:=bu;have sP:Hid ((∀x∈o,x∈R∨x=r)/\o.length<=k+1):=by
   have:=z16 R r k (by rw[HN.X];exact hk);rw[bu]at this;exact⟨this.1,xj this.2 (by simp only;split<;>omega)⟩
  clear hQ bu;obtain⟨ko,dL⟩:=nmd o.length;have ay:ko<=k+1:=by rw[<-dL.X];exact sP.2
  obtain⟨p0,p1⟩:=za1 Q3.p;obtain⟨x0,x1⟩:=za1 Q3.x;by_cases ah:k<n
  ·have gV:(k:Int)<(n:Int):=by omega
   have dr:k<R.length:=by rw[HN.X];exact ah
   obtain⟨b,off,e,r1,r2,-⟩:=(HR.below Q3.b) k dr;have bA:Hid (∀W,Below w.heap.size w W->W.cell? ⟨b,off+k*2,none⟩=some (ze zd (R.getD k rt0).v)/\W.cell? ⟨b,off+k*2+1,none⟩=some (.slice (R.getD k rt0).a (R.getD k rt0).ids.length (R.getD k rt0).c)):=fun W hW=>by
    obtain⟨b2,cV,e2,q1,q2,_⟩:=(HR.below hW) k dr;rw[e]at e2;simp only[xT,qg,qt]at e2;obtain⟨rfl,rfl⟩:=e2;exact⟨q1,q2⟩
   have fX:Hid (∀o' d',zO9 r (o,d) (R.getD k rt0)=(o',d')->setTo R r (k+1)=(o',d')):=fun o' d' h=>yD9 dD.X dr h;subst e;generalize R.getD k rt0=x at*;obtain⟨xv,xa,cH,xc⟩:=x;simp only at r1 r2 bA;obtain⟨y,HY⟩:=nmd cH.length;simp only[HY.X]at r2 bA;have Bp:Hid (r.v=rv):=by rw[<-jM.X];rfl
   cases d
   ·by_cases h1:xv<rv
    ·skip
     have aY:Hid _:=fX.X _ _ (yA9 (by rw[Bp.X];simp only;omega));have g1:decide (rv<=xv)=false:=by simp;omega
     have g2:(xv !=rv)=true:=by simp;omega
     have bw:Hid (o.length=ko):=by show _=_;exact dL.X
     clear dD fX;clear h1
     go_wp2_with fail
     go_quiet (fail)
     have Q8:Hid _:=Q3.below (xC (y5 _ _) nq);clear Q3 p0 p1 x0 x1 r1 r2;generalize wr.drewN nq=W8 at*;obtain⟨p0,p1⟩:=za1 Q8.p;obtain⟨x0,x1⟩:=za1 Q8.x;obtain⟨r1,r2⟩:=bA.X _ Q8.b
     go_wp2_with fail
     go_quiet (fail)
     have Q9:Hid _:=Q8.below (xC (y5 _ _) nq);clear Q8 p0 p1 x0 x1 r1 r2;generalize W8.drewN nq=W9 at*;obtain⟨p0,p1⟩:=za1 Q9.p;obtain⟨x0,x1⟩:=za1 Q9.x;obtain⟨r1,r2⟩:=bA.X _ Q9.b;have kS:=xr (za1 Q9.o).1 (xr p0 (xr r1 r2))
     go_wp2_with fail
     refine ze4 (S:=(fun W=>W.cell? ⟨kb,0,none⟩=some rs/\W.cell? ⟨w.heap.size,0,none⟩=some (za (some ⟨b,off,none⟩) n rc)/\W.cell? ⟨b,off+k*2,none⟩=some (ze zd xv)/\W.cell? ⟨b,off+k*2+1,none⟩=some (za xa y xc))) 10 (by kernel_rfl) ?_ fun aa=> ?_
     ·exact kS
     have Q1:Hid _:=Q9.below (y5 _ _).drew;clear Q9 p0 p1 r1 r2 x0 x1 kS;generalize W9.drew=W1 at*;have QA:Hid (SQ w (W1.alloc (zg #[ze zd xv,za xa y xc] 80)) kb (za (some ⟨b,off,none⟩) n rc) (za (some ⟨bl,ol,none⟩) m lc) (ze zd rv) (za (some ⟨br,or,none⟩) q cr) rs (za (some ⟨gl,0,none⟩) m cl) o L):=Q1.below (zP _);obtain⟨o0,o1⟩:=za1 Q1.o;obtain⟨ly,pE⟩:=za1 QA.o;have lk:(fun W=>W.cell? ⟨kb,0,none⟩=some rs/\W.cell? ⟨w.heap.size,0,none⟩=some (za (some ⟨b,off,none⟩) n rc)/\W.cell? ⟨b,off+k*2,none⟩=some (ze zd xv)/\W.cell? ⟨b,off+k*2+1,none⟩=some (za xa y xc)) (W1.alloc (zg #[ze zd xv,za xa y xc] 80)):=⟨ly,(za1 QA.p).1,bA.X _ QA.b⟩;refine tkZ 0 aa ?_;refine tkZ 1 aa ?_;refine tkZ 2 aa ?_;refine tkZ 3 aa ?_;refine tkZ 4 aa ?_;refine tkZ 5 aa ?_;refine tkZ 6 aa ?_;refine rdZ 7 fun K hK=> ?_;go_simp;refine hoW hK lk fun aa=> ?_;clear hK K;refine rdZ 8 fun K hK=> ?_;refine zd3 qB zm8 (by rfl) (by omega) rfl (.tmp 53) (.tmp 59) rfl (w.heap.size+3) rs (ko) (zj5 o) rfl (by have:=QA.r;rw[bw.X]at this;exact this) W1.heap.size 0 1 1 [ze zd xv,za xa y xc] rfl rfl (ze0 _ _ _ _ _ rfl) (by simp[zq]) (by omega) (by omega) (by have:=za2 Q1.a;simp;omega) ?_;intro v' w4 ho hg a_ gJ;rcases own_kinds ho with⟨_,e0⟩|⟨g4,c4,e4,-,-⟩
     ·omega
     subst e4;have Q5:Hid _:=QA.more ⟨xv,xa,cH,xc⟩ HY.X bw.X hg ho;have X4:=QA.moreO hg;have em:(fun W=>W.cell? ⟨kb,0,none⟩=some rs/\W.cell? ⟨w.heap.size,0,none⟩=some (za (some ⟨b,off,none⟩) n rc)/\W.cell? ⟨b,off+k*2,none⟩=some (ze zd xv)/\W.cell? ⟨b,off+k*2+1,none⟩=some (za xa y xc)) w4:=⟨(za1 X4.2.1).1,X4.1,bA.X _ X4.2.2⟩;obtain⟨x4,y4⟩:=za1 X4.2.1;have xf:=fun i=>yZ _ _ i _ _ X4.2.1;clear ho hg a_ gJ X4;refine hoW hK em fun aa=> ?_;clear hK K;refine tkZ 9 aa ?_;refine rdL 10 fun K hK=> ?_;go_simp;refine hK.out _ _ ?_;clear hK K;refine zh3 (by kernel_rfl) ?_ _;clear aa xf x4 y4 em lk ly pE o0 o1 QA Q1;generalize w4.setCell ⟨kb,0,none⟩ _=W5 at*;go_wp2;go_roundw
     case rel=>exact⟨k+1,_,_,_,by omega,by first|rfl|go_num,rfl,aY.X,Q5.X⟩
     case measure=>simp[intOf];omega
    ·by_cases h2:xv=rv
     ·skip
      have aY:Hid _:=fX.X _ _ (yB0 (by rw[Bp.X];simp only;omega));have g1:decide (rv<=xv)=true:=by simp;omega
      have g2:(xv !=rv)=false:=by simp;omega
      have bw:Hid ((o++[r]).length=(ko+1)):=by show _=_;rw[xS,dL.X];rfl
      clear dD fX;clear h1;clear h2
      go_wp2_with fail
      go_quiet (fail)
      have Q8:Hid _:=Q3.below (xC (y5 _ _) nq);clear Q3 p0 p1 x0 x1 r1 r2;generalize wr.drewN nq=W8 at*;obtain⟨p0,p1⟩:=za1 Q8.p;obtain⟨x0,x1⟩:=za1 Q8.x;obtain⟨r1,r2⟩:=bA.X _ Q8.b;obtain⟨o0,o1⟩:=za1 Q8.o;have of:=fun i=>yZ _ _ i _ _ Q8.o
      go_wp2_with(first
       |(at_builtin
         go_must(refine zk9 qB zm8 (by rfl) (by omega) _ rfl (.tmp 38) (.tmp 40) rfl (w.heap.size+3) rs ko (zj5 o) rfl (by have:=(Q8.below (zP (zg #[ze zd rv,za (some ⟨br,or,none⟩) q cr] 80))).r;rw[dL.X]at this;exact this) W8.heap.size 0 1 1 [ze zd rv,za (some ⟨br,or,none⟩) q cr] rfl rfl (ze0 _ _ _ _ _ rfl) (by simp[zq]) (by omega) (by omega) (by have:=za2 Q8.a;simp;omega) ?_)
         intro v' w6 ho hg a_ hn6;rcases own_kinds ho with⟨_,e0⟩|⟨g6,c6,e6,-,-⟩
         ·omega
         subst e6;have QA:SQ w (W8.alloc (zg #[ze zd rv,za (some ⟨br,or,none⟩) q cr] 80)) kb (za (some ⟨b,off,none⟩) n rc) (za (some ⟨bl,ol,none⟩) m lc) (ze zd rv) (za (some ⟨br,or,none⟩) q cr) rs (za (some ⟨gl,0,none⟩) m cl) o L:=Q8.below (zP _);have Q6:Hid (SQ w (w6.setCell ⟨kb,0,none⟩ (za (some ⟨g6,0,none⟩) (ko+1) c6)) kb (za (some ⟨b,off,none⟩) n rc) (za (some ⟨bl,ol,none⟩) m lc) (ze zd rv) (za (some ⟨br,or,none⟩) q cr) (za (some ⟨g6,0,none⟩) (ko+1) c6) (za (some ⟨gl,0,none⟩) m cl) (o++[r]) L):=by
          rw[<-jM.X];exact QA.more ⟨rv,some ⟨br,or,none⟩,aA,cr⟩ HQ.X dL.X hg ho
         have X4:=QA.moreO hg;obtain⟨x4,y4⟩:=za1 X4.2.1;have xf:=fun i=>yZ _ _ i _ _ X4.2.1;clear ho hg a_ hn6 X4 QA))
      clear x4 y4 xf o0 o1 of Q8 p0 p1 x0 x1 r1 r2;generalize w6.setCell ⟨kb,0,none⟩ _=W7 at*;obtain⟨p0,p1⟩:=za1 Q6.p;obtain⟨x0,x1⟩:=za1 Q6.x;obtain⟨r1,r2⟩:=bA.X _ Q6.b
      go_wp2_with fail
      go_quiet (fail)
      have Q9:Hid _:=Q6.below (xC (y5 _ _) nq);clear Q6 p0 p1 x0 x1 r1 r2;generalize W7.drewN nq=W9 at*;obtain⟨p0,p1⟩:=za1 Q9.p;obtain⟨x0,x1⟩:=za1 Q9.x;obtain⟨r1,r2⟩:=bA.X _ Q9.b;go_wp2;go_roundw
      case rel=>exact⟨k+1,_,_,_,by omega,by first|rfl|go_num,rfl,aY.X,Q9.X⟩
      case measure=>simp[intOf];omega
     ·skip
      have aY:Hid _:=fX.X _ _ (yA4 (by rw[Bp.X];simp only;omega));have g1:decide (rv<=xv)=true:=by simp;omega
      have g2:(xv !=rv)=true:=by simp;omega
      have bw:Hid ((o++[r]).length=(ko+1)):=by show _=_;rw[xS,dL.X];rfl
      clear dD fX;clear h1;clear h2
      go_wp2_with fail
      go_quiet (fail)
      have Q8:Hid _:=Q3.below (xC (y5 _ _) nq);clear Q3 p0 p1 x0 x1 r1 r2;generalize wr.drewN nq=W8 at*;obtain⟨p0,p1⟩:=za1 Q8.p;obtain⟨x0,x1⟩:=za1 Q8.x;obtain⟨r1,r2⟩:=bA.X _ Q8.b;obtain⟨o0,o1⟩:=za1 Q8.o;have of:=fun i=>yZ _ _ i _ _ Q8.o
      go_wp2_with(first
       |(at_builtin
         go_must(refine zk9 qB zm8 (by rfl) (by omega) _ rfl (.tmp 38) (.tmp 40) rfl (w.heap.size+3) rs ko (zj5 o) rfl (by have:=(Q8.below (zP (zg #[ze zd rv,za (some ⟨br,or,none⟩) q cr] 80))).r;rw[dL.X]at this;exact this) W8.heap.size 0 1 1 [ze zd rv,za (some ⟨br,or,none⟩) q cr] rfl rfl (ze0 _ _ _ _ _ rfl) (by simp[zq]) (by omega) (by omega) (by have:=za2 Q8.a;simp;omega) ?_)
         intro v' w6 ho hg a_ hn6;rcases own_kinds ho with⟨_,e0⟩|⟨g6,c6,e6,-,-⟩
         ·omega
         subst e6;have QA:SQ w (W8.alloc (zg #[ze zd rv,za (some ⟨br,or,none⟩) q cr] 80)) kb (za (some ⟨b,off,none⟩) n rc) (za (some ⟨bl,ol,none⟩) m lc) (ze zd rv) (za (some ⟨br,or,none⟩) q cr) rs (za (some ⟨gl,0,none⟩) m cl) o L:=Q8.below (zP _);have Q6:Hid (SQ w (w6.setCell ⟨kb,0,none⟩ (za (some ⟨g6,0,none⟩) (ko+1) c6)) kb (za (some ⟨b,off,none⟩) n rc) (za (some ⟨bl,ol,none⟩) m lc) (ze zd rv) (za (some ⟨br,or,none⟩) q cr) (za (some ⟨g6,0,none⟩) (ko+1) c6) (za (some ⟨gl,0,none⟩) m cl) (o++[r]) L):=by
          rw[<-jM.X];exact QA.more ⟨rv,some ⟨br,or,none⟩,aA,cr⟩ HQ.X dL.X hg ho
         have X4:=QA.moreO hg;obtain⟨x4,y4⟩:=za1 X4.2.1;have xf:=fun i=>yZ _ _ i _ _ X4.2.1;clear ho hg a_ hn6 X4 QA))
      clear x4 y4 xf o0 o1 of Q8 p0 p1 x0 x1 r1 r2;generalize w6.setCell ⟨kb,0,none⟩ _=W7 at*;obtain⟨p0,p1⟩:=za1 Q6.p;obtain⟨x0,x1⟩:=za1 Q6.x;obtain⟨r1,r2⟩:=bA.X _ Q6.b
      go_wp2_with fail
      go_quiet (fail)
      have Q9:Hid _:=Q6.below (xC (y5 _ _) nq);clear Q6 p0 p1 x0 x1 r1 r2;generalize W7.drewN nq=W9 at*;obtain⟨p0,p1⟩:=za1 Q9.p;obtain⟨x0,x1⟩:=za1 Q9.x;obtain⟨r1,r2⟩:=bA.X _ Q9.b;have kS:=xr (za1 Q9.o).1 (xr p0 (xr r1 r2))
      go_wp2_with fail
      refine ze4 (S:=(fun W=>W.cell? ⟨kb,0,none⟩=some (za (some ⟨g6,0,none⟩) (ko+1) c6)/\W.cell? ⟨w.heap.size,0,none⟩=some (za (some ⟨b,off,none⟩) n rc)/\W.cell? ⟨b,off+k*2,none⟩=some (ze zd xv)/\W.cell? ⟨b,off+k*2+1,none⟩=some (za xa y xc))) 10 (by kernel_rfl) ?_ fun aa=> ?_
      ·exact kS
      have Q1:Hid _:=Q9.below (y5 _ _).drew;clear Q9 p0 p1 r1 r2 x0 x1 kS;generalize W9.drew=W1 at*;have QA:Hid (SQ w (W1.alloc (zg #[ze zd xv,za xa y xc] 80)) kb (za (some ⟨b,off,none⟩) n rc) (za (some ⟨bl,ol,none⟩) m lc) (ze zd rv) (za (some ⟨br,or,none⟩) q cr) (za (some ⟨g6,0,none⟩) (ko+1) c6) (za (some ⟨gl,0,none⟩) m cl) (o++[r]) L):=Q1.below (zP _);obtain⟨o0,o1⟩:=za1 Q1.o;obtain⟨ly,pE⟩:=za1 QA.o;have lk:(fun W=>W.cell? ⟨kb,0,none⟩=some (za (some ⟨g6,0,none⟩) (ko+1) c6)/\W.cell? ⟨w.heap.size,0,none⟩=some (za (some ⟨b,off,none⟩) n rc)/\W.cell? ⟨b,off+k*2,none⟩=some (ze zd xv)/\W.cell? ⟨b,off+k*2+1,none⟩=some (za xa y xc)) (W1.alloc (zg #[ze zd xv,za xa y xc] 80)):=⟨ly,(za1 QA.p).1,bA.X _ QA.b⟩;refine tkZ 0 aa ?_;refine tkZ 1 aa ?_;refine tkZ 2 aa ?_;refine tkZ 3 aa ?_;refine tkZ 4 aa ?_;refine tkZ 5 aa ?_;refine tkZ 6 aa ?_;refine rdZ 7 fun K hK=> ?_;go_simp;refine hoW hK lk fun aa=> ?_;clear hK K;refine rdZ 8 fun K hK=> ?_;refine zd3 qB zm8 (by rfl) (by omega) rfl (.tmp 53) (.tmp 59) rfl (w.heap.size+3) (za (some ⟨g6,0,none⟩) (ko+1) c6) ((ko+1)) (zj5 (o++[r])) rfl (by have:=QA.r;rw[bw.X]at this;exact this) W1.heap.size 0 1 1 [ze zd xv,za xa y xc] rfl rfl (ze0 _ _ _ _ _ rfl) (by simp[zq]) (by omega) (by omega) (by have:=za2 Q1.a;simp;omega) ?_;intro v' w4 ho hg a_ gJ;rcases own_kinds ho with⟨_,e0⟩|⟨g4,c4,e4,-,-⟩
      ·omega
      subst e4;have Q5:Hid _:=QA.more ⟨xv,xa,cH,xc⟩ HY.X bw.X hg ho;have X4:=QA.moreO hg;have em:(fun W=>W.cell? ⟨kb,0,none⟩=some (za (some ⟨g6,0,none⟩) (ko+1) c6)/\W.cell? ⟨w.heap.size,0,none⟩=some (za (some ⟨b,off,none⟩) n rc)/\W.cell? ⟨b,off+k*2,none⟩=some (ze zd xv)/\W.cell? ⟨b,off+k*2+1,none⟩=some (za xa y xc)) w4:=⟨(za1 X4.2.1).1,X4.1,bA.X _ X4.2.2⟩;obtain⟨x4,y4⟩:=za1 X4.2.1;have xf:=fun i=>yZ _ _ i _ _ X4.2.1;clear ho hg a_ gJ X4;refine hoW hK em fun aa=> ?_;clear hK K;refine tkZ 9 aa ?_;refine rdL 10 fun K hK=> ?_;go_simp;refine hK.out _ _ ?_;clear hK K;refine zh3 (by kernel_rfl) ?_ _;clear aa xf x4 y4 em lk ly pE o0 o1 QA Q1;generalize w4.setCell ⟨kb,0,none⟩ _=W5 at*;go_wp2;go_roundw
      case rel=>exact⟨k+1,_,_,_,by omega,by first|rfl|go_num,rfl,aY.X,Q5.X⟩
      case measure=>simp[intOf];omega
   ·by_cases h2:xv=rv
    ·skip
     have aY:Hid _:=fX.X _ _ (y54 (by rw[Bp.X];simp only;omega));have g2:(xv !=rv)=false:=by simp;omega
     have bw:Hid (o.length=ko):=by show _=_;exact dL.X
     clear dD fX;clear h2
     go_wp2_with fail
     go_quiet (fail)
     have Q8:Hid _:=Q3.below (xC (y5 _ _) nq);clear Q3 p0 p1 x0 x1 r1 r2;generalize wr.drewN nq=W8 at*;obtain⟨p0,p1⟩:=za1 Q8.p;obtain⟨x0,x1⟩:=za1 Q8.x;obtain⟨r1,r2⟩:=bA.X _ Q8.b
     go_wp2_with fail
     go_quiet (fail)
     have Q9:Hid _:=Q8.below (xC (y5 _ _) nq);clear Q8 p0 p1 x0 x1 r1 r2;generalize W8.drewN nq=W9 at*;obtain⟨p0,p1⟩:=za1 Q9.p;obtain⟨x0,x1⟩:=za1 Q9.x;obtain⟨r1,r2⟩:=bA.X _ Q9.b;go_wp2;go_roundw
     case rel=>exact⟨k+1,_,_,_,by omega,by first|rfl|go_num,rfl,aY.X,Q9.X⟩
     case measure=>simp[intOf];omega
    ·skip
     have aY:Hid _:=fX.X _ _ (yB7 (by rw[Bp.X];simp only;omega));have g2:(xv !=rv)=true:=by simp;omega
     have bw:Hid (o.length=ko):=by show _=_;exact dL.X
     clear dD fX;clear h2
     go_wp2_with fail
     go_quiet (fail)
     have Q8:Hid _:=Q3.below (xC (y5 _ _) nq);clear Q3 p0 p1 x0 x1 r1 r2;generalize wr.drewN nq=W8 at*;obtain⟨p0,p1⟩:=za1 Q8.p;obtain⟨x0,x1⟩:=za1 Q8.x;obtain⟨r1,r2⟩:=bA.X _ Q8.b
     go_wp2_with fail
     go_quiet (fail)
     have Q9:Hid _:=Q8.below (xC (y5 _ _) nq);clear Q8 p0 p1 x0 x1 r1 r2;generalize W8.drewN nq=W9 at*;obtain⟨p0,p1⟩:=za1 Q9.p;obtain⟨x0,x1⟩:=za1 Q9.x;obtain⟨r1,r2⟩:=bA.X _ Q9.b;have kS:=xr (za1 Q9.o).1 (xr p0 (xr r1 r2))
     go_wp2_with fail
     refine ze4 (S:=(fun W=>W.cell? ⟨kb,0,none⟩=some rs/\W.cell? ⟨w.heap.size,0,none⟩=some (za (some ⟨b,off,none⟩) n rc)/\W.cell? ⟨b,off+k*2,none⟩=some (ze zd xv)/\W.cell? ⟨b,off+k*2+1,none⟩=some (za xa y xc))) 10 (by kernel_rfl) ?_ fun aa=> ?_
     ·exact kS
     have Q1:Hid _:=Q9.below (y5 _ _).drew;clear Q9 p0 p1 r1 r2 x0 x1 kS;generalize W9.drew=W1 at*;have QA:Hid (SQ w (W1.alloc (zg #[ze zd xv,za xa y xc] 80)) kb (za (some ⟨b,off,none⟩) n rc) (za (some ⟨bl,ol,none⟩) m lc) (ze zd rv) (za (some ⟨br,or,none⟩) q cr) rs (za (some ⟨gl,0,none⟩) m cl) o L):=Q1.below (zP _);obtain⟨o0,o1⟩:=za1 Q1.o;obtain⟨ly,pE⟩:=za1 QA.o;have lk:(fun W=>W.cell? ⟨kb,0,none⟩=some rs/\W.cell? ⟨w.heap.size,0,none⟩=some (za (some ⟨b,off,none⟩) n rc)/\W.cell? ⟨b,off+k*2,none⟩=some (ze zd xv)/\W.cell? ⟨b,off+k*2+1,none⟩=some (za xa y xc)) (W1.alloc (zg #[ze zd xv,za xa y xc] 80)):=⟨ly,(za1 QA.p).1,bA.X _ QA.b⟩;refine tkZ 0 aa ?_;refine tkZ 1 aa ?_;refine tkZ 2 aa ?_;refine tkZ 3 aa ?_;refine tkZ 4 aa ?_;refine tkZ 5 aa ?_;refine tkZ 6 aa ?_;refine rdZ 7 fun K hK=> ?_;go_simp;refine hoW hK lk fun aa=> ?_;clear hK K;refine rdZ 8 fun K hK=> ?_;refine zd3 qB zm8 (by rfl) (by omega) rfl (.tmp 53) (.tmp 59) rfl (w.heap.size+3) rs (ko) (zj5 o) rfl (by have:=QA.r;rw[bw.X]at this;exact this) W1.heap.size 0 1 1 [ze zd xv,za xa y xc] rfl rfl (ze0 _ _ _ _ _ rfl) (by simp[zq]) (by omega) (by omega) (by have:=za2 Q1.a;simp;omega) ?_;intro v' w4 ho hg a_ gJ;rcases own_kinds ho with⟨_,e0⟩|⟨g4,c4,e4,-,-⟩
     ·omega
     subst e4;have Q5:Hid _:=QA.more ⟨xv,xa,cH,xc⟩ HY.X bw.X hg ho;have X4:=QA.moreO hg;have em:(fun W=>W.cell? ⟨kb,0,none⟩=some rs/\W.cell? ⟨w.heap.size,0,none⟩=some (za (some ⟨b,off,none⟩) n rc)/\W.cell? ⟨b,off+k*2,none⟩=some (ze zd xv)/\W.cell? ⟨b,off+k*2+1,none⟩=some (za xa y xc)) w4:=⟨(za1 X4.2.1).1,X4.1,bA.X _ X4.2.2⟩;obtain⟨x4,y4⟩:=za1 X4.2.1;have xf:=fun i=>yZ _ _ i _ _ X4.2.1;clear ho hg a_ gJ X4;refine hoW hK em fun aa=> ?_;clear hK K;refine tkZ 9 aa ?_;refine rdL 10 fun K hK=> ?_;go_simp;refine hK.out _ _ ?_;clear hK K;refine zh3 (by kernel_rfl) ?_ _;clear aa xf x4 y4 em lk ly pE o0 o1 QA Q1;generalize w4.setCell ⟨kb,0,none⟩ _=W5 at*;go_wp2;go_roundw
     case rel=>exact⟨k+1,_,_,_,by omega,by first|rfl|go_num,rfl,aY.X,Q5.X⟩
     case measure=>simp[intOf];omega
  ·have gV:¬((k:Int)<(n:Int)):=by omega
   have cW:k=n:=by omega
   obtain⟨o0,o1⟩:=za1 Q3.o;have of:=fun i=>yZ _ _ i _ _ Q3.o;cases d
   ·have mC:Hid (setL R r=o++[r]):=by
     show _=_;have h:=dD.X;rw[cW,<-HN.X]at h;unfold setL;rw[h];rfl
    clear cW dD
    go_wp2_with(first
     |(at_builtin
       go_must(refine zk9 qB zm8 (by rfl) (by omega) _ rfl (.tmp 65) (.tmp 67) rfl (w.heap.size+3) rs ko (zj5 o) rfl (by have:=(Q3.below (zP (zg #[ze zd rv,za (some ⟨br,or,none⟩) q cr] 80))).r;rw[dL.X]at this;exact this) wr.heap.size 0 1 1 [ze zd rv,za (some ⟨br,or,none⟩) q cr] rfl rfl (ze0 _ _ _ _ _ rfl) (by simp[zq]) (by omega) (by omega) (by have:=za2 Q3.a;simp;omega) ?_)
       intro v' w6 ho hg a_ hn6;rcases own_kinds ho with⟨_,e0⟩|⟨g6,c6,e6,-,-⟩
       ·omega
       subst e6;have QA:SQ w (wr.alloc (zg #[ze zd rv,za (some ⟨br,or,none⟩) q cr] 80)) kb (za ra n rc) (za (some ⟨bl,ol,none⟩) m lc) (ze zd rv) (za (some ⟨br,or,none⟩) q cr) rs (za (some ⟨gl,0,none⟩) m cl) o L:=Q3.below (zP _);have Q6:Hid (SQ w (w6.setCell ⟨kb,0,none⟩ (za (some ⟨g6,0,none⟩) (ko+1) c6)) kb (za ra n rc) (za (some ⟨bl,ol,none⟩) m lc) (ze zd rv) (za (some ⟨br,or,none⟩) q cr) (za (some ⟨g6,0,none⟩) (ko+1) c6) (za (some ⟨gl,0,none⟩) m cl) (o++[r]) L):=by
        rw[<-jM.X];exact QA.more ⟨rv,some ⟨br,or,none⟩,aA,cr⟩ HQ.X dL.X hg ho
       have X4:=QA.moreO hg;obtain⟨x4,y4⟩:=za1 X4.2.1;have xf:=fun i=>yZ _ _ i _ _ X4.2.1;clear ho hg a_ hn6 X4 QA;obtain⟨z0,z1⟩:=za1 Q6.o;have bw:Hid ((o++[r]).length=(ko+1)):=by show _=_;rw[xS,dL.X];rfl
       have AB:Hid ((∀x∈(o++[r]),x∈R∨x=r)):=fun x hx=>(yj.1 hx).elim (sP.1 x) (fun h=>.inr (by simpa using h))
       have jZ:=za4 (SQ.at (o:=(o++[r])) (r:=r) (R:=R) (by rw[bw.X];exact Q6.X) HR.X (by rw[<-jM.X];exact HX.X) AB.X);have C:=zq0 (some ⟨g6,0,none⟩) gl 0 c6 cl (o++[r]) L (w6.setCell ⟨kb,0,none⟩ (za (some ⟨g6,0,none⟩) (ko+1) c6)) jZ.X (zd4 (by have:=Q6.l;rw[HM.X]at this;exact this)) (by rw[bw.X];omega) (fun x hx=>(AB.X x hx).elim (HI.X x) (fun h=>by rw[h,<-jM.X];exact eR.X)) (by rw[HM.X];omega);rw[bw.X,HM.X]at C)
     |(go_at_call 40
       go_must(refine C.mono ?_)
       rintro e w5 ⟨nE,m',mH,nO,S5,rfl,fs,fA,ec⟩;have AR:=za0 fs (za2 Q6.a) Q6.a;obtain⟨a0,a1⟩:=za1 AR;have af:=fun i=>yZ _ _ i _ _ AR;have mS:S5.length=(o++[r]).length:=by have:=congrArg zo fA;simpa using this
       have B5:Hid _:=Q6.b.trans (fs.mono Q6.b.size);have O5:Hid (PO w5 (w.heap.size+3) (za nE S5.length m') S5 (za (some ⟨mH,0,none⟩) L.length nO) L):=by
        rw[mS];exact ec.base (by have:=za2 Q6.a;omega)
       have Aj:Hid (S5.map RT.key=(setL R r).map RT.key):=by show _=_;rw[mC.X];exact fA
       have wP:Hid _:=mS.trans bw.X;rw[bw.X,HM.X];clear fs fA ec mS AR))
    refine xe (v:=.agg #[za nE (ko+1) m',za (some ⟨mH,0,none⟩) m nO]) (by simp[results,Tryz.results72,go_sem,a0,a1]) rfl ⟨nE,m',mH,nO,S5,by rw[wP.X,HM.X],?_,Aj.X,?_⟩
    ·repeat(first|with_reducible exact B5.X|refine xq ?_ (by simp<;>omega) _)
    ·refine PO.base (base:=w.heap.size+3) ?_ (by omega)
     repeat(first|with_reducible exact O5.X|refine PO.set ?_ (by omega))
   ·have mC:Hid (setL R r=o):=by
     show _=_;have h:=dD.X;rw[cW,<-HN.X]at h;unfold setL;rw[h];rfl
    clear cW dD;obtain⟨ga,ca,e⟩:∃ga ca,rs=za ga ko ca:=by
     rcases own_kinds Q3.r with⟨e,h0⟩|⟨g,c,e,_,_⟩
     ·exact⟨none,0,by rw[e,<-dL.X,h0]⟩
     ·exact⟨_,c,by rw[e,dL.X]⟩
    subst e;have bw:Hid (o.length=ko):=by show _=_;exact dL.X
    have AB:Hid _:=sP.1;have jZ:Hid (za9 wr ga o):=SQ.at (o:=o) (r:=r) (R:=R) (by rw[bw.X];exact Q3.X) HR.X (by rw[<-jM.X];exact HX.X) AB.X;have C:=zq0 ga gl 0 ca cl o L wr jZ.X (zd4 (by have:=Q3.l;rw[HM.X]at this;exact this)) (by rw[bw.X];omega) (fun x hx=>(AB.X x hx).elim (HI.X x) (fun h=>by rw[h,<-jM.X];exact eR.X)) (by rw[HM.X];omega);rw[bw.X,HM.X]at C
    go_wp2_with(first
     |(go_at_call 40
       go_must(refine C.mono ?_)
       rintro e w5 ⟨nE,m',mH,nO,S5,rfl,fs,fA,ec⟩;have AR:=za0 fs (za2 Q3.a) Q3.a;obtain⟨a0,a1⟩:=za1 AR;have af:=fun i=>yZ _ _ i _ _ AR;have mS:S5.length=o.length:=by have:=congrArg zo fA;simpa using this
       have B5:Hid _:=Q3.b.trans (fs.mono Q3.b.size);have O5:Hid (PO w5 (w.heap.size+3) (za nE S5.length m') S5 (za (some ⟨mH,0,none⟩) L.length nO) L):=by
        rw[mS];exact ec.base (by have:=za2 Q3.a;omega)
       have Aj:Hid (S5.map RT.key=(setL R r).map RT.key):=by show _=_;rw[mC.X];exact fA
       have wP:Hid _:=mS.trans bw.X;rw[bw.X,HM.X];clear fs fA ec mS AR))
    refine xe (v:=.agg #[za nE ko m',za (some ⟨mH,0,none⟩) m nO]) (by simp[results,Tryz.results72,go_sem,a0,a1]) rfl ⟨nE,m',mH,nO,S5,by rw[wP.X,HM.X],?_,Aj.X,?_⟩
    ·repeat(first|with_reducible exact B5.X|refine xq ?_ (by simp<;>omega) _)
    ·refine PO.base (base:=w.heap.size+3) ?_ (by omega)
     repeat(first|with_reducible exact O5.X|refine PO.set ?_ (by omega))
def yH3(R:List RT)(v:Int):List RT:=R.filter (fun x=>decide (x.v≠v))
def sno(R:List RT)(v:Int)(k:Nat):List RT:=yH3 (R.take k) v
theorem yD6{R:List RT}{v:Int}:sno R v R.length=yH3 R v:=by rw[sno,ym]
theorem y82{R:List RT}{k:Nat}(v:Int)(hk:k<R.length):sno R v (k+1)=sno R v k++(if(R.getD k rt0).v=v then []else [R.getD k rt0]):=by
 unfold sno yH3;rw[yq hk,yP];have:R.getD k rt0=R[k]:=by simp[List.getD,hk]
 rw[this];by_cases h:R[k].v=v<;>simp[h]
theorem yC0{R:List RT}{v:Int}{k:Nat}:∀x∈sno R v k,x∈R:=fun _ hx=>List.mem_of_mem_take (qi.1 hx).1
theorem yE9{R:List RT}{v:Int}{k:Nat}:(sno R v k).length<=k:=xj (yp _ _) (by simp;omega)
theorem y55{R:List RT}{v:Int}{k:Nat}{o:List RT}(h:sno R v k=o)(hk:k<R.length):((R.getD k rt0).v=v->sno R v (k+1)=o)/\((R.getD k rt0).v≠v->sno R v (k+1)=o++[R.getD k rt0]):=by
 rw[y82 v hk,h];exact⟨fun e=>by rw[z7 e,qe],fun e=>by rw[ye e]⟩
def yL2(w:zi)(R:List RT)(v:Int)(L:List Int)(e:Ending)(w':zi):Prop:=∃ra rc gl lc S,e=.returned (.agg #[za ra S.length rc,za (some ⟨gl,0,none⟩) L.length lc])/\Below w.heap.size w w'/\S.map RT.key=(yH3 R v).map RT.key/\PO w' w.heap.size (za ra S.length rc) S (za (some ⟨gl,0,none⟩) L.length lc) L
theorem y90(ra xx:Option Addr)(bl ol rc lc cr:Nat)(R:List RT)(L:List Int)(rv:Int)(w:zi)(hR:za9 w ra R)(hL:za3 w (some ⟨bl,ol,none⟩) L)(hn:R.length<=400)(hi:∀r∈R,r.ids≠[]/\r.ids.length<=500)(hl:L.length<=500):
 Calls zh 72 #[.agg #[za ra R.length rc,za (some ⟨bl,ol,none⟩) L.length lc],.agg #[ze zd rv,za xx 0 cr]] w (yL2 w R rv L):=by
 have HR:=za4 hR;have HL:=za4 hL;have HI:Hid _:=hi;clear hR hL hi;obtain⟨n,HN⟩:=nmd R.length;obtain⟨m,HM⟩:=nmd L.length;rw[HN.X]at hn⊢;rw[HM.X]at hl⊢;have B1:Hid (Below w.heap.size w ((((w.alloc (zg #[za ra n rc,za (some ⟨bl,ol,none⟩) m lc] 33)).alloc (zg #[ze zd rv,za xx 0 cr] 80)).alloc (zg #[za none 0 0,za none 0 0] 33)).alloc (zg #[] 2))):=(((zP _).alloc (by simp) _).alloc (by simp;omega) _).alloc (by simp;omega) _;have P1:Hid (((((w.alloc (zg #[za ra n rc,za (some ⟨bl,ol,none⟩) m lc] 33)).alloc (zg #[ze zd rv,za xx 0 cr] 80)).alloc (zg #[za none 0 0,za none 0 0] 33)).alloc (zg #[] 2)).heap[w.heap.size]? =some (zg #[za ra n rc,za (some ⟨bl,ol,none⟩) m lc] 33 (0,0))):=(xg _ _ (by simp;omega)).trans ((xg _ _ (by simp;omega)).trans (xm _ _ _));have X1:Hid (((((w.alloc (zg #[za ra n rc,za (some ⟨bl,ol,none⟩) m lc] 33)).alloc (zg #[ze zd rv,za xx 0 cr] 80)).alloc (zg #[za none 0 0,za none 0 0] 33)).alloc (zg #[] 2)).heap[w.heap.size+1]? =some (zg #[ze zd rv,za xx 0 cr] 80 (0,0))):=(xg _ _ (by simp)).trans ((xg _ _ (by simp)).trans (xh _ _ _));have A1:Hid (((((w.alloc (zg #[za ra n rc,za (some ⟨bl,ol,none⟩) m lc] 33)).alloc (zg #[ze zd rv,za xx 0 cr] 80)).alloc (zg #[za none 0 0,za none 0 0] 33)).alloc (zg #[] 2)).heap[w.heap.size+2]? =some (zg #[za none 0 0,za none 0 0] 33 (0,0))):=(xg _ _ (by simp)).trans (by
  have:=zS ((w.alloc (zg #[za ra n rc,za (some ⟨bl,ol,none⟩) m lc] 33)).alloc (zg #[ze zd rv,za xx 0 cr] 80)) (zg #[za none 0 0,za none 0 0] 33);simpa using this)
 have O1:Hid (((((w.alloc (zg #[za ra n rc,za (some ⟨bl,ol,none⟩) m lc] 33)).alloc (zg #[ze zd rv,za xx 0 cr] 80)).alloc (zg #[za none 0 0,za none 0 0] 33)).alloc (zg #[] 2)).ownsRow (w.heap.size+3) 2 1 (za (some ⟨w.heap.size+1+1+1,0,none⟩) 0 0) 0 (([]:List Int).map (ze zd))):=by
  have:=qo (((w.alloc (zg #[za ra n rc,za (some ⟨bl,ol,none⟩) m lc] 33)).alloc (zg #[ze zd rv,za xx 0 cr] 80)).alloc (zg #[za none 0 0,za none 0 0] 33)) #[] 0 (base:=w.heap.size+3) (e:=2) (size:=1) (by simp) (by unfold maxLen;omega) (by simp);show zk _ _ _ _ _ _ _;simpa using this
 obtain⟨p0,p1⟩:=za1 P1.X;obtain⟨x0,x1⟩:=za1 X1.X;go_enter Tryz.func72,Tryz.ntmps72
 go_wp2_with(first
  |(at_builtin
    go_must(refine zc9 _ rfl (.tmp 8) (.tmp 10) rfl (w.heap.size+3) _ 0 [] rfl O1.X bl ol m lc L rfl HM.X (HL.below B1.X) (by omega) (by omega) (by simp) ?_)
    go_must(
     intro lv w2 ae hg a_ aW;have bU:=B1.size;have dF:∀k,(za (some ⟨w.heap.size+1+1+1,0,none⟩) 0 0).ownBlock=some k->w.heap.size+3<=k:=fun k e=>by have:=z58 e;omega
     have Q2:Hid (SQ w (w2.alloc (zg #[za none 0 0,lv] 33)) w2.heap.size (za ra n rc) (za (some ⟨bl,ol,none⟩) m lc) (ze zd rv) (za xx 0 cr) (za none 0 0) lv [] L):=by
      have aC:Below w.heap.size w w2:=B1.grown hg B1.size (fun k e=>by have:=dF k e;omega);have ha:Below w2.heap.size w2 (w2.alloc (zg #[za none 0 0,lv] 33)):=zP _;have dS:=za6 hg P1.X (fun e=>by have:=dF _ e.symm;omega);have lX:=za6 hg X1.X (fun e=>by have:=dF _ e.symm;omega);have j8:=za6 hg A1.X (fun e=>by have:=dF _ e.symm;omega);refine⟨aC.trans (ha.mono aC.size),za0 ha (za2 dS) dS,za0 ha (za2 lX) lX,za0 ha (za2 j8) j8,zS _ _,za2 j8,xZ _ _ _ _,?_⟩;rw[yb,yw]at ae;rw[HM.X];exact ae.alloc _
     obtain⟨gl,cl,e⟩:=zr1 ae (zn1 aW ⟨_,_,_,rfl⟩);rw[yb]at e;subst e;obtain⟨x0,x1⟩:=za1 Q2.x)
    clear ae hg a_ aW bU dF))
 clear p0 p1 x0 x1;obtain⟨kb,fw⟩:=nmd w2.heap.size;rw[fw.X]at Q2⊢;generalize w2.alloc _=W2 at*;go_loopw[6,7] (fun td t wr=>∃(k:Nat) (rs:Value) (o:List RT),k<=n/\t=ze zd k/\td=.bool true/\sno R rv k=o/\SQ w wr kb (za ra n rc) (za (some ⟨bl,ol,none⟩) m lc) (ze zd rv) (za xx 0 cr) rs (za (some ⟨gl,0,none⟩) m cl) o L) (fun _ t _=>n - (intOf t).toNat)
 case atStart=>exact⟨0,za none 0 0,[],xi _,rfl,by first|rfl|simp,rfl,Q2.X⟩
 case round=>
  clear Q2 B1 P1 X1 A1 O1;obtain⟨k,rs,o,hk,rfl,rfl,bu,hQ⟩:=hrel;have Q3:Hid _:=hQ;have dD:Hid _:=bu;have sP:Hid ((∀x∈o,x∈R)/\o.length<=k+1):=by
   rw[<-bu];exact⟨yC0,Nat.le_succ_of_le yE9⟩
  clear hQ bu;obtain⟨ko,dL⟩:=nmd o.length;have ay:ko<=k+1:=by rw[<-dL.X];exact sP.2
  obtain⟨p0,p1⟩:=za1 Q3.p;obtain⟨x0,x1⟩:=za1 Q3.x;by_cases ah:k<n
  ·have gV:(k:Int)<(n:Int):=by omega
   have dr:k<R.length:=by rw[HN.X];exact ah
   obtain⟨b,off,e,r1,r2,-⟩:=(HR.below Q3.b) k dr;have bA:Hid (∀W,Below w.heap.size w W->W.cell? ⟨b,off+k*2,none⟩=some (ze zd (R.getD k rt0).v)/\W.cell? ⟨b,off+k*2+1,none⟩=some (.slice (R.getD k rt0).a (R.getD k rt0).ids.length (R.getD k rt0).c)):=fun W hW=>by
    obtain⟨b2,cV,e2,q1,q2,_⟩:=(HR.below hW) k dr;rw[e]at e2;simp only[xT,qg,qt]at e2;obtain⟨rfl,rfl⟩:=e2;exact⟨q1,q2⟩
   have fX:Hid _:=y55 dD.X dr;subst e;generalize R.getD k rt0=x at*;obtain⟨xv,xa,cH,xc⟩:=x;simp only at r1 r2 bA;obtain⟨y,HY⟩:=nmd cH.length;simp only[HY.X]at r2 bA;by_cases h2:xv=rv
   ·skip
    have aY:Hid _:=fX.1 h2;have g2:(xv !=rv)=false:=by simp;omega
    have bw:Hid _:=dL.X;clear dD fX h2
    go_wp2_with fail
    go_quiet (fail)
    have Q8:Hid _:=Q3.below (xC (y5 _ _) nq);clear Q3 p0 p1 x0 x1 r1 r2;generalize wr.drewN nq=W8 at*;obtain⟨p0,p1⟩:=za1 Q8.p;obtain⟨x0,x1⟩:=za1 Q8.x;obtain⟨r1,r2⟩:=bA.X _ Q8.b
    go_wp2_with fail
    go_quiet (fail)
    have Q9:Hid _:=Q8.below (xC (y5 _ _) nq);clear Q8 p0 p1 x0 x1 r1 r2;generalize W8.drewN nq=W9 at*;obtain⟨p0,p1⟩:=za1 Q9.p;obtain⟨x0,x1⟩:=za1 Q9.x;obtain⟨r1,r2⟩:=bA.X _ Q9.b;go_wp2;go_roundw
    case rel=>exact⟨k+1,_,_,by omega,by first|rfl|go_num,rfl,aY.X,Q9.X⟩
    case measure=>simp[intOf];omega
   ·skip
    have aY:Hid _:=fX.2 h2;have g2:(xv !=rv)=true:=by simp;omega
    have bw:Hid _:=dL.X;clear dD fX h2
    go_wp2_with fail
    go_quiet (fail)
    have Q8:Hid _:=Q3.below (xC (y5 _ _) nq);clear Q3 p0 p1 x0 x1 r1 r2;generalize wr.drewN nq=W8 at*;obtain⟨p0,p1⟩:=za1 Q8.p;obtain⟨x0,x1⟩:=za1 Q8.x;obtain⟨r1,r2⟩:=bA.X _ Q8.b
    go_wp2_with fail
    go_quiet (fail)
    have Q9:Hid _:=Q8.below (xC (y5 _ _) nq);clear Q8 p0 p1 x0 x1 r1 r2;generalize W8.drewN nq=W9 at*;obtain⟨p0,p1⟩:=za1 Q9.p;obtain⟨x0,x1⟩:=za1 Q9.x;obtain⟨r1,r2⟩:=bA.X _ Q9.b;have kS:=xr (za1 Q9.o).1 (xr p0 (xr r1 r2))
    go_wp2_with fail
    refine ze4 (S:=(fun W=>W.cell? ⟨kb,0,none⟩=some rs/\W.cell? ⟨w.heap.size,0,none⟩=some (za (some ⟨b,off,none⟩) n rc)/\W.cell? ⟨b,off+k*2,none⟩=some (ze zd xv)/\W.cell? ⟨b,off+k*2+1,none⟩=some (za xa y xc))) 10 (by kernel_rfl) ?_ fun aa=> ?_
    ·exact kS
    have Q1:Hid _:=Q9.below (y5 _ _).drew;clear Q9 p0 p1 r1 r2 x0 x1 kS;generalize W9.drew=W1 at*;have QA:Hid (SQ w (W1.alloc (zg #[ze zd xv,za xa y xc] 80)) kb (za (some ⟨b,off,none⟩) n rc) (za (some ⟨bl,ol,none⟩) m lc) (ze zd rv) (za xx 0 cr) rs (za (some ⟨gl,0,none⟩) m cl) o L):=Q1.below (zP _);obtain⟨o0,o1⟩:=za1 Q1.o;obtain⟨ly,pE⟩:=za1 QA.o;have lk:(fun W=>W.cell? ⟨kb,0,none⟩=some rs/\W.cell? ⟨w.heap.size,0,none⟩=some (za (some ⟨b,off,none⟩) n rc)/\W.cell? ⟨b,off+k*2,none⟩=some (ze zd xv)/\W.cell? ⟨b,off+k*2+1,none⟩=some (za xa y xc)) (W1.alloc (zg #[ze zd xv,za xa y xc] 80)):=⟨ly,(za1 QA.p).1,bA.X _ QA.b⟩;refine tkZ 0 aa ?_;refine tkZ 1 aa ?_;refine tkZ 2 aa ?_;refine tkZ 3 aa ?_;refine tkZ 4 aa ?_;refine tkZ 5 aa ?_;refine tkZ 6 aa ?_;refine rdZ 7 fun K hK=> ?_;go_simp;refine hoW hK lk fun aa=> ?_;clear hK K;refine rdZ 8 fun K hK=> ?_;refine zd3 qB zm8 (by rfl) (by omega) rfl (.tmp 53) (.tmp 59) rfl (w.heap.size+3) rs (ko) (zj5 o) rfl (by have:=QA.r;rw[bw.X]at this;exact this) W1.heap.size 0 1 1 [ze zd xv,za xa y xc] rfl rfl (ze0 _ _ _ _ _ rfl) (by simp[zq]) (by omega) (by omega) (by have:=za2 Q1.a;simp;omega) ?_;intro v' w4 ho hg a_ gJ;rcases own_kinds ho with⟨_,e0⟩|⟨g4,c4,e4,-,-⟩
    ·omega
    subst e4;have Q5:Hid _:=QA.more ⟨xv,xa,cH,xc⟩ HY.X bw.X hg ho;have X4:=QA.moreO hg;have em:(fun W=>W.cell? ⟨kb,0,none⟩=some rs/\W.cell? ⟨w.heap.size,0,none⟩=some (za (some ⟨b,off,none⟩) n rc)/\W.cell? ⟨b,off+k*2,none⟩=some (ze zd xv)/\W.cell? ⟨b,off+k*2+1,none⟩=some (za xa y xc)) w4:=⟨(za1 X4.2.1).1,X4.1,bA.X _ X4.2.2⟩;obtain⟨x4,y4⟩:=za1 X4.2.1;have xf:=fun i=>yZ _ _ i _ _ X4.2.1;clear ho hg a_ gJ X4;refine hoW hK em fun aa=> ?_;clear hK K;refine tkZ 9 aa ?_;refine rdL 10 fun K hK=> ?_;go_simp;refine hK.out _ _ ?_;clear hK K;refine zh3 (by kernel_rfl) ?_ _;clear aa xf x4 y4 em lk ly pE o0 o1 QA Q1;generalize w4.setCell ⟨kb,0,none⟩ _=W5 at*;go_wp2;go_roundw
    case rel=>exact⟨k+1,_,_,by omega,by first|rfl|go_num,rfl,aY.X,Q5.X⟩
    case measure=>simp[intOf];omega
  ·have gV:¬((k:Int)<(n:Int)):=by omega
   have cW:k=n:=by omega
   obtain⟨o0,o1⟩:=za1 Q3.o;have of:=fun i=>yZ _ _ i _ _ Q3.o;have mC:Hid (yH3 R rv=o):=by
    show _=_;have h:=dD.X;rw[cW,<-HN.X,yD6]at h;exact h
   clear cW dD;obtain⟨ga,ca,e⟩:∃ga ca,rs=za ga ko ca:=by
    rcases own_kinds Q3.r with⟨e,h0⟩|⟨g,c,e,_,_⟩
    ·exact⟨none,0,by rw[e,<-dL.X,h0]⟩
    ·exact⟨_,c,by rw[e,dL.X]⟩
   subst e;have bw:Hid _:=dL.X;have jZ:Hid (za9 wr ga o):=SQ.at (o:=o) (r:=⟨0,none,[],0⟩) (R:=R) (by rw[bw.X];exact Q3.X) HR.X (by intro j hj;simp at hj) (fun x hx=>.inl (sP.1 x hx));have C:=zq0 ga gl 0 ca cl o L wr jZ.X (zd4 (by have:=Q3.l;rw[HM.X]at this;exact this)) (by rw[bw.X];omega) (fun x hx=>HI.X x (sP.1 x hx)) (by rw[HM.X];omega);rw[bw.X,HM.X]at C
   go_wp2_with(first
    |(go_at_call 40
      go_must(refine C.mono ?_)
      rintro e w5 ⟨nE,m',mH,nO,S5,rfl,fs,fA,ec⟩;have AR:=za0 fs (za2 Q3.a) Q3.a;obtain⟨a0,a1⟩:=za1 AR;have af:=fun i=>yZ _ _ i _ _ AR;have mS:S5.length=o.length:=by have:=congrArg zo fA;simpa using this
      have B5:Hid _:=Q3.b.trans (fs.mono Q3.b.size);have O5:Hid (PO w5 (w.heap.size+3) (za nE S5.length m') S5 (za (some ⟨mH,0,none⟩) L.length nO) L):=by
       rw[mS];exact ec.base (by have:=za2 Q3.a;omega)
      have Aj:Hid (S5.map RT.key=(yH3 R rv).map RT.key):=by show _=_;rw[mC.X];exact fA
      have wP:Hid _:=mS.trans bw.X;rw[bw.X,HM.X];clear fs fA ec mS AR))
   refine xe (v:=.agg #[za nE ko m',za (some ⟨mH,0,none⟩) m nO]) (by simp[results,Tryz.results72,go_sem,a0,a1]) rfl ⟨nE,m',mH,nO,S5,by rw[wP.X,HM.X],?_,Aj.X,?_⟩
   ·repeat(first|with_reducible exact B5.X|refine xq ?_ (by simp<;>omega) _)
   ·refine PO.base (base:=w.heap.size+3) ?_ (by omega)
    repeat(first|with_reducible exact O5.X|refine PO.set ?_ (by omega))
