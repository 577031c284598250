import Derived.Test.YtkchnomkiboihaaGreatPack2
import Derived.Test.YtkchnomkiboihaaGreatPack5
import Derived.Test.YtkchnomkiboihaaGreatPack6
import Derived.Deep.CutRange
set_option linter.unusedSimpArgs false
set_option maxHeartbeats 8000000
namespace Go.Proofs.YtkchnomkiboihaaGreat
open RowKit renaming Below→Za,Hid→Zb
theorem qB:type_of% @Go.Proofs.Tryz.underlying31:=@Go.Proofs.Tryz.underlying31
open Value renaming slice→za,int→ze,ownBlock→zm,oneCell'→zq
open IntKind renaming i64→zd
open Obj renaming cells→zg
open Proofs.Tryz renaming prog→zh
open Go renaming World→zi
open World renaming ownsRow→zk
open List renaming length→zo
open Go.RowKit
open Q
theorem PO.box{w:zi}{base k i:Nat}{rs ls u:Value}{S:List RT}{L:List Int}{cs:Array Value}(h:PO w base rs S ls L)(hk:w.heap[k]? =some (.cells cs 33 (0,0))):PO (w.setCell ⟨k,i,none⟩ u) base rs S ls L:=
 ⟨qm h.r (zg4 h.r hk (by decide)) _,fun s hs=>qm (h.s s hs) (zg4 (h.s s hs) hk (by decide)) _,qm h.l (zg4 h.l hk (by decide)) _⟩
theorem PO.more{w w':zi}{base:Nat}{rs jm ls:Value}{S:List RT}{L:List Int}{r:RT}(h:PO w base rs S ls L)(hr:w.ownsRow base 2 1 (za r.a r.ids.length r.c) r.ids.length (r.ids.map (ze zd)))(hg:w.grownBy w' rs.ownBlock)(ho:w'.ownsRow base 80 2 jm (S.length+1) (zj5 S++zq1 r)):PO w' base jm (S++[r]) ls L:=by
 have keep:∀(v:Value) n xs,w.ownsRow base 2 1 v n xs->w'.ownsRow base 2 1 v n xs:=fun v n xs hv=>by
  refine hv.kept hg ?_;rcases h.rv with⟨e,_⟩|⟨g,c,e,_,_⟩
  ·rw[e]at hg⊢
   cases hb:v.ownBlock with
   |none=>exact .inl rfl
   |some q=>exact .inr (by simp[zm])
  ·rw[e]
   refine .inr fun e2=> ?_;have aM:∃cs,w.heap[g]? =some (.cells cs 80 (0,0)):=by
    have h2:=h.r;rw[e]at h2;obtain⟨_,⟨h3,_⟩|⟨g',ac,az,h3,_,h4,_⟩⟩:=h2
    ·cases h3
    ·simp only[qA,x7,qg]at h3
     exact⟨az,by rw[h3.1.1];exact h4⟩
   obtain⟨cs,aJ⟩:=aM;exact zg4 hv aJ (by decide) e2
 refine⟨?_,fun s hs=> ?_,keep _ _ _ h.l⟩
 ·rw[xY,zp7,show zj5 [r]=zq1 r by simp[zj5]]
  exact ho
 ·rcases yj.1 hs with hs|hs
  ·exact keep _ _ _ (h.s s hs)
  ·have:s=r:=by simpa using hs
   subst this;exact keep _ _ _ hr
structure CQ(w W:zi)(kb:Nat)(p0 p1 rs ls:Value)(S:List RT)(L:List Int):Prop where
 b:Za w.heap.size w W
 p:W.heap[w.heap.size]? =some (zg #[p0,p1] 33 (0,0))
 a:W.heap[w.heap.size+1]? =some (zg #[za none 0 0,za none 0 0] 33 (0,0))
 o:W.heap[kb]? =some (zg #[rs,ls] 33 (0,0))
 k:w.heap.size+1<kb
 q:PO W (w.heap.size+2) rs S ls L
theorem CQ.below{w W W':zi}{kb:Nat}{p0 p1 rs ls:Value}{S:List RT}{L:List Int}(h:CQ w W kb p0 p1 rs ls S L)(hb:Za W.heap.size W W'):CQ w W' kb p0 p1 rs ls S L:=
 ⟨h.b.trans (hb.mono h.b.size),za0 hb (za2 h.p) h.p,za0 hb (za2 h.a) h.a,za0 hb (za2 h.o) h.o,h.k,h.q.below hb⟩
theorem CQ.moreO{w W w4:zi}{kb:Nat}{p0 p1 rs ls:Value}{S:List RT}{L:List Int}(h:CQ w W kb p0 p1 rs ls S L)(hg:W.grownBy w4 rs.ownBlock):w4.cell? ⟨w.heap.size,0,none⟩=some p0/\w4.heap[kb]? =some (zg #[rs,ls] 33 (0,0))/\Za w.heap.size w w4:=by
 have vA:∀j cs,W.heap[j]? =some (.cells cs 33 (0,0))->some j≠rs.ownBlock:=fun j cs hj e=>zg4 h.q.r hj (by decide) e.symm
 exact⟨(za1 (za6 hg h.p (vA _ _ h.p))).1,za6 hg h.o (vA _ _ h.o),h.b.grown hg h.b.size (fun j e=>by have:=(h.q.r.lt j e).1;omega)⟩
theorem CQ.more{w W w4:zi}{kb k q g3 c3:Nat}{p0 p1 rs ls v':Value}{S:List RT}{L ay:List Int}{rv:Int}(h:CQ w W kb p0 p1 rs ls S L)(hq:ay.length=q)(hk:S.length=k)(hs:W.ownsRow (w.heap.size+2) 2 1 (za (some ⟨g3,0,none⟩) q c3) q (ay.map (ze zd)))(hg:W.grownBy w4 rs.ownBlock)(ho:w4.ownsRow (w.heap.size+2) 80 2 v' (k+1) (zj5 S++[ze zd rv,za (some ⟨g3,0,none⟩) q c3])):CQ w (w4.setCell ⟨kb,0,none⟩ v') kb p0 p1 v' ls (S++[⟨rv,some ⟨g3,0,none⟩,ay,c3⟩]) L:=by
 subst hq hk;have vA:∀j cs,W.heap[j]? =some (.cells cs 33 (0,0))->some j≠rs.ownBlock:=fun j cs hj e=>zg4 h.q.r hj (by decide) e.symm
 have lS:Za w.heap.size w w4:=h.b.grown hg h.b.size (fun j e=>by have:=(h.q.r.lt j e).1;omega);have MO:=h.q.more (r:=⟨rv,some ⟨g3,0,none⟩,ay,c3⟩) hs hg ho;have fw:=h.k;have vP:=za6 hg h.o (vA _ _ h.o);have s1:=xb w4 kb 0 _ _ v' vP;refine⟨lS.setCell (by simp;omega) _,?_,?_,by simpa using s1,fw,MO.box vP⟩
 ·rw[xy _ _ _ _ (by simp;omega)];exact za6 hg h.p (vA _ _ h.p)
 ·rw[xy _ _ _ _ (by simp;omega)];exact za6 hg h.a (vA _ _ h.a)
theorem ze0(W:zi)(o0 o1:Value)(T:TypeId)(g:Nat)(hg:W.heap.size=g):∀j u,[o0,o1][j]? =some u->(W.alloc (zg #[o0,o1] T)).cell? ⟨g,0+j,none⟩=some u:=by
 subst hg;intro j u h;have hr:=zS W (zg #[o0,o1] T);rw[yb,zU _ _ j _ _ _ hr,<-h];simp
def y21(w:zi)(R:List RT)(L:List Int)(e:Ending)(w':zi):Prop:=∃ra rc gl lc S,e=.returned (.agg #[za ra R.length rc,za (some ⟨gl,0,none⟩) L.length lc])/\Za w.heap.size w w'/\S.map RT.key=R.map RT.key/\PO w' (w.heap.size+2) (za ra R.length rc) S (za (some ⟨gl,0,none⟩) L.length lc) L
theorem zy5(ra la:Option Addr)(rc lc:Nat)(R:List RT)(L:List Int)(w:zi)(hR:za9 w ra R)(hL:za3 w la L)(kQ:(la=none/\L.length=0)∨∃bl ol,la=some ⟨bl,ol,none⟩)(hn:R.length<=500)(hi:∀r∈R,r.ids≠[]/\r.ids.length<=500)(hl:L.length<=500):
 Calls zh 40 #[.agg #[za ra R.length rc,za la L.length lc]] w (y21 w R L):=by
 have HR:=za4 hR;have HL:=za4 hL;have n_:Zb _:=kQ;have HI:Zb _:=hi;clear hR hL hi kQ;obtain⟨n,HN⟩:=nmd R.length;obtain⟨m,HM⟩:=nmd L.length;rw[HN.X]at hn⊢;rw[HM.X]at hl⊢;have B1:Zb (Za w.heap.size w (((w.alloc (zg #[za ra n rc,za la m lc] 33)).alloc (zg #[za none 0 0,za none 0 0] 33)).alloc (zg #[] 2))):=((zP _).alloc (by simp) _).alloc (by simp;omega) _;have P1:Zb ((((w.alloc (zg #[za ra n rc,za la m lc] 33)).alloc (zg #[za none 0 0,za none 0 0] 33)).alloc (zg #[] 2)).heap[w.heap.size]? =some (zg #[za ra n rc,za la m lc] 33 (0,0))):=(xg _ _ (by simp;omega)).trans (xm _ _ _);have A1:Zb ((((w.alloc (zg #[za ra n rc,za la m lc] 33)).alloc (zg #[za none 0 0,za none 0 0] 33)).alloc (zg #[] 2)).heap[w.heap.size+1]? =some (zg #[za none 0 0,za none 0 0] 33 (0,0))):=(xg _ _ (by simp)).trans (xh _ _ _);have O1:Zb ((((w.alloc (zg #[za ra n rc,za la m lc] 33)).alloc (zg #[za none 0 0,za none 0 0] 33)).alloc (zg #[] 2)).ownsRow (w.heap.size+2) 2 1 (za (some ⟨w.heap.size+1+1,0,none⟩) 0 0) 0 (([]:List Int).map (ze zd))):=by
  have:=qo ((w.alloc (zg #[za ra n rc,za la m lc] 33)).alloc (zg #[za none 0 0,za none 0 0] 33)) #[] 0 (base:=w.heap.size+2) (e:=2) (size:=1) (by simp) (by unfold maxLen;omega) (by simp);show zk _ _ _ _ _ _ _;simpa using this
 go_enter Tryz.func40,Tryz.ntmps40;obtain⟨p0,p1⟩:=za1 P1.X;go_upto_region 1 with fail;go_cut [3]from 5 to 9 (fun s3 wx=>∃(kb gl cl:Nat),s3=.pointer (some ⟨kb,0,none⟩)/\CQ w wx kb (za ra n rc) (za la m lc) (za none 0 0) (za (some ⟨gl,0,none⟩) m cl) [] L)
 case first=>
  rcases n_.X with⟨h1,h2⟩|⟨bl,ol,h1⟩
  ·have Ev:m=0:=HM.X.symm.trans h2
   have OJ:L=[]:=xE h2;subst Ev h1
   go_wp2_with(at_builtin
               refine zL6 _ rfl (.tmp 5) (.tmp 7) rfl (w.heap.size+1+1) 0 0 lc rfl rfl (zT _) ?_)
   go_meet;refine⟨_,w.heap.size+1+1,0,rfl,?_⟩;subst OJ;have hA:=(y5 _ (((w.alloc (zg #[za ra n rc,za none 0 lc] 33)).alloc (zg #[za none 0 0,za none 0 0] 33)).alloc (zg #[] 2))).alloc (zT _) (zg #[za none 0 0,za (some ⟨w.heap.size+1+1,0,none⟩) 0 0] 33);have hb:=B1.X.trans (hA.mono B1.X.size);have hp:=za0 hA (za2 P1.X) P1.X;have ha:=za0 hA (za2 A1.X) A1.X;have hk:((((w.alloc (zg #[za ra n rc,za none 0 lc] 33)).alloc (zg #[za none 0 0,za none 0 0] 33)).alloc (zg #[] 2))).heap.size=w.heap.size+3:=by simp
   have ho:=zS (((w.alloc (zg #[za ra n rc,za none 0 lc] 33)).alloc (zg #[za none 0 0,za none 0 0] 33)).alloc (zg #[] 2)) (zg #[za none 0 0,za (some ⟨w.heap.size+1+1,0,none⟩) 0 0] 33);rw[hk]at ho;exact⟨hb,hp,ha,by first|exact ho|simpa using ho,by simp,⟨xZ _ _ _ _,(fun s hs=>by cases hs),O1.X.alloc _⟩⟩
  ·subst h1
   go_wp2_with(first
    |(at_builtin
      go_must(refine zc9 _ rfl (.tmp 5) (.tmp 7) rfl (w.heap.size+2) _ 0 [] rfl O1.X bl ol m lc L rfl HM.X (HL.X.below B1.X) (by omega) (by omega) (by simp) ?_)
      go_loud(
       intro lv w2 ae hg bd aX;have bW:=B1.X.size;have dF:∀k,(za (some ⟨w.heap.size+1+1,0,none⟩) 0 0).ownBlock=some k->w.heap.size+2<=k:=fun k e=>by have:=z57 e;omega
       have Q2:Zb (CQ w (w2.alloc (zg #[za none 0 0,lv] 33)) w2.heap.size (za ra n rc) (za (some ⟨bl,ol,none⟩) m lc) (za none 0 0) lv [] L):=by
        have aC:Za w.heap.size w w2:=B1.X.grown hg B1.X.size (fun k e=>by have:=dF k e;omega);have ha:Za w2.heap.size w2 (w2.alloc (zg #[za none 0 0,lv] 33)):=zP _;have dR:=za6 hg P1.X (fun e=>by have:=dF _ e.symm;omega);have j7:=za6 hg A1.X (fun e=>by have:=dF _ e.symm;omega);refine⟨aC.trans (ha.mono aC.size),za0 ha (za2 dR) dR,za0 ha (za2 j7) j7,zS _ _,za2 j7,⟨xZ _ _ _ _,(fun s hs=>by cases hs),?_⟩⟩;rw[yb,yw]at ae;rw[HM.X];exact ae.alloc _
       obtain⟨gl,cl,e⟩:=zr0 ae (zn1 aX ⟨_,_,_,rfl⟩);rw[yb]at e;subst e)
      clear ae hg bd aX bW dF))
   go_meet;exact⟨w2.heap.size,gl,cl,rfl,Q2.X⟩
 case rest=>
  obtain⟨kb,gl,cl,rfl,Kq⟩:=hcut;have Q2:Zb _:=Kq;clear Kq p0 p1;obtain⟨W2,jM⟩:∃v,v=wc:=⟨_,rfl⟩;subst jM
  go_wp2_with fail
  go_loopw[4] (fun t wr=>∃(k:Nat) (rs:Value) (S:List RT),k<=n/\t=ze zd k/\S.map RT.key=(R.take k).map RT.key/\CQ w wr kb (za ra n rc) (za la m lc) rs (za (some ⟨gl,0,none⟩) m cl) S L) (fun t _=>n - (intOf t).toNat)
  case atStart=>exact⟨0,za none 0 0,[],xi _,rfl,rfl,Q2.X⟩
  case round=>
   clear Q2 B1 P1 A1 O1;obtain⟨k,rs,S,hk,rfl,dg,hQ⟩:=hrel;have Q3:Zb _:=hQ;have nz:Zb _:=dg;have Be:S.length=k:=by
    have:=congrArg zo dg;simp only[qz,yh,HN.X]at this;omega
   have lQ:=za4 Be;clear hQ dg Be;obtain⟨p0,p1⟩:=za1 Q3.X.p;by_cases ah:k<n
   ·have ik:(k:Int)<(n:Int):=by omega
    have dt:k<R.length:=by rw[HN.X];exact ah
    obtain⟨b,off,e,r1,r2,i3⟩:=(HR.X.below Q3.X.b) k dt;have bI:R.getD k rt0∈R:=by rw[zQ,zR dt];simp
    obtain⟨aq,ly⟩:=HI.X _ bI;have bw:Zb (∀W,Za w.heap.size w W->W.cell? ⟨b,off+k*2,none⟩=some (ze zd (R.getD k rt0).v)/\W.cell? ⟨b,off+k*2+1,none⟩=some (.slice (R.getD k rt0).a (R.getD k rt0).ids.length (R.getD k rt0).c)):=fun W hW=>by
     obtain⟨b2,cW,e2,q1,q2,_⟩:=(HR.X.below hW) k dt;rw[e]at e2;simp only[x7,qg,qt]at e2;obtain⟨rfl,rfl⟩:=e2;exact⟨q1,q2⟩
    have lF:Zb (R.take (k+1)=R.take k++[R.getD k rt0]):=by
     show _=_;rw[yq dt];simp[List.getD,dt]
    subst e;generalize R.getD k rt0=r at*;obtain⟨rv,iA,ay,dE⟩:=r;simp only at r1 r2 i3 aq ly;have fO:=xV.2 aq;obtain⟨b',aR,e',-⟩:=i3 0 fO;subst e';have I3:=za4 i3;obtain⟨q,HQ⟩:=nmd ay.length;simp only[HQ.X]at r2 ly fO bw;clear i3 aq bI;obtain⟨o0,o1⟩:=za1 Q3.X.o;have of:=fun i=>yZ _ _ i _ _ Q3.X.o;have kS:=xr p0 (xr o0 (xr r1 r2));have dA:=za2 Q3.X.o
    go_wp2_with fail
    -- REGION
    refine ze4 (S:=(fun W=>W.cell? ⟨w.heap.size,0,none⟩=some (za (some ⟨b,off,none⟩) n rc)/\W.cell? ⟨kb,0,none⟩=some rs/\W.cell? ⟨b,off+k*2,none⟩=some (ze zd rv)/\W.cell? ⟨b,off+k*2+1,none⟩=some (za (some ⟨b',aR,none⟩) q dE))) 20 (by kernel_rfl) ?_ fun aa=> ?_
    ·exact kS
    have Q1:Zb _:=Q3.X.below (y5 _ _).drew;have I1:=za4 (I3.X.below (y5 _ _).drew);clear Q3 I3 p0 p1 r1 r2 o0 o1 of kS;generalize wr.drew=W1 at*;have QA:Zb (CQ w (W1.alloc (zg #[] 2)) kb (za (some ⟨b,off,none⟩) n rc) (za la m lc) rs (za (some ⟨gl,0,none⟩) m cl) S L):=Q1.X.below (zP _);obtain⟨o0,o1⟩:=za1 Q1.X.o;obtain⟨lK,oY⟩:=za1 QA.X.o;have kU:(fun W=>W.cell? ⟨w.heap.size,0,none⟩=some (za (some ⟨b,off,none⟩) n rc)/\W.cell? ⟨kb,0,none⟩=some rs/\W.cell? ⟨b,off+k*2,none⟩=some (ze zd rv)/\W.cell? ⟨b,off+k*2+1,none⟩=some (za (some ⟨b',aR,none⟩) q dE)) (W1.alloc (zg #[] 2)):=⟨(za1 QA.X.p).1,(za1 QA.X.o).1,bw.X _ QA.X.b⟩;refine tkZ 0 aa ?_;refine tkZ 1 aa ?_;refine tkZ 2 aa ?_;refine tkZ 3 aa ?_;refine tkZ 4 aa ?_;refine tkZ 5 aa ?_;refine tkZ 6 aa ?_;refine tkZ 7 aa ?_;refine tkZ 9 aa ?_;refine tkZ 10 aa ?_;refine tkZ 11 aa ?_;refine tkZ 12 aa ?_;refine tkZ 13 aa ?_;refine tkZ 14 aa ?_;refine rdZ 8 fun K hK=> ?_;go_simp;refine hoW hK kU fun aa=> ?_;clear hK K;refine rdZ 15 fun K hK=> ?_;refine zd7 rfl (.tmp 25) (.tmp 31) rfl W1.heap.size (za (some ⟨W1.heap.size,0,none⟩) 0 0) [] 0 rfl (qo W1 #[] 0 (zT _) (by unfold maxLen;omega) (by simp)) b' aR q dE ay rfl HQ.X (I1.X.below (zP _)) (by omega) (by omega) (by simp) ?_;intro v3 w3 ho hg hn;obtain⟨g3,c3,e3⟩:=zr0 ho (zn1 hn ⟨_,_,_,rfl⟩);rw[yb]at e3;subst e3;have gY:Za W1.heap.size W1 w3:=((y5 W1.heap.size W1).alloc (zT _) _).grown hg (by simp) (fun k e=>z57 e);have Q4:Zb _:=Q1.X.below gY;have O4:Zb (w3.ownsRow (w.heap.size+2) 2 1 (za (some ⟨g3,0,none⟩) q c3) q (ay.map (ze zd))):=by
     rw[yb,yw]at ho;exact zb5 ho (by have:=za2 Q1.X.a;omega)
    have ot:(fun W=>W.cell? ⟨w.heap.size,0,none⟩=some (za (some ⟨b,off,none⟩) n rc)/\W.cell? ⟨kb,0,none⟩=some rs/\W.cell? ⟨b,off+k*2,none⟩=some (ze zd rv)/\W.cell? ⟨b,off+k*2+1,none⟩=some (za (some ⟨b',aR,none⟩) q dE)) w3:=⟨(za1 Q4.X.p).1,(za1 Q4.X.o).1,bw.X _ Q4.X.b⟩;have QB:Zb (CQ w (w3.alloc (zg #[ze zd rv,za (some ⟨g3,0,none⟩) q c3] 80)) kb (za (some ⟨b,off,none⟩) n rc) (za la m lc) rs (za (some ⟨gl,0,none⟩) m cl) S L):=Q4.X.below (zP _);have OB:Zb (zk (w3.alloc (zg #[ze zd rv,za (some ⟨g3,0,none⟩) q c3] 80)) (w.heap.size+2) 2 1 (za (some ⟨g3,0,none⟩) q c3) q (ay.map (ze zd))):=O4.X.alloc _;have nM:(fun W=>W.cell? ⟨w.heap.size,0,none⟩=some (za (some ⟨b,off,none⟩) n rc)/\W.cell? ⟨kb,0,none⟩=some rs/\W.cell? ⟨b,off+k*2,none⟩=some (ze zd rv)/\W.cell? ⟨b,off+k*2+1,none⟩=some (za (some ⟨b',aR,none⟩) q dE)) (w3.alloc (zg #[ze zd rv,za (some ⟨g3,0,none⟩) q c3] 80)):=⟨(za1 QB.X.p).1,(za1 QB.X.o).1,bw.X _ QB.X.b⟩;obtain⟨x0,x1⟩:=za1 Q4.X.o;obtain⟨vd,vG⟩:=za1 QB.X.o;clear ho hg hn gY;refine hoW hK ot fun aa=> ?_;clear hK K;refine tkZ 16 aa ?_;refine rdZ 17 fun K hK=> ?_;go_simp;refine hoW hK nM fun aa=> ?_;clear hK K;refine rdZ 18 fun K hK=> ?_;refine zd3 qB zm8 (by rfl) (by omega) rfl (.tmp 18) (.tmp 34) rfl (w.heap.size+2) rs k (zj5 S) rfl (by rw[<-lQ.X];exact QB.X.q.r) w3.heap.size 0 1 1 [ze zd rv,za (some ⟨g3,0,none⟩) q c3] rfl rfl (ze0 _ _ _ _ _ rfl) (by simp[zq]) (by omega) (by omega) (by have:=za2 Q4.X.a;simp;omega) ?_;intro v' w4 ho hg bd hn;rcases own_kinds ho with⟨_,e0⟩|⟨g4,c4,e4,-,-⟩
    ·omega
    subst e4;have Q5:Zb _:=QB.X.more HQ.X lQ.X OB.X hg ho;have X4:=QB.X.moreO hg;have em:(fun W=>W.cell? ⟨w.heap.size,0,none⟩=some (za (some ⟨b,off,none⟩) n rc)/\W.cell? ⟨kb,0,none⟩=some rs/\W.cell? ⟨b,off+k*2,none⟩=some (ze zd rv)/\W.cell? ⟨b,off+k*2+1,none⟩=some (za (some ⟨b',aR,none⟩) q dE)) w4:=⟨X4.1,(za1 X4.2.1).1,bw.X _ X4.2.2⟩;obtain⟨x4,y4⟩:=za1 X4.2.1;have xf:=fun i=>yZ _ _ i _ _ X4.2.1;clear ho hg bd hn X4;refine hoW hK em fun aa=> ?_;clear hK K;refine tkZ 19 aa ?_;refine rdL 20 fun K hK=> ?_;go_simp;refine hK.out _ _ ?_;clear hK K;refine zh4 (by kernel_rfl) ?_ _;clear aa xf x4 y4 em x0 x1 vd vG nM ot kU lK oY o0 o1 QB OB Q4 O4 QA Q1 I1;generalize w4.setCell ⟨kb,0,none⟩ _=W5 at*;go_wp2;go_roundw
    case rel=>
     refine⟨k+1,_,_,by omega,by first|rfl|go_num,?_,Q5.X⟩;rw[lF.X,x8,x8,nz.X];rfl
    case measure=>simp[intOf];omega
    -- NOIGER
   ·have ik:¬((k:Int)<(n:Int)):=by omega
    have cV:k=n:=by omega
    obtain⟨a0,a1⟩:=za1 Q3.X.a;have af:=fun i=>yZ _ _ i _ _ Q3.X.a;obtain⟨o0,o1⟩:=za1 Q3.X.o;have o7:Zb (S.map RT.key=R.map RT.key):=by
     show _=_;rw[nz.X,cV,<-HN.X,ym]
    have tg:S.length=n:=by rw[lQ.X];exact cV
    obtain⟨ga,ca,e⟩:∃ga ca,rs=za ga n ca:=by
     rcases Q3.X.q.rv with⟨e,h0⟩|⟨g,c,e,_,_⟩
     ·exact⟨none,0,by rw[e,<-tg,h0]⟩
     ·exact⟨_,c,by rw[e,tg]⟩
    subst e;clear cV tg lQ nz;go_wp2;refine xe (v:=.agg #[za ga n ca,za (some ⟨gl,0,none⟩) m cl]) (by simp[results,Tryz.results40,go_sem,a0,a1]) rfl ⟨ga,ca,gl,cl,S,by rw[HN.X,HM.X],?_,o7.X,?_⟩
    ·repeat(first|with_reducible exact Q3.X.b|refine xq ?_ (by simp<;>omega) _)
    ·rw[HN.X,HM.X]
     repeat(first|with_reducible exact Q3.X.q|refine PO.set ?_ (by omega))
theorem zq0(ra:Option Addr)(bl ol rc lc:Nat)(R:List RT)(L:List Int)(w:zi)(hR:za9 w ra R)(hL:za3 w (some ⟨bl,ol,none⟩) L)(hn:R.length<=500)(hi:∀r∈R,r.ids≠[]/\r.ids.length<=500)(hl:L.length<=500):
 Calls zh 40 #[.agg #[za ra R.length rc,za (some ⟨bl,ol,none⟩) L.length lc]] w (y21 w R L):=zy5 ra _ rc lc R L w hR hL (.inr ⟨_,_,rfl⟩) hn hi hl
structure SQ(w W:zi)(kb:Nat)(p0 p1 r0 r1 rs ls:Value)(oo:List RT)(L:List Int):Prop where
 b:Za w.heap.size w W
 p:W.heap[w.heap.size]? =some (zg #[p0,p1] 33 (0,0))
 x:W.heap[w.heap.size+1]? =some (zg #[r0,r1] 80 (0,0))
 a:W.heap[w.heap.size+2]? =some (zg #[za none 0 0,za none 0 0] 33 (0,0))
 o:W.heap[kb]? =some (zg #[rs,ls] 33 (0,0))
 k:w.heap.size+2<kb
 r:W.ownsRow (w.heap.size+3) 80 2 rs oo.length (zj5 oo)
 l:W.ownsRow (w.heap.size+3) 2 1 ls L.length (L.map (ze zd))
theorem SQ.below{w W W':zi}{kb:Nat}{p0 p1 r0 r1 rs ls:Value}{o:List RT}{L:List Int}(h:SQ w W kb p0 p1 r0 r1 rs ls o L)(hb:Za W.heap.size W W'):SQ w W' kb p0 p1 r0 r1 rs ls o L:=
 ⟨h.b.trans (hb.mono h.b.size),za0 hb (za2 h.p) h.p,za0 hb (za2 h.x) h.x,za0 hb (za2 h.a) h.a,za0 hb (za2 h.o) h.o,h.k,zb9 h.r hb,zb9 h.l hb⟩
theorem SQ.np{w W:zi}{kb:Nat}{p0 p1 r0 r1 rs ls:Value}{o:List RT}{L:List Int}(h:SQ w W kb p0 p1 r0 r1 rs ls o L):∀j cs,W.heap[j]? =some (.cells cs 33 (0,0))->some j≠rs.ownBlock:=fun j cs hj e=>zg4 h.r hj (by decide) e.symm
theorem SQ.nx{w W:zi}{kb:Nat}{p0 p1 r0 r1 rs ls:Value}{o:List RT}{L:List Int}(h:SQ w W kb p0 p1 r0 r1 rs ls o L):some (w.heap.size+1)≠rs.ownBlock:=fun e=>by
 have:=(h.r.lt _ e.symm).1;omega
theorem SQ.moreO{w W w4:zi}{kb:Nat}{p0 p1 r0 r1 rs ls:Value}{o:List RT}{L:List Int}(h:SQ w W kb p0 p1 r0 r1 rs ls o L)(hg:W.grownBy w4 rs.ownBlock):w4.cell? ⟨w.heap.size,0,none⟩=some p0/\w4.heap[kb]? =some (zg #[rs,ls] 33 (0,0))/\Za w.heap.size w w4:=
 ⟨(za1 (za6 hg h.p (h.np _ _ h.p))).1,za6 hg h.o (h.np _ _ h.o),h.b.grown hg h.b.size (fun j e=>by have:=(h.r.lt j e).1;omega)⟩
theorem SQ.more{w W w4:zi}{kb k q:Nat}{p0 p1 r0 r1 rs ls v':Value}{o:List RT}{L:List Int}(x:RT)(h:SQ w W kb p0 p1 r0 r1 rs ls o L)(hq:x.ids.length=q)(hk:o.length=k)(hg:W.grownBy w4 rs.ownBlock)(ho:w4.ownsRow (w.heap.size+3) 80 2 v' (k+1) (zj5 o++[ze zd x.v,za x.a q x.c])):SQ w (w4.setCell ⟨kb,0,none⟩ v') kb p0 p1 r0 r1 v' ls (o++[x]) L:=by
 subst hq hk;have lS:Za w.heap.size w w4:=h.b.grown hg h.b.size (fun j e=>by have:=(h.r.lt j e).1;omega);have fw:=h.k;have vP:=za6 hg h.o (h.np _ _ h.o);have s1:=xb w4 kb 0 _ _ v' vP;have IY:zk w4 (w.heap.size+3) 80 2 v' (o++[x]).length (zj5 (o++[x])):=by
  rw[xY,zp7,show zj5 [x]=zq1 x by simp[zj5]];exact ho
 have gT:zk w4 (w.heap.size+3) 2 1 ls L.length (L.map (ze zd)):=by
  refine h.l.kept hg ?_;rcases own_kinds h.r with⟨e,_⟩|⟨g,c,e,_,rP⟩
  ·cases hb:ls.ownBlock with
   |none=>exact .inl rfl
   |some q=>exact .inr (by rw[e];simp[zm])
  ·refine .inr fun e2=> ?_
   have aM:∃cs,W.heap[g]? =some (.cells cs 80 (0,0)):=by
    have h2:=h.r;rw[e]at h2;obtain⟨_,⟨h3,_⟩|⟨g',ac,az,h3,_,h4,_⟩⟩:=h2
    ·cases h3
    ·simp only[qA,x7,qg]at h3
     exact⟨az,by rw[h3.1.1];exact h4⟩
   obtain⟨cs,aJ⟩:=aM;rw[e]at e2;exact zg4 h.l aJ (by decide) e2
 refine⟨lS.setCell (by simp;omega) _,?_,?_,?_,by simpa using s1,fw,qm IY (zg4 IY vP (T:=33) (by decide)) _,qm gT (zg4 gT vP (T:=33) (by decide)) _⟩
 ·rw[xy _ _ _ _ (by simp;omega)];exact za6 hg h.p (h.np _ _ h.p)
 ·rw[xy _ _ _ _ (by simp;omega)];exact za6 hg h.x h.nx
 ·rw[xy _ _ _ _ (by simp;omega)];exact za6 hg h.a (h.np _ _ h.a)
theorem SQ.at{w W:zi}{kb n c:Nat}{ra a:Option Addr}{rc:Nat}{p1 r0 r1 ls:Value}{o R:List RT}{r:RT}{L:List Int}(h:SQ w W kb (za ra n rc) p1 r0 r1 (za a o.length c) ls o L)(hR:za9 w ra R)(hr:za3 w r.a r.ids)(hm:∀x∈o,x∈R∨x=r):za9 W a o:=fun j hj=>by
 rcases own_kinds h.r with⟨_,h0⟩|⟨g,c,e,_,_⟩
 ·omega
 ·simp only[qA]at e
  obtain⟨rfl,_,rfl⟩:=e;obtain⟨q1,q2⟩:=zH9 o j hj;have c1:=(zh0 h.r q1).1;have c2:=(zh0 h.r q2).1;have bI:o.getD j rt0∈o:=by rw[zQ,zR hj];simp
  refine⟨g,0,rfl,by rw[yb];exact c1,by rw[yb];exact c2,?_⟩;rcases hm _ bI with hx|hx
  ·obtain⟨i,hi,e⟩:=xU hx
   obtain⟨_,_,_,_,_,sU⟩:=hR i hi;have:R.getD i rt0=o.getD j rt0:=by rw[zQ,zR hi];simpa using e
   rw[this]at sU;exact sU.below h.b
  ·rw[hx]
   exact hr.below h.b
def yL9(w:zi)(R:List RT)(r:RT)(L:List Int)(e:Ending)(w':zi):Prop:=∃ra rc gl lc S,e=.returned (.agg #[za ra S.length rc,za (some ⟨gl,0,none⟩) L.length lc])/\Za w.heap.size w w'/\S.map RT.key=(setL R r).map RT.key/\PO w' w.heap.size (za ra S.length rc) S (za (some ⟨gl,0,none⟩) L.length lc) L
theorem yE3{R:List RT}{r:RT}{k:Nat}{o o':List RT}{d d':Bool}(h:setTo R r k=(o,d))(hk:k<R.length)(hs:zO3 r (o,d) (R.getD k rt0)=(o',d')):setTo R r (k+1)=(o',d'):=by rw[zM8 r hk,h,hs]
theorem zw6(ra:Option Addr)(bl ol rc lc br or cr:Nat)(R:List RT)(L:List Int)(rv:Int)(ay:List Int)(w:zi)(hR:za9 w ra R)(hL:za3 w (some ⟨bl,ol,none⟩) L)(hX:za3 w (some ⟨br,or,none⟩) ay)(hn:R.length<=400)(hi:∀r∈R,r.ids≠[]/\r.ids.length<=500)(hl:L.length<=500)(hr:ay≠[]/\ay.length<=500):
 Calls zh 72 #[.agg #[za ra R.length rc,za (some ⟨bl,ol,none⟩) L.length lc],.agg #[ze zd rv,za (some ⟨br,or,none⟩) ay.length cr]] w (yL9 w R ⟨rv,some ⟨br,or,none⟩,ay,cr⟩ L):=by
 have HR:=za4 hR;have HL:=za4 hL;have HX:=za4 hX;have HI:Zb _:=hi;have eV:Zb _:=hr;clear hR hL hX hi hr;obtain⟨n,HN⟩:=nmd R.length;obtain⟨m,HM⟩:=nmd L.length;have LK:=xV.2 eV.1;have Js:=eV.2;obtain⟨r,jG⟩:∃r:RT,Zb ((⟨rv,some ⟨br,or,none⟩,ay,cr⟩:RT)=r):=⟨_,rfl⟩;rw[jG.X];obtain⟨q,HQ⟩:=nmd ay.length;rw[HN.X]at hn⊢;rw[HM.X]at hl⊢;rw[HQ.X]at LK Js⊢;have Ql:¬((q:Int)=0):=by omega
 have rF:((q:Int)==0)=false:=by simp;omega
 have B1:Zb (Za w.heap.size w ((((w.alloc (zg #[za ra n rc,za (some ⟨bl,ol,none⟩) m lc] 33)).alloc (zg #[ze zd rv,za (some ⟨br,or,none⟩) q cr] 80)).alloc (zg #[za none 0 0,za none 0 0] 33)).alloc (zg #[] 2))):=(((zP _).alloc (by simp) _).alloc (by simp;omega) _).alloc (by simp;omega) _;have P1:Zb (((((w.alloc (zg #[za ra n rc,za (some ⟨bl,ol,none⟩) m lc] 33)).alloc (zg #[ze zd rv,za (some ⟨br,or,none⟩) q cr] 80)).alloc (zg #[za none 0 0,za none 0 0] 33)).alloc (zg #[] 2)).heap[w.heap.size]? =some (zg #[za ra n rc,za (some ⟨bl,ol,none⟩) m lc] 33 (0,0))):=(xg _ _ (by simp;omega)).trans ((xg _ _ (by simp;omega)).trans (xm _ _ _));have X1:Zb (((((w.alloc (zg #[za ra n rc,za (some ⟨bl,ol,none⟩) m lc] 33)).alloc (zg #[ze zd rv,za (some ⟨br,or,none⟩) q cr] 80)).alloc (zg #[za none 0 0,za none 0 0] 33)).alloc (zg #[] 2)).heap[w.heap.size+1]? =some (zg #[ze zd rv,za (some ⟨br,or,none⟩) q cr] 80 (0,0))):=(xg _ _ (by simp)).trans ((xg _ _ (by simp)).trans (xh _ _ _));have A1:Zb (((((w.alloc (zg #[za ra n rc,za (some ⟨bl,ol,none⟩) m lc] 33)).alloc (zg #[ze zd rv,za (some ⟨br,or,none⟩) q cr] 80)).alloc (zg #[za none 0 0,za none 0 0] 33)).alloc (zg #[] 2)).heap[w.heap.size+2]? =some (zg #[za none 0 0,za none 0 0] 33 (0,0))):=(xg _ _ (by simp)).trans (by
  have:=zS ((w.alloc (zg #[za ra n rc,za (some ⟨bl,ol,none⟩) m lc] 33)).alloc (zg #[ze zd rv,za (some ⟨br,or,none⟩) q cr] 80)) (zg #[za none 0 0,za none 0 0] 33);simpa using this)
 have O1:Zb (((((w.alloc (zg #[za ra n rc,za (some ⟨bl,ol,none⟩) m lc] 33)).alloc (zg #[ze zd rv,za (some ⟨br,or,none⟩) q cr] 80)).alloc (zg #[za none 0 0,za none 0 0] 33)).alloc (zg #[] 2)).ownsRow (w.heap.size+3) 2 1 (za (some ⟨w.heap.size+1+1+1,0,none⟩) 0 0) 0 (([]:List Int).map (ze zd))):=by
  have:=qo (((w.alloc (zg #[za ra n rc,za (some ⟨bl,ol,none⟩) m lc] 33)).alloc (zg #[ze zd rv,za (some ⟨br,or,none⟩) q cr] 80)).alloc (zg #[za none 0 0,za none 0 0] 33)) #[] 0 (base:=w.heap.size+3) (e:=2) (size:=1) (by simp) (by unfold maxLen;omega) (by simp);show zk _ _ _ _ _ _ _;simpa using this
 obtain⟨p0,p1⟩:=za1 P1.X;obtain⟨x0,x1⟩:=za1 X1.X;go_enter Tryz.func72,Tryz.ntmps72
 go_wp2_with(first
  |(at_builtin
    go_must(refine zc9 _ rfl (.tmp 8) (.tmp 10) rfl (w.heap.size+3) _ 0 [] rfl O1.X bl ol m lc L rfl HM.X (HL.below B1.X) (by omega) (by omega) (by simp) ?_)
    go_must(
     intro lv w2 ae hg bd aX;have bW:=B1.size;have dF:∀k,(za (some ⟨w.heap.size+1+1+1,0,none⟩) 0 0).ownBlock=some k->w.heap.size+3<=k:=fun k e=>by have:=z57 e;omega
     have Q2:Zb (SQ w (w2.alloc (zg #[za none 0 0,lv] 33)) w2.heap.size (za ra n rc) (za (some ⟨bl,ol,none⟩) m lc) (ze zd rv) (za (some ⟨br,or,none⟩) q cr) (za none 0 0) lv [] L):=by
      have aC:Za w.heap.size w w2:=B1.grown hg B1.size (fun k e=>by have:=dF k e;omega);have ha:Za w2.heap.size w2 (w2.alloc (zg #[za none 0 0,lv] 33)):=zP _;have dR:=za6 hg P1.X (fun e=>by have:=dF _ e.symm;omega);have lV:=za6 hg X1.X (fun e=>by have:=dF _ e.symm;omega);have j7:=za6 hg A1.X (fun e=>by have:=dF _ e.symm;omega);refine⟨aC.trans (ha.mono aC.size),za0 ha (za2 dR) dR,za0 ha (za2 lV) lV,za0 ha (za2 j7) j7,zS _ _,za2 j7,xZ _ _ _ _,?_⟩;rw[yb,yw]at ae;rw[HM.X];exact ae.alloc _
     obtain⟨gl,cl,e⟩:=zr0 ae (zn1 aX ⟨_,_,_,rfl⟩);rw[yb]at e;subst e;obtain⟨x0,x1⟩:=za1 Q2.x)
    clear ae hg bd aX bW dF))
 clear p0 p1 x0 x1;obtain⟨kb,fs⟩:=nmd w2.heap.size;rw[fs.X]at Q2⊢;generalize w2.alloc _=W2 at*;go_loopw[6,7] (fun td t wr=>∃(k:Nat) (rs:Value) (o:List RT) (d:Bool),k<=n/\t=ze zd k/\td=.bool d/\setTo R r k=(o,d)/\SQ w wr kb (za ra n rc) (za (some ⟨bl,ol,none⟩) m lc) (ze zd rv) (za (some ⟨br,or,none⟩) q cr) rs (za (some ⟨gl,0,none⟩) m cl) o L) (fun _ t _=>n - (intOf t).toNat)
 case atStart=>exact⟨0,za none 0 0,[],false,xi _,rfl,rfl,z89 _ _,Q2.X⟩
 case round=>
  clear Q2 B1 P1 X1 A1 O1;obtain⟨k,rs,o,d,hk,rfl,rfl,bB,hQ⟩:=hrel;have Q3:Zb _:=hQ;have dD:Zb _:=bB;have uc:Zb ((∀x∈o,x∈R∨x=r)/\o.length<=k+1):=by
   have:=z17 R r k (by rw[HN.X];exact hk);rw[bB]at this;exact⟨this.1,xj this.2 (by simp only;split<;>omega)⟩
  clear hQ bB;obtain⟨ko,dO⟩:=nmd o.length;have aA:ko<=k+1:=by rw[<-dO.X];exact uc.2
  obtain⟨p0,p1⟩:=za1 Q3.p;obtain⟨x0,x1⟩:=za1 Q3.x;by_cases ah:k<n
  ·have ik:(k:Int)<(n:Int):=by omega
   have dt:k<R.length:=by rw[HN.X];exact ah
   obtain⟨b,off,e,r1,r2,-⟩:=(HR.below Q3.b) k dt;have bw:Zb (∀W,Za w.heap.size w W->W.cell? ⟨b,off+k*2,none⟩=some (ze zd (R.getD k rt0).v)/\W.cell? ⟨b,off+k*2+1,none⟩=some (.slice (R.getD k rt0).a (R.getD k rt0).ids.length (R.getD k rt0).c)):=fun W hW=>by
    obtain⟨b2,cW,e2,q1,q2,_⟩:=(HR.below hW) k dt;rw[e]at e2;simp only[x7,qg,qt]at e2;obtain⟨rfl,rfl⟩:=e2;exact⟨q1,q2⟩
   have fT:Zb (∀o' d',zO3 r (o,d) (R.getD k rt0)=(o',d')->setTo R r (k+1)=(o',d')):=fun o' d' h=>yE3 dD.X dt h;subst e;generalize R.getD k rt0=x at*;obtain⟨xv,xa,cF,xc⟩:=x;simp only at r1 r2 bw;obtain⟨y,HY⟩:=nmd cF.length;simp only[HY.X]at r2 bw;have vX:Zb (r.v=rv):=by rw[<-jG.X];rfl
   cases d
   ·by_cases h1:xv<rv
    ·skip
     have a8:Zb _:=fT.X _ _ (yA9 (by rw[vX.X];simp only;omega));have g1:decide (rv<=xv)=false:=by simp;omega
     have g2:(xv !=rv)=true:=by simp;omega
     have bu:Zb (o.length=ko):=by show _=_;exact dO.X
     clear dD fT;clear h1
     go_wp2_with fail
     go_quiet (fail)
     have Q8:Zb _:=Q3.below (xC (y5 _ _) nq);clear Q3 p0 p1 x0 x1 r1 r2;generalize wr.drewN nq=W8 at*;obtain⟨p0,p1⟩:=za1 Q8.p;obtain⟨x0,x1⟩:=za1 Q8.x;obtain⟨r1,r2⟩:=bw.X _ Q8.b
     go_wp2_with fail
     go_quiet (fail)
     have Q9:Zb _:=Q8.below (xC (y5 _ _) nq);clear Q8 p0 p1 x0 x1 r1 r2;generalize W8.drewN nq=W9 at*;obtain⟨p0,p1⟩:=za1 Q9.p;obtain⟨x0,x1⟩:=za1 Q9.x;obtain⟨r1,r2⟩:=bw.X _ Q9.b;have kS:=xr (za1 Q9.o).1 (xr p0 (xr r1 r2))
     go_wp2_with fail
     refine ze4 (S:=(fun W=>W.cell? ⟨kb,0,none⟩=some rs/\W.cell? ⟨w.heap.size,0,none⟩=some (za (some ⟨b,off,none⟩) n rc)/\W.cell? ⟨b,off+k*2,none⟩=some (ze zd xv)/\W.cell? ⟨b,off+k*2+1,none⟩=some (za xa y xc))) 10 (by kernel_rfl) ?_ fun aa=> ?_
     ·exact kS
     have Q1:Zb _:=Q9.below (y5 _ _).drew;clear Q9 p0 p1 r1 r2 x0 x1 kS;generalize W9.drew=W1 at*;have QA:Zb (SQ w (W1.alloc (zg #[ze zd xv,za xa y xc] 80)) kb (za (some ⟨b,off,none⟩) n rc) (za (some ⟨bl,ol,none⟩) m lc) (ze zd rv) (za (some ⟨br,or,none⟩) q cr) rs (za (some ⟨gl,0,none⟩) m cl) o L):=Q1.below (zP _);obtain⟨o0,o1⟩:=za1 Q1.o;obtain⟨lK,oY⟩:=za1 QA.o;have kU:(fun W=>W.cell? ⟨kb,0,none⟩=some rs/\W.cell? ⟨w.heap.size,0,none⟩=some (za (some ⟨b,off,none⟩) n rc)/\W.cell? ⟨b,off+k*2,none⟩=some (ze zd xv)/\W.cell? ⟨b,off+k*2+1,none⟩=some (za xa y xc)) (W1.alloc (zg #[ze zd xv,za xa y xc] 80)):=⟨lK,(za1 QA.p).1,bw.X _ QA.b⟩;refine tkZ 0 aa ?_;refine tkZ 1 aa ?_;refine tkZ 2 aa ?_;refine tkZ 3 aa ?_;refine tkZ 4 aa ?_;refine tkZ 5 aa ?_;refine tkZ 6 aa ?_;refine rdZ 7 fun K hK=> ?_;go_simp;refine hoW hK kU fun aa=> ?_;clear hK K;refine rdZ 8 fun K hK=> ?_;refine zd3 qB zm8 (by rfl) (by omega) rfl (.tmp 53) (.tmp 59) rfl (w.heap.size+3) rs (ko) (zj5 o) rfl (by have:=QA.r;rw[bu.X]at this;exact this) W1.heap.size 0 1 1 [ze zd xv,za xa y xc] rfl rfl (ze0 _ _ _ _ _ rfl) (by simp[zq]) (by omega) (by omega) (by have:=za2 Q1.a;simp;omega) ?_;intro v' w4 ho hg bd gH;rcases own_kinds ho with⟨_,e0⟩|⟨g4,c4,e4,-,-⟩
     ·omega
     subst e4;have Q5:Zb _:=QA.more ⟨xv,xa,cF,xc⟩ HY.X bu.X hg ho;have X4:=QA.moreO hg;have em:(fun W=>W.cell? ⟨kb,0,none⟩=some rs/\W.cell? ⟨w.heap.size,0,none⟩=some (za (some ⟨b,off,none⟩) n rc)/\W.cell? ⟨b,off+k*2,none⟩=some (ze zd xv)/\W.cell? ⟨b,off+k*2+1,none⟩=some (za xa y xc)) w4:=⟨(za1 X4.2.1).1,X4.1,bw.X _ X4.2.2⟩;obtain⟨x4,y4⟩:=za1 X4.2.1;have xf:=fun i=>yZ _ _ i _ _ X4.2.1;clear ho hg bd gH X4;refine hoW hK em fun aa=> ?_;clear hK K;refine tkZ 9 aa ?_;refine rdL 10 fun K hK=> ?_;go_simp;refine hK.out _ _ ?_;clear hK K;refine zh4 (by kernel_rfl) ?_ _;clear aa xf x4 y4 em kU lK oY o0 o1 QA Q1;generalize w4.setCell ⟨kb,0,none⟩ _=W5 at*;go_wp2;go_roundw
     case rel=>exact⟨k+1,_,_,_,by omega,by first|rfl|go_num,rfl,a8.X,Q5.X⟩
     case measure=>simp[intOf];omega
    ·by_cases h2:xv=rv
     ·skip
      have a8:Zb _:=fT.X _ _ (yB4 (by rw[vX.X];simp only;omega));have g1:decide (rv<=xv)=true:=by simp;omega
      have g2:(xv !=rv)=false:=by simp;omega
      have bu:Zb ((o++[r]).length=(ko+1)):=by show _=_;rw[xY,dO.X];rfl
      clear dD fT;clear h1;clear h2
      go_wp2_with fail
      go_quiet (fail)
      have Q8:Zb _:=Q3.below (xC (y5 _ _) nq);clear Q3 p0 p1 x0 x1 r1 r2;generalize wr.drewN nq=W8 at*;obtain⟨p0,p1⟩:=za1 Q8.p;obtain⟨x0,x1⟩:=za1 Q8.x;obtain⟨r1,r2⟩:=bw.X _ Q8.b;obtain⟨o0,o1⟩:=za1 Q8.o;have of:=fun i=>yZ _ _ i _ _ Q8.o
      go_wp2_with(first
       |(at_builtin
         go_must(refine zk9 qB zm8 (by rfl) (by omega) _ rfl (.tmp 38) (.tmp 40) rfl (w.heap.size+3) rs ko (zj5 o) rfl (by have:=(Q8.below (zP (zg #[ze zd rv,za (some ⟨br,or,none⟩) q cr] 80))).r;rw[dO.X]at this;exact this) W8.heap.size 0 1 1 [ze zd rv,za (some ⟨br,or,none⟩) q cr] rfl rfl (ze0 _ _ _ _ _ rfl) (by simp[zq]) (by omega) (by omega) (by have:=za2 Q8.a;simp;omega) ?_)
         intro v' w6 ho hg bd hn6;rcases own_kinds ho with⟨_,e0⟩|⟨g6,c6,e6,-,-⟩
         ·omega
         subst e6;have QA:SQ w (W8.alloc (zg #[ze zd rv,za (some ⟨br,or,none⟩) q cr] 80)) kb (za (some ⟨b,off,none⟩) n rc) (za (some ⟨bl,ol,none⟩) m lc) (ze zd rv) (za (some ⟨br,or,none⟩) q cr) rs (za (some ⟨gl,0,none⟩) m cl) o L:=Q8.below (zP _);have Q6:Zb (SQ w (w6.setCell ⟨kb,0,none⟩ (za (some ⟨g6,0,none⟩) (ko+1) c6)) kb (za (some ⟨b,off,none⟩) n rc) (za (some ⟨bl,ol,none⟩) m lc) (ze zd rv) (za (some ⟨br,or,none⟩) q cr) (za (some ⟨g6,0,none⟩) (ko+1) c6) (za (some ⟨gl,0,none⟩) m cl) (o++[r]) L):=by
          rw[<-jG.X];exact QA.more ⟨rv,some ⟨br,or,none⟩,ay,cr⟩ HQ.X dO.X hg ho
         have X4:=QA.moreO hg;obtain⟨x4,y4⟩:=za1 X4.2.1;have xf:=fun i=>yZ _ _ i _ _ X4.2.1;clear ho hg bd hn6 X4 QA))
      clear x4 y4 xf o0 o1 of Q8 p0 p1 x0 x1 r1 r2;generalize w6.setCell ⟨kb,0,none⟩ _=W7 at*;obtain⟨p0,p1⟩:=za1 Q6.p;obtain⟨x0,x1⟩:=za1 Q6.x;obtain⟨r1,r2⟩:=bw.X _ Q6.b
      go_wp2_with fail
      go_quiet (fail)
      have Q9:Zb _:=Q6.below (xC (y5 _ _) nq);clear Q6 p0 p1 x0 x1 r1 r2;generalize W7.drewN nq=W9 at*;obtain⟨p0,p1⟩:=za1 Q9.p;obtain⟨x0,x1⟩:=za1 Q9.x;obtain⟨r1,r2⟩:=bw.X _ Q9.b;go_wp2;go_roundw
      case rel=>exact⟨k+1,_,_,_,by omega,by first|rfl|go_num,rfl,a8.X,Q9.X⟩
      case measure=>simp[intOf];omega
     ·skip
      have a8:Zb _:=fT.X _ _ (yB1 (by rw[vX.X];simp only;omega));have g1:decide (rv<=xv)=true:=by simp;omega
      have g2:(xv !=rv)=true:=by simp;omega
      have bu:Zb ((o++[r]).length=(ko+1)):=by show _=_;rw[xY,dO.X];rfl
      clear dD fT;clear h1;clear h2
      go_wp2_with fail
      go_quiet (fail)
      have Q8:Zb _:=Q3.below (xC (y5 _ _) nq);clear Q3 p0 p1 x0 x1 r1 r2;generalize wr.drewN nq=W8 at*;obtain⟨p0,p1⟩:=za1 Q8.p;obtain⟨x0,x1⟩:=za1 Q8.x;obtain⟨r1,r2⟩:=bw.X _ Q8.b;obtain⟨o0,o1⟩:=za1 Q8.o;have of:=fun i=>yZ _ _ i _ _ Q8.o
      go_wp2_with(first
       |(at_builtin
         go_must(refine zk9 qB zm8 (by rfl) (by omega) _ rfl (.tmp 38) (.tmp 40) rfl (w.heap.size+3) rs ko (zj5 o) rfl (by have:=(Q8.below (zP (zg #[ze zd rv,za (some ⟨br,or,none⟩) q cr] 80))).r;rw[dO.X]at this;exact this) W8.heap.size 0 1 1 [ze zd rv,za (some ⟨br,or,none⟩) q cr] rfl rfl (ze0 _ _ _ _ _ rfl) (by simp[zq]) (by omega) (by omega) (by have:=za2 Q8.a;simp;omega) ?_)
         intro v' w6 ho hg bd hn6;rcases own_kinds ho with⟨_,e0⟩|⟨g6,c6,e6,-,-⟩
         ·omega
         subst e6;have QA:SQ w (W8.alloc (zg #[ze zd rv,za (some ⟨br,or,none⟩) q cr] 80)) kb (za (some ⟨b,off,none⟩) n rc) (za (some ⟨bl,ol,none⟩) m lc) (ze zd rv) (za (some ⟨br,or,none⟩) q cr) rs (za (some ⟨gl,0,none⟩) m cl) o L:=Q8.below (zP _);have Q6:Zb (SQ w (w6.setCell ⟨kb,0,none⟩ (za (some ⟨g6,0,none⟩) (ko+1) c6)) kb (za (some ⟨b,off,none⟩) n rc) (za (some ⟨bl,ol,none⟩) m lc) (ze zd rv) (za (some ⟨br,or,none⟩) q cr) (za (some ⟨g6,0,none⟩) (ko+1) c6) (za (some ⟨gl,0,none⟩) m cl) (o++[r]) L):=by
          rw[<-jG.X];exact QA.more ⟨rv,some ⟨br,or,none⟩,ay,cr⟩ HQ.X dO.X hg ho
         have X4:=QA.moreO hg;obtain⟨x4,y4⟩:=za1 X4.2.1;have xf:=fun i=>yZ _ _ i _ _ X4.2.1;clear ho hg bd hn6 X4 QA))
      clear x4 y4 xf o0 o1 of Q8 p0 p1 x0 x1 r1 r2;generalize w6.setCell ⟨kb,0,none⟩ _=W7 at*;obtain⟨p0,p1⟩:=za1 Q6.p;obtain⟨x0,x1⟩:=za1 Q6.x;obtain⟨r1,r2⟩:=bw.X _ Q6.b
      go_wp2_with fail
      go_quiet (fail)
      have Q9:Zb _:=Q6.below (xC (y5 _ _) nq);clear Q6 p0 p1 x0 x1 r1 r2;generalize W7.drewN nq=W9 at*;obtain⟨p0,p1⟩:=za1 Q9.p;obtain⟨x0,x1⟩:=za1 Q9.x;obtain⟨r1,r2⟩:=bw.X _ Q9.b;have kS:=xr (za1 Q9.o).1 (xr p0 (xr r1 r2))
      go_wp2_with fail
      refine ze4 (S:=(fun W=>W.cell? ⟨kb,0,none⟩=some (za (some ⟨g6,0,none⟩) (ko+1) c6)/\W.cell? ⟨w.heap.size,0,none⟩=some (za (some ⟨b,off,none⟩) n rc)/\W.cell? ⟨b,off+k*2,none⟩=some (ze zd xv)/\W.cell? ⟨b,off+k*2+1,none⟩=some (za xa y xc))) 10 (by kernel_rfl) ?_ fun aa=> ?_
      ·exact kS
      have Q1:Zb _:=Q9.below (y5 _ _).drew;clear Q9 p0 p1 r1 r2 x0 x1 kS;generalize W9.drew=W1 at*;have QA:Zb (SQ w (W1.alloc (zg #[ze zd xv,za xa y xc] 80)) kb (za (some ⟨b,off,none⟩) n rc) (za (some ⟨bl,ol,none⟩) m lc) (ze zd rv) (za (some ⟨br,or,none⟩) q cr) (za (some ⟨g6,0,none⟩) (ko+1) c6) (za (some ⟨gl,0,none⟩) m cl) (o++[r]) L):=Q1.below (zP _);obtain⟨o0,o1⟩:=za1 Q1.o;obtain⟨lK,oY⟩:=za1 QA.o;have kU:(fun W=>W.cell? ⟨kb,0,none⟩=some (za (some ⟨g6,0,none⟩) (ko+1) c6)/\W.cell? ⟨w.heap.size,0,none⟩=some (za (some ⟨b,off,none⟩) n rc)/\W.cell? ⟨b,off+k*2,none⟩=some (ze zd xv)/\W.cell? ⟨b,off+k*2+1,none⟩=some (za xa y xc)) (W1.alloc (zg #[ze zd xv,za xa y xc] 80)):=⟨lK,(za1 QA.p).1,bw.X _ QA.b⟩;refine tkZ 0 aa ?_;refine tkZ 1 aa ?_;refine tkZ 2 aa ?_;refine tkZ 3 aa ?_;refine tkZ 4 aa ?_;refine tkZ 5 aa ?_;refine tkZ 6 aa ?_;refine rdZ 7 fun K hK=> ?_;go_simp;refine hoW hK kU fun aa=> ?_;clear hK K;refine rdZ 8 fun K hK=> ?_;refine zd3 qB zm8 (by rfl) (by omega) rfl (.tmp 53) (.tmp 59) rfl (w.heap.size+3) (za (some ⟨g6,0,none⟩) (ko+1) c6) ((ko+1)) (zj5 (o++[r])) rfl (by have:=QA.r;rw[bu.X]at this;exact this) W1.heap.size 0 1 1 [ze zd xv,za xa y xc] rfl rfl (ze0 _ _ _ _ _ rfl) (by simp[zq]) (by omega) (by omega) (by have:=za2 Q1.a;simp;omega) ?_;intro v' w4 ho hg bd gH;rcases own_kinds ho with⟨_,e0⟩|⟨g4,c4,e4,-,-⟩
      ·omega
      subst e4;have Q5:Zb _:=QA.more ⟨xv,xa,cF,xc⟩ HY.X bu.X hg ho;have X4:=QA.moreO hg;have em:(fun W=>W.cell? ⟨kb,0,none⟩=some (za (some ⟨g6,0,none⟩) (ko+1) c6)/\W.cell? ⟨w.heap.size,0,none⟩=some (za (some ⟨b,off,none⟩) n rc)/\W.cell? ⟨b,off+k*2,none⟩=some (ze zd xv)/\W.cell? ⟨b,off+k*2+1,none⟩=some (za xa y xc)) w4:=⟨(za1 X4.2.1).1,X4.1,bw.X _ X4.2.2⟩;obtain⟨x4,y4⟩:=za1 X4.2.1;have xf:=fun i=>yZ _ _ i _ _ X4.2.1;clear ho hg bd gH X4;refine hoW hK em fun aa=> ?_;clear hK K;refine tkZ 9 aa ?_;refine rdL 10 fun K hK=> ?_;go_simp;refine hK.out _ _ ?_;clear hK K;refine zh4 (by kernel_rfl) ?_ _;clear aa xf x4 y4 em kU lK oY o0 o1 QA Q1;generalize w4.setCell ⟨kb,0,none⟩ _=W5 at*;go_wp2;go_roundw
      case rel=>exact⟨k+1,_,_,_,by omega,by first|rfl|go_num,rfl,a8.X,Q5.X⟩
      case measure=>simp[intOf];omega
   ·by_cases h2:xv=rv
    ·skip
     have a8:Zb _:=fT.X _ _ (y70 (by rw[vX.X];simp only;omega));have g2:(xv !=rv)=false:=by simp;omega
     have bu:Zb (o.length=ko):=by show _=_;exact dO.X
     clear dD fT;clear h2
     go_wp2_with fail
     go_quiet (fail)
     have Q8:Zb _:=Q3.below (xC (y5 _ _) nq);clear Q3 p0 p1 x0 x1 r1 r2;generalize wr.drewN nq=W8 at*;obtain⟨p0,p1⟩:=za1 Q8.p;obtain⟨x0,x1⟩:=za1 Q8.x;obtain⟨r1,r2⟩:=bw.X _ Q8.b
     go_wp2_with fail
     go_quiet (fail)
     have Q9:Zb _:=Q8.below (xC (y5 _ _) nq);clear Q8 p0 p1 x0 x1 r1 r2;generalize W8.drewN nq=W9 at*;obtain⟨p0,p1⟩:=za1 Q9.p;obtain⟨x0,x1⟩:=za1 Q9.x;obtain⟨r1,r2⟩:=bw.X _ Q9.b;go_wp2;go_roundw
     case rel=>exact⟨k+1,_,_,_,by omega,by first|rfl|go_num,rfl,a8.X,Q9.X⟩
     case measure=>simp[intOf];omega
    ·skip
     have a8:Zb _:=fT.X _ _ (y99 (by rw[vX.X];simp only;omega));have g2:(xv !=rv)=true:=by simp;omega
     have bu:Zb (o.length=ko):=by show _=_;exact dO.X
     clear dD fT;clear h2
     go_wp2_with fail
     go_quiet (fail)
     have Q8:Zb _:=Q3.below (xC (y5 _ _) nq);clear Q3 p0 p1 x0 x1 r1 r2;generalize wr.drewN nq=W8 at*;obtain⟨p0,p1⟩:=za1 Q8.p;obtain⟨x0,x1⟩:=za1 Q8.x;obtain⟨r1,r2⟩:=bw.X _ Q8.b
     go_wp2_with fail
     go_quiet (fail)
     have Q9:Zb _:=Q8.below (xC (y5 _ _) nq);clear Q8 p0 p1 x0 x1 r1 r2;generalize W8.drewN nq=W9 at*;obtain⟨p0,p1⟩:=za1 Q9.p;obtain⟨x0,x1⟩:=za1 Q9.x;obtain⟨r1,r2⟩:=bw.X _ Q9.b;have kS:=xr (za1 Q9.o).1 (xr p0 (xr r1 r2))
     go_wp2_with fail
     refine ze4 (S:=(fun W=>W.cell? ⟨kb,0,none⟩=some rs/\W.cell? ⟨w.heap.size,0,none⟩=some (za (some ⟨b,off,none⟩) n rc)/\W.cell? ⟨b,off+k*2,none⟩=some (ze zd xv)/\W.cell? ⟨b,off+k*2+1,none⟩=some (za xa y xc))) 10 (by kernel_rfl) ?_ fun aa=> ?_
     ·exact kS
     have Q1:Zb _:=Q9.below (y5 _ _).drew;clear Q9 p0 p1 r1 r2 x0 x1 kS;generalize W9.drew=W1 at*;have QA:Zb (SQ w (W1.alloc (zg #[ze zd xv,za xa y xc] 80)) kb (za (some ⟨b,off,none⟩) n rc) (za (some ⟨bl,ol,none⟩) m lc) (ze zd rv) (za (some ⟨br,or,none⟩) q cr) rs (za (some ⟨gl,0,none⟩) m cl) o L):=Q1.below (zP _);obtain⟨o0,o1⟩:=za1 Q1.o;obtain⟨lK,oY⟩:=za1 QA.o;have kU:(fun W=>W.cell? ⟨kb,0,none⟩=some rs/\W.cell? ⟨w.heap.size,0,none⟩=some (za (some ⟨b,off,none⟩) n rc)/\W.cell? ⟨b,off+k*2,none⟩=some (ze zd xv)/\W.cell? ⟨b,off+k*2+1,none⟩=some (za xa y xc)) (W1.alloc (zg #[ze zd xv,za xa y xc] 80)):=⟨lK,(za1 QA.p).1,bw.X _ QA.b⟩;refine tkZ 0 aa ?_;refine tkZ 1 aa ?_;refine tkZ 2 aa ?_;refine tkZ 3 aa ?_;refine tkZ 4 aa ?_;refine tkZ 5 aa ?_;refine tkZ 6 aa ?_;refine rdZ 7 fun K hK=> ?_;go_simp;refine hoW hK kU fun aa=> ?_;clear hK K;refine rdZ 8 fun K hK=> ?_;refine zd3 qB zm8 (by rfl) (by omega) rfl (.tmp 53) (.tmp 59) rfl (w.heap.size+3) rs (ko) (zj5 o) rfl (by have:=QA.r;rw[bu.X]at this;exact this) W1.heap.size 0 1 1 [ze zd xv,za xa y xc] rfl rfl (ze0 _ _ _ _ _ rfl) (by simp[zq]) (by omega) (by omega) (by have:=za2 Q1.a;simp;omega) ?_;intro v' w4 ho hg bd gH;rcases own_kinds ho with⟨_,e0⟩|⟨g4,c4,e4,-,-⟩
     ·omega
     subst e4;have Q5:Zb _:=QA.more ⟨xv,xa,cF,xc⟩ HY.X bu.X hg ho;have X4:=QA.moreO hg;have em:(fun W=>W.cell? ⟨kb,0,none⟩=some rs/\W.cell? ⟨w.heap.size,0,none⟩=some (za (some ⟨b,off,none⟩) n rc)/\W.cell? ⟨b,off+k*2,none⟩=some (ze zd xv)/\W.cell? ⟨b,off+k*2+1,none⟩=some (za xa y xc)) w4:=⟨(za1 X4.2.1).1,X4.1,bw.X _ X4.2.2⟩;obtain⟨x4,y4⟩:=za1 X4.2.1;have xf:=fun i=>yZ _ _ i _ _ X4.2.1;clear ho hg bd gH X4;refine hoW hK em fun aa=> ?_;clear hK K;refine tkZ 9 aa ?_;refine rdL 10 fun K hK=> ?_;go_simp;refine hK.out _ _ ?_;clear hK K;refine zh4 (by kernel_rfl) ?_ _;clear aa xf x4 y4 em kU lK oY o0 o1 QA Q1;generalize w4.setCell ⟨kb,0,none⟩ _=W5 at*;go_wp2;go_roundw
     case rel=>exact⟨k+1,_,_,_,by omega,by first|rfl|go_num,rfl,a8.X,Q5.X⟩
     case measure=>simp[intOf];omega
  ·have ik:¬((k:Int)<(n:Int)):=by omega
   have cV:k=n:=by omega
   obtain⟨o0,o1⟩:=za1 Q3.o;have of:=fun i=>yZ _ _ i _ _ Q3.o;cases d
   ·have me:Zb (setL R r=o++[r]):=by
     show _=_;have h:=dD.X;rw[cV,<-HN.X]at h;unfold setL;rw[h];rfl
    clear cV dD
    go_wp2_with(first
     |(at_builtin
       go_must(refine zk9 qB zm8 (by rfl) (by omega) _ rfl (.tmp 65) (.tmp 67) rfl (w.heap.size+3) rs ko (zj5 o) rfl (by have:=(Q3.below (zP (zg #[ze zd rv,za (some ⟨br,or,none⟩) q cr] 80))).r;rw[dO.X]at this;exact this) wr.heap.size 0 1 1 [ze zd rv,za (some ⟨br,or,none⟩) q cr] rfl rfl (ze0 _ _ _ _ _ rfl) (by simp[zq]) (by omega) (by omega) (by have:=za2 Q3.a;simp;omega) ?_)
       intro v' w6 ho hg bd hn6;rcases own_kinds ho with⟨_,e0⟩|⟨g6,c6,e6,-,-⟩
       ·omega
       subst e6;have QA:SQ w (wr.alloc (zg #[ze zd rv,za (some ⟨br,or,none⟩) q cr] 80)) kb (za ra n rc) (za (some ⟨bl,ol,none⟩) m lc) (ze zd rv) (za (some ⟨br,or,none⟩) q cr) rs (za (some ⟨gl,0,none⟩) m cl) o L:=Q3.below (zP _);have Q6:Zb (SQ w (w6.setCell ⟨kb,0,none⟩ (za (some ⟨g6,0,none⟩) (ko+1) c6)) kb (za ra n rc) (za (some ⟨bl,ol,none⟩) m lc) (ze zd rv) (za (some ⟨br,or,none⟩) q cr) (za (some ⟨g6,0,none⟩) (ko+1) c6) (za (some ⟨gl,0,none⟩) m cl) (o++[r]) L):=by
        rw[<-jG.X];exact QA.more ⟨rv,some ⟨br,or,none⟩,ay,cr⟩ HQ.X dO.X hg ho
       have X4:=QA.moreO hg;obtain⟨x4,y4⟩:=za1 X4.2.1;have xf:=fun i=>yZ _ _ i _ _ X4.2.1;clear ho hg bd hn6 X4 QA;obtain⟨z0,z1⟩:=za1 Q6.o;have bu:Zb ((o++[r]).length=(ko+1)):=by show _=_;rw[xY,dO.X];rfl
       have Ay:Zb ((∀x∈(o++[r]),x∈R∨x=r)):=fun x hx=>(yj.1 hx).elim (uc.1 x) (fun h=>.inr (by simpa using h))
       have j0:=za4 (SQ.at (o:=(o++[r])) (r:=r) (R:=R) (by rw[bu.X];exact Q6.X) HR.X (by rw[<-jG.X];exact HX.X) Ay.X);have C:=zq0 (some ⟨g6,0,none⟩) gl 0 c6 cl (o++[r]) L (w6.setCell ⟨kb,0,none⟩ (za (some ⟨g6,0,none⟩) (ko+1) c6)) j0.X (zd4 (by have:=Q6.l;rw[HM.X]at this;exact this)) (by rw[bu.X];omega) (fun x hx=>(Ay.X x hx).elim (HI.X x) (fun h=>by rw[h,<-jG.X];exact eV.X)) (by rw[HM.X];omega);rw[bu.X,HM.X]at C)
     |(go_at_call 40
       go_must(refine C.mono ?_)
       rintro e w5 ⟨nO,mS,n6,nJ,S5,rfl,fk,fw,ed⟩;have AR:=za0 fk (za2 Q6.a) Q6.a;obtain⟨a0,a1⟩:=za1 AR;have af:=fun i=>yZ _ _ i _ _ AR;have n5:S5.length=(o++[r]).length:=by have:=congrArg zo fw;simpa using this
       have B5:Zb _:=Q6.b.trans (fk.mono Q6.b.size);have O5:Zb (PO w5 (w.heap.size+3) (za nO S5.length mS) S5 (za (some ⟨n6,0,none⟩) L.length nJ) L):=by
        rw[n5];exact ed.base (by have:=za2 Q6.a;omega)
       have wk:Zb (S5.map RT.key=(setL R r).map RT.key):=by show _=_;rw[me.X];exact fw
       have BK:Zb _:=n5.trans bu.X;rw[bu.X,HM.X];clear fk fw ed n5 AR))
    refine xe (v:=.agg #[za nO (ko+1) mS,za (some ⟨n6,0,none⟩) m nJ]) (by simp[results,Tryz.results72,go_sem,a0,a1]) rfl ⟨nO,mS,n6,nJ,S5,by rw[BK.X,HM.X],?_,wk.X,?_⟩
    ·repeat(first|with_reducible exact B5.X|refine xq ?_ (by simp<;>omega) _)
    ·refine PO.base (base:=w.heap.size+3) ?_ (by omega)
     repeat(first|with_reducible exact O5.X|refine PO.set ?_ (by omega))
   ·have me:Zb (setL R r=o):=by
     show _=_;have h:=dD.X;rw[cV,<-HN.X]at h;unfold setL;rw[h];rfl
    clear cV dD;obtain⟨ga,ca,e⟩:∃ga ca,rs=za ga ko ca:=by
     rcases own_kinds Q3.r with⟨e,h0⟩|⟨g,c,e,_,_⟩
     ·exact⟨none,0,by rw[e,<-dO.X,h0]⟩
     ·exact⟨_,c,by rw[e,dO.X]⟩
    subst e;have bu:Zb (o.length=ko):=by show _=_;exact dO.X
    have Ay:Zb _:=uc.1;have j0:Zb (za9 wr ga o):=SQ.at (o:=o) (r:=r) (R:=R) (by rw[bu.X];exact Q3.X) HR.X (by rw[<-jG.X];exact HX.X) Ay.X;have C:=zq0 ga gl 0 ca cl o L wr j0.X (zd4 (by have:=Q3.l;rw[HM.X]at this;exact this)) (by rw[bu.X];omega) (fun x hx=>(Ay.X x hx).elim (HI.X x) (fun h=>by rw[h,<-jG.X];exact eV.X)) (by rw[HM.X];omega);rw[bu.X,HM.X]at C
    go_wp2_with(first
     |(go_at_call 40
       go_must(refine C.mono ?_)
       rintro e w5 ⟨nO,mS,n6,nJ,S5,rfl,fk,fw,ed⟩;have AR:=za0 fk (za2 Q3.a) Q3.a;obtain⟨a0,a1⟩:=za1 AR;have af:=fun i=>yZ _ _ i _ _ AR;have n5:S5.length=o.length:=by have:=congrArg zo fw;simpa using this
       have B5:Zb _:=Q3.b.trans (fk.mono Q3.b.size);have O5:Zb (PO w5 (w.heap.size+3) (za nO S5.length mS) S5 (za (some ⟨n6,0,none⟩) L.length nJ) L):=by
        rw[n5];exact ed.base (by have:=za2 Q3.a;omega)
       have wk:Zb (S5.map RT.key=(setL R r).map RT.key):=by show _=_;rw[me.X];exact fw
       have BK:Zb _:=n5.trans bu.X;rw[bu.X,HM.X];clear fk fw ed n5 AR))
    refine xe (v:=.agg #[za nO ko mS,za (some ⟨n6,0,none⟩) m nJ]) (by simp[results,Tryz.results72,go_sem,a0,a1]) rfl ⟨nO,mS,n6,nJ,S5,by rw[BK.X,HM.X],?_,wk.X,?_⟩
    ·repeat(first|with_reducible exact B5.X|refine xq ?_ (by simp<;>omega) _)
    ·refine PO.base (base:=w.heap.size+3) ?_ (by omega)
     repeat(first|with_reducible exact O5.X|refine PO.set ?_ (by omega))
def yH2(R:List RT)(v:Int):List RT:=R.filter (fun x=>decide (x.v≠v))
def sno(R:List RT)(v:Int)(k:Nat):List RT:=yH2 (R.take k) v
theorem yC5{R:List RT}{v:Int}:sno R v R.length=yH2 R v:=by rw[sno,ym]
theorem y83{R:List RT}{k:Nat}(v:Int)(hk:k<R.length):sno R v (k+1)=sno R v k++(if(R.getD k rt0).v=v then []else [R.getD k rt0]):=by
 unfold sno yH2;rw[yq hk,yP];have:R.getD k rt0=R[k]:=by simp[List.getD,hk]
 rw[this];by_cases h:R[k].v=v<;>simp[h]
theorem yF4{R:List RT}{v:Int}{k:Nat}:∀x∈sno R v k,x∈R:=fun _ hx=>List.mem_of_mem_take (qi.1 hx).1
theorem yF9{R:List RT}{v:Int}{k:Nat}:(sno R v k).length<=k:=xj (yp _ _) (by simp;omega)
theorem y62{R:List RT}{v:Int}{k:Nat}{o:List RT}(h:sno R v k=o)(hk:k<R.length):((R.getD k rt0).v=v->sno R v (k+1)=o)/\((R.getD k rt0).v≠v->sno R v (k+1)=o++[R.getD k rt0]):=by
 rw[y83 v hk,h];exact⟨fun e=>by rw[z7 e,qe],fun e=>by rw[ye e]⟩
def yL5(w:zi)(R:List RT)(v:Int)(L:List Int)(e:Ending)(w':zi):Prop:=∃ra rc gl lc S,e=.returned (.agg #[za ra S.length rc,za (some ⟨gl,0,none⟩) L.length lc])/\Za w.heap.size w w'/\S.map RT.key=(yH2 R v).map RT.key/\PO w' w.heap.size (za ra S.length rc) S (za (some ⟨gl,0,none⟩) L.length lc) L
theorem y36(ra xx:Option Addr)(bl ol rc lc cr:Nat)(R:List RT)(L:List Int)(rv:Int)(w:zi)(hR:za9 w ra R)(hL:za3 w (some ⟨bl,ol,none⟩) L)(hn:R.length<=400)(hi:∀r∈R,r.ids≠[]/\r.ids.length<=500)(hl:L.length<=500):
 Calls zh 72 #[.agg #[za ra R.length rc,za (some ⟨bl,ol,none⟩) L.length lc],.agg #[ze zd rv,za xx 0 cr]] w (yL5 w R rv L):=by
 have HR:=za4 hR;have HL:=za4 hL;have HI:Zb _:=hi;clear hR hL hi;obtain⟨n,HN⟩:=nmd R.length;obtain⟨m,HM⟩:=nmd L.length;rw[HN.X]at hn⊢;rw[HM.X]at hl⊢;have B1:Zb (Za w.heap.size w ((((w.alloc (zg #[za ra n rc,za (some ⟨bl,ol,none⟩) m lc] 33)).alloc (zg #[ze zd rv,za xx 0 cr] 80)).alloc (zg #[za none 0 0,za none 0 0] 33)).alloc (zg #[] 2))):=(((zP _).alloc (by simp) _).alloc (by simp;omega) _).alloc (by simp;omega) _;have P1:Zb (((((w.alloc (zg #[za ra n rc,za (some ⟨bl,ol,none⟩) m lc] 33)).alloc (zg #[ze zd rv,za xx 0 cr] 80)).alloc (zg #[za none 0 0,za none 0 0] 33)).alloc (zg #[] 2)).heap[w.heap.size]? =some (zg #[za ra n rc,za (some ⟨bl,ol,none⟩) m lc] 33 (0,0))):=(xg _ _ (by simp;omega)).trans ((xg _ _ (by simp;omega)).trans (xm _ _ _));have X1:Zb (((((w.alloc (zg #[za ra n rc,za (some ⟨bl,ol,none⟩) m lc] 33)).alloc (zg #[ze zd rv,za xx 0 cr] 80)).alloc (zg #[za none 0 0,za none 0 0] 33)).alloc (zg #[] 2)).heap[w.heap.size+1]? =some (zg #[ze zd rv,za xx 0 cr] 80 (0,0))):=(xg _ _ (by simp)).trans ((xg _ _ (by simp)).trans (xh _ _ _));have A1:Zb (((((w.alloc (zg #[za ra n rc,za (some ⟨bl,ol,none⟩) m lc] 33)).alloc (zg #[ze zd rv,za xx 0 cr] 80)).alloc (zg #[za none 0 0,za none 0 0] 33)).alloc (zg #[] 2)).heap[w.heap.size+2]? =some (zg #[za none 0 0,za none 0 0] 33 (0,0))):=(xg _ _ (by simp)).trans (by
  have:=zS ((w.alloc (zg #[za ra n rc,za (some ⟨bl,ol,none⟩) m lc] 33)).alloc (zg #[ze zd rv,za xx 0 cr] 80)) (zg #[za none 0 0,za none 0 0] 33);simpa using this)
 have O1:Zb (((((w.alloc (zg #[za ra n rc,za (some ⟨bl,ol,none⟩) m lc] 33)).alloc (zg #[ze zd rv,za xx 0 cr] 80)).alloc (zg #[za none 0 0,za none 0 0] 33)).alloc (zg #[] 2)).ownsRow (w.heap.size+3) 2 1 (za (some ⟨w.heap.size+1+1+1,0,none⟩) 0 0) 0 (([]:List Int).map (ze zd))):=by
  have:=qo (((w.alloc (zg #[za ra n rc,za (some ⟨bl,ol,none⟩) m lc] 33)).alloc (zg #[ze zd rv,za xx 0 cr] 80)).alloc (zg #[za none 0 0,za none 0 0] 33)) #[] 0 (base:=w.heap.size+3) (e:=2) (size:=1) (by simp) (by unfold maxLen;omega) (by simp);show zk _ _ _ _ _ _ _;simpa using this
 obtain⟨p0,p1⟩:=za1 P1.X;obtain⟨x0,x1⟩:=za1 X1.X;go_enter Tryz.func72,Tryz.ntmps72
 go_wp2_with(first
  |(at_builtin
    go_must(refine zc9 _ rfl (.tmp 8) (.tmp 10) rfl (w.heap.size+3) _ 0 [] rfl O1.X bl ol m lc L rfl HM.X (HL.below B1.X) (by omega) (by omega) (by simp) ?_)
    go_must(
     intro lv w2 ae hg bd aX;have bW:=B1.size;have dF:∀k,(za (some ⟨w.heap.size+1+1+1,0,none⟩) 0 0).ownBlock=some k->w.heap.size+3<=k:=fun k e=>by have:=z57 e;omega
     have Q2:Zb (SQ w (w2.alloc (zg #[za none 0 0,lv] 33)) w2.heap.size (za ra n rc) (za (some ⟨bl,ol,none⟩) m lc) (ze zd rv) (za xx 0 cr) (za none 0 0) lv [] L):=by
      have aC:Za w.heap.size w w2:=B1.grown hg B1.size (fun k e=>by have:=dF k e;omega);have ha:Za w2.heap.size w2 (w2.alloc (zg #[za none 0 0,lv] 33)):=zP _;have dR:=za6 hg P1.X (fun e=>by have:=dF _ e.symm;omega);have lV:=za6 hg X1.X (fun e=>by have:=dF _ e.symm;omega);have j7:=za6 hg A1.X (fun e=>by have:=dF _ e.symm;omega);refine⟨aC.trans (ha.mono aC.size),za0 ha (za2 dR) dR,za0 ha (za2 lV) lV,za0 ha (za2 j7) j7,zS _ _,za2 j7,xZ _ _ _ _,?_⟩;rw[yb,yw]at ae;rw[HM.X];exact ae.alloc _
     obtain⟨gl,cl,e⟩:=zr0 ae (zn1 aX ⟨_,_,_,rfl⟩);rw[yb]at e;subst e;obtain⟨x0,x1⟩:=za1 Q2.x)
    clear ae hg bd aX bW dF))
 clear p0 p1 x0 x1;obtain⟨kb,fs⟩:=nmd w2.heap.size;rw[fs.X]at Q2⊢;generalize w2.alloc _=W2 at*;go_loopw[6,7] (fun td t wr=>∃(k:Nat) (rs:Value) (o:List RT),k<=n/\t=ze zd k/\td=.bool true/\sno R rv k=o/\SQ w wr kb (za ra n rc) (za (some ⟨bl,ol,none⟩) m lc) (ze zd rv) (za xx 0 cr) rs (za (some ⟨gl,0,none⟩) m cl) o L) (fun _ t _=>n - (intOf t).toNat)
 case atStart=>exact⟨0,za none 0 0,[],xi _,rfl,by first|rfl|simp,rfl,Q2.X⟩
 case round=>
  clear Q2 B1 P1 X1 A1 O1;obtain⟨k,rs,o,hk,rfl,rfl,bB,hQ⟩:=hrel;have Q3:Zb _:=hQ;have dD:Zb _:=bB;have uc:Zb ((∀x∈o,x∈R)/\o.length<=k+1):=by
   rw[<-bB];exact⟨yF4,Nat.le_succ_of_le yF9⟩
  clear hQ bB;obtain⟨ko,dO⟩:=nmd o.length;have aA:ko<=k+1:=by rw[<-dO.X];exact uc.2
  obtain⟨p0,p1⟩:=za1 Q3.p;obtain⟨x0,x1⟩:=za1 Q3.x;by_cases ah:k<n
  ·have ik:(k:Int)<(n:Int):=by omega
   have dt:k<R.length:=by rw[HN.X];exact ah
   obtain⟨b,off,e,r1,r2,-⟩:=(HR.below Q3.b) k dt;have bw:Zb (∀W,Za w.heap.size w W->W.cell? ⟨b,off+k*2,none⟩=some (ze zd (R.getD k rt0).v)/\W.cell? ⟨b,off+k*2+1,none⟩=some (.slice (R.getD k rt0).a (R.getD k rt0).ids.length (R.getD k rt0).c)):=fun W hW=>by
    obtain⟨b2,cW,e2,q1,q2,_⟩:=(HR.below hW) k dt;rw[e]at e2;simp only[x7,qg,qt]at e2;obtain⟨rfl,rfl⟩:=e2;exact⟨q1,q2⟩
   have fT:Zb _:=y62 dD.X dt;subst e;generalize R.getD k rt0=x at*;obtain⟨xv,xa,cF,xc⟩:=x;simp only at r1 r2 bw;obtain⟨y,HY⟩:=nmd cF.length;simp only[HY.X]at r2 bw;by_cases h2:xv=rv
   ·skip
    have a8:Zb _:=fT.1 h2;have g2:(xv !=rv)=false:=by simp;omega
    have bu:Zb _:=dO.X;clear dD fT h2
    go_wp2_with fail
    go_quiet (fail)
    have Q8:Zb _:=Q3.below (xC (y5 _ _) nq);clear Q3 p0 p1 x0 x1 r1 r2;generalize wr.drewN nq=W8 at*;obtain⟨p0,p1⟩:=za1 Q8.p;obtain⟨x0,x1⟩:=za1 Q8.x;obtain⟨r1,r2⟩:=bw.X _ Q8.b
    go_wp2_with fail
    go_quiet (fail)
    have Q9:Zb _:=Q8.below (xC (y5 _ _) nq);clear Q8 p0 p1 x0 x1 r1 r2;generalize W8.drewN nq=W9 at*;obtain⟨p0,p1⟩:=za1 Q9.p;obtain⟨x0,x1⟩:=za1 Q9.x;obtain⟨r1,r2⟩:=bw.X _ Q9.b;go_wp2;go_roundw
    case rel=>exact⟨k+1,_,_,by omega,by first|rfl|go_num,rfl,a8.X,Q9.X⟩
    case measure=>simp[intOf];omega
   ·skip
    have a8:Zb _:=fT.2 h2;have g2:(xv !=rv)=true:=by simp;omega
    have bu:Zb _:=dO.X;clear dD fT h2
    go_wp2_with fail
    go_quiet (fail)
    have Q8:Zb _:=Q3.below (xC (y5 _ _) nq);clear Q3 p0 p1 x0 x1 r1 r2;generalize wr.drewN nq=W8 at*;obtain⟨p0,p1⟩:=za1 Q8.p;obtain⟨x0,x1⟩:=za1 Q8.x;obtain⟨r1,r2⟩:=bw.X _ Q8.b
    go_wp2_with fail
    go_quiet (fail)
    have Q9:Zb _:=Q8.below (xC (y5 _ _) nq);clear Q8 p0 p1 x0 x1 r1 r2;generalize W8.drewN nq=W9 at*;obtain⟨p0,p1⟩:=za1 Q9.p;obtain⟨x0,x1⟩:=za1 Q9.x;obtain⟨r1,r2⟩:=bw.X _ Q9.b;have kS:=xr (za1 Q9.o).1 (xr p0 (xr r1 r2))
    go_wp2_with fail
    refine ze4 (S:=(fun W=>W.cell? ⟨kb,0,none⟩=some rs/\W.cell? ⟨w.heap.size,0,none⟩=some (za (some ⟨b,off,none⟩) n rc)/\W.cell? ⟨b,off+k*2,none⟩=some (ze zd xv)/\W.cell? ⟨b,off+k*2+1,none⟩=some (za xa y xc))) 10 (by kernel_rfl) ?_ fun aa=> ?_
    ·exact kS
    have Q1:Zb _:=Q9.below (y5 _ _).drew;clear Q9 p0 p1 r1 r2 x0 x1 kS;generalize W9.drew=W1 at*;have QA:Zb (SQ w (W1.alloc (zg #[ze zd xv,za xa y xc] 80)) kb (za (some ⟨b,off,none⟩) n rc) (za (some ⟨bl,ol,none⟩) m lc) (ze zd rv) (za xx 0 cr) rs (za (some ⟨gl,0,none⟩) m cl) o L):=Q1.below (zP _);obtain⟨o0,o1⟩:=za1 Q1.o;obtain⟨lK,oY⟩:=za1 QA.o;have kU:(fun W=>W.cell? ⟨kb,0,none⟩=some rs/\W.cell? ⟨w.heap.size,0,none⟩=some (za (some ⟨b,off,none⟩) n rc)/\W.cell? ⟨b,off+k*2,none⟩=some (ze zd xv)/\W.cell? ⟨b,off+k*2+1,none⟩=some (za xa y xc)) (W1.alloc (zg #[ze zd xv,za xa y xc] 80)):=⟨lK,(za1 QA.p).1,bw.X _ QA.b⟩;refine tkZ 0 aa ?_;refine tkZ 1 aa ?_;refine tkZ 2 aa ?_;refine tkZ 3 aa ?_;refine tkZ 4 aa ?_;refine tkZ 5 aa ?_;refine tkZ 6 aa ?_;refine rdZ 7 fun K hK=> ?_;go_simp;refine hoW hK kU fun aa=> ?_;clear hK K;refine rdZ 8 fun K hK=> ?_;refine zd3 qB zm8 (by rfl) (by omega) rfl (.tmp 53) (.tmp 59) rfl (w.heap.size+3) rs (ko) (zj5 o) rfl (by have:=QA.r;rw[bu.X]at this;exact this) W1.heap.size 0 1 1 [ze zd xv,za xa y xc] rfl rfl (ze0 _ _ _ _ _ rfl) (by simp[zq]) (by omega) (by omega) (by have:=za2 Q1.a;simp;omega) ?_;intro v' w4 ho hg bd gH;rcases own_kinds ho with⟨_,e0⟩|⟨g4,c4,e4,-,-⟩
    ·omega
    subst e4;have Q5:Zb _:=QA.more ⟨xv,xa,cF,xc⟩ HY.X bu.X hg ho;have X4:=QA.moreO hg;have em:(fun W=>W.cell? ⟨kb,0,none⟩=some rs/\W.cell? ⟨w.heap.size,0,none⟩=some (za (some ⟨b,off,none⟩) n rc)/\W.cell? ⟨b,off+k*2,none⟩=some (ze zd xv)/\W.cell? ⟨b,off+k*2+1,none⟩=some (za xa y xc)) w4:=⟨(za1 X4.2.1).1,X4.1,bw.X _ X4.2.2⟩;obtain⟨x4,y4⟩:=za1 X4.2.1;have xf:=fun i=>yZ _ _ i _ _ X4.2.1;clear ho hg bd gH X4;refine hoW hK em fun aa=> ?_;clear hK K;refine tkZ 9 aa ?_;refine rdL 10 fun K hK=> ?_;go_simp;refine hK.out _ _ ?_;clear hK K;refine zh4 (by kernel_rfl) ?_ _;clear aa xf x4 y4 em kU lK oY o0 o1 QA Q1;generalize w4.setCell ⟨kb,0,none⟩ _=W5 at*;go_wp2;go_roundw
    case rel=>exact⟨k+1,_,_,by omega,by first|rfl|go_num,rfl,a8.X,Q5.X⟩
    case measure=>simp[intOf];omega
  ·have ik:¬((k:Int)<(n:Int)):=by omega
   have cV:k=n:=by omega
   obtain⟨o0,o1⟩:=za1 Q3.o;have of:=fun i=>yZ _ _ i _ _ Q3.o;have me:Zb (yH2 R rv=o):=by
    show _=_;have h:=dD.X;rw[cV,<-HN.X,yC5]at h;exact h
   clear cV dD;obtain⟨ga,ca,e⟩:∃ga ca,rs=za ga ko ca:=by
    rcases own_kinds Q3.r with⟨e,h0⟩|⟨g,c,e,_,_⟩
    ·exact⟨none,0,by rw[e,<-dO.X,h0]⟩
    ·exact⟨_,c,by rw[e,dO.X]⟩
   subst e;have bu:Zb _:=dO.X;have j0:Zb (za9 wr ga o):=SQ.at (o:=o) (r:=⟨0,none,[],0⟩) (R:=R) (by rw[bu.X];exact Q3.X) HR.X (by intro j hj;simp at hj) (fun x hx=>.inl (uc.1 x hx));have C:=zq0 ga gl 0 ca cl o L wr j0.X (zd4 (by have:=Q3.l;rw[HM.X]at this;exact this)) (by rw[bu.X];omega) (fun x hx=>HI.X x (uc.1 x hx)) (by rw[HM.X];omega);rw[bu.X,HM.X]at C
   go_wp2_with(first
    |(go_at_call 40
      go_must(refine C.mono ?_)
      rintro e w5 ⟨nO,mS,n6,nJ,S5,rfl,fk,fw,ed⟩;have AR:=za0 fk (za2 Q3.a) Q3.a;obtain⟨a0,a1⟩:=za1 AR;have af:=fun i=>yZ _ _ i _ _ AR;have n5:S5.length=o.length:=by have:=congrArg zo fw;simpa using this
      have B5:Zb _:=Q3.b.trans (fk.mono Q3.b.size);have O5:Zb (PO w5 (w.heap.size+3) (za nO S5.length mS) S5 (za (some ⟨n6,0,none⟩) L.length nJ) L):=by
       rw[n5];exact ed.base (by have:=za2 Q3.a;omega)
      have wk:Zb (S5.map RT.key=(yH2 R rv).map RT.key):=by show _=_;rw[me.X];exact fw
      have BK:Zb _:=n5.trans bu.X;rw[bu.X,HM.X];clear fk fw ed n5 AR))
   refine xe (v:=.agg #[za nO ko mS,za (some ⟨n6,0,none⟩) m nJ]) (by simp[results,Tryz.results72,go_sem,a0,a1]) rfl ⟨nO,mS,n6,nJ,S5,by rw[BK.X,HM.X],?_,wk.X,?_⟩
   ·repeat(first|with_reducible exact B5.X|refine xq ?_ (by simp<;>omega) _)
   ·refine PO.base (base:=w.heap.size+3) ?_ (by omega)
    repeat(first|with_reducible exact O5.X|refine PO.set ?_ (by omega))
