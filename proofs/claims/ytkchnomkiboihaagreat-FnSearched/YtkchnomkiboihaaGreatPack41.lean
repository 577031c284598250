import Derived.Test.YtkchnomkiboihaaGreatPack40
set_option linter.unusedSimpArgs false
set_option maxHeartbeats 8000000
set_option maxRecDepth 20000
namespace Go.Proofs.YtkchnomkiboihaaGreat
open RowKit renaming Below→Za,Hid→Zb
open Go renaming Calls→Zc,Addr→Zd
open Value renaming slice→za,int→ze
open IntKind renaming i64→zd
open Obj renaming cells→zg
open Proofs.Tryz renaming prog→zh
open Go renaming World→zi
open World renaming ownsRow→zk
open List renaming length→zo
open Go.RowKit
open Q
def yh6(n fine:Int)(zs os vs:List Int)(ko kv:Nat)(S P:List Int)(last:Int)(ra:Option Zd)(nR rc:Nat)(la:Option Zd)(l lc:Nat)(R:List RT)(L:List Int)(w:zi)(e:Ending)(w':zi):Prop:=
 Za w.heap.size w w'∧
 ((zc1 n zs os vs ko kv fine (lvF S P R L P.length).1 (lvF S P R L P.length).2=0/\∃(ag:Option Zd) (n2 ai:Nat) (ak:Option Zd) (l2 aj:Nat) (R2:List RT) (L2:List Int),e=.returned (.tuple #[.agg #[za ag n2 ai,za ak l2 aj],ze zd last,.bool true])/\za9 w' ag R2/\R2.length=n2/\za3 w' ak L2/\L2.length=l2/\R2.map RT.key=(lvF S P R L P.length).1.map RT.key/\L2=(lvF S P R L P.length).2/\LvI S P L.length P.length R2 L2/\((ak=none/\l2=0)∨∃b off,ak=some ⟨b,off,none⟩)/\((ag=none/\R2.length=0)∨∃b off,ag=some ⟨b,off,none⟩)/\(∀r∈R2,r.ids.length<=r.c)/\(∀k,k<w.heap.size->zi8 k ra la R L->zi8 k ag ak R2 L2))∨
  (zc1 n zs os vs ko kv fine (lvF S P R L P.length).1 (lvF S P R L P.length).2≠0/\e=.returned (.tuple #[.agg #[za ra nR rc,za la l lc],ze zd last,.bool false])))
theorem zO8:∀(R:List RT),(∀r∈R,r.ids.length<=12)->(R.flatMap RT.ids).length<=12*R.length
 |[],_=>by simp
 |r::R,h=>by
  have h1:=h r (yB ..);have h2:=zO8 R (fun x hx=>h x (yt _ hx));rw[jc,xY,yo];omega
theorem zH2(n fine nQ kk:Int)(a ao av ra la:Option Zd)(zl ac ko co kv cv nR rc l lc kb cb:Nat)(zs os vs:List Int)(R:List RT)(L S P:List Int)(N m:Nat)(K last:Int)(w:zi)(hA:za3 w a zs)(vN:zs.length=zl)(hO:za3 w ao os)(hV:za3 w av vs)(an:os.length=ko*6)(au:vs.length=kv*5)(aA:ko<=9223372036854775807)(aB:kv<=9223372036854775807)(bT:zd0 n zs os vs ko kv fine=true)
 (hR:za9 w ra R) (hn:R.length=nR) (hL:za3 w la L) (hl:L.length=l) (bH:l+N<=12) (KL:(ra=none/\R.length=0)∨∃b off,ra=some ⟨b,off,none⟩) (jz:(la=none/\l=0)∨∃b off,la=some ⟨b,off,none⟩) (hc:∀r∈R,r.ids.length<=r.c)
 (hS:zr3 (zb0 R R.length)=S) (hN:S.length=N) (hK:min kk (N:Int)=K) (hP:zs4 nQ N K=P) (hm:P.length=m) (kR:z87 nQ N K=last) (hI:LvI S P L.length 0 R L) (hd:∀i j,i<j->j<P.length->pkd S P i≠pkd S P j) (hp:∀i,i<m->0<=P.getD i 0/\P.getD i 0<N) (QY:m<=N)
 (ii:∀x∈(lvF S P R L m).2,(Lit.int zd x).wf=true) (dA:w.cell? ⟨kb,0,none⟩=some (ze zd kk)) (jl:w.heap[cb]? =some (zg #[ze zd n,za a zl ac,za ao ko co,za av kv cv,ze zd fine] 30 (0,0))):
 Zc zh 112 #[.agg #[za ra nR rc,za la l lc],ze zd nQ,.pointer (some ⟨kb,0,none⟩),.pointer (some ⟨cb,0,none⟩)] w (yh6 n fine zs os vs ko kv S P last ra nR rc la l lc R L w):=by
 have B0:Zb (Za w.heap.size w ((w.alloc (zg #[za ra nR rc,za la l lc] 33)).alloc (zg #[za none 0 0,za none 0 0] 33))):=(zP _).alloc (by simp) _;have P0:Zb (((w.alloc (zg #[za ra nR rc,za la l lc] 33)).alloc (zg #[za none 0 0,za none 0 0] 33)).heap[w.heap.size]? =some (zg #[za ra nR rc,za la l lc] 33 (0,0))):=xm _ _ _;have Q0:Zb (((w.alloc (zg #[za ra nR rc,za la l lc] 33)).alloc (zg #[za none 0 0,za none 0 0] 33)).heap[w.heap.size+1]? =some (zg #[za none 0 0,za none 0 0] 33 (0,0))):=xh _ _ _;have HA:=za4 hA;have HO:=za4 hO;have HV:=za4 hV;have HR:=za4 hR;have HL:=za4 hL;have HI:=za4 hI;have HD:=za4 hd;have HP:=za4 hp;have HC:=za4 hc;have fd:=za4 KL;have e_:=za4 jz;have iM:=za4 ii;have HM:=za4 hm;have oH:=za4 hN;have iK:=za4 hn;have dS:=za4 hl;have fs:=za4 dA;have cW:=za4 jl;have SB:Zb (∀W,Za w.heap.size w W->Zc zh 113 #[.agg #[za ra nR rc,za la l lc]] W fun e w'=>∃sl,e=.returned sl/\Za W.heap.size W w'/\w'.ownsRow W.heap.size 2 1 sl N (S.map (ze zd))):=fun W hW=>by
  have aL:(zb0 R R.length).length<=12:=by rw[<-zo0,hS,hN];omega
  have h:=zA3 ra la rc l lc R W (HR.X.below hW) (by have:=HI.X.ln;omega) (fun j hj=>HI.X.ne _ (zh6 hj)) HI.X.nd aL;rw[hS,hN,hn]at h;exact h
 have PK:Zb (∀W,Zc zh 114 #[ze zd nQ,ze zd N,ze zd K] W fun e w'=>∃sl,e=.returned (.tuple #[sl,ze zd last])/\Za W.heap.size W w'/\w'.ownsRow W.heap.size 2 1 sl m (P.map (ze zd))):=fun W=>by
  have h:=zK6 nQ N K W;rw[kR,hP,hm]at h;refine h.mono ?_;rintro e w' ⟨sl,he,hb,_,ho⟩;exact⟨sl,he,hb,ho⟩
 have Dt:Zb (∀W (ag ak:Option Zd) (n2 ai l2 aj:Nat) (R2:List RT) (L2:List Int),Za w.heap.size w W->za9 W ag R2->R2.length=n2->za3 W ak L2->L2.length=l2->LvI S P L.length m R2 L2->R2.map RT.key=(lvF S P R L m).1.map RT.key->L2=(lvF S P R L m).2->(∀r∈R2,r.ids.length<=r.c)->Zc zh 47 #[.agg #[ze zd n,za a zl ac,za ao ko co,za av kv cv,ze zd fine],.agg #[za ag n2 ai,za ak l2 aj]] W fun e w'=>e=.returned (ze zd (zc1 n zs os vs ko kv fine (lvF S P R L m).1 (lvF S P R L m).2))/\Za W.heap.size W w'):=fun W ag ak n2 ai l2 aj R2 L2 hW h1 h2 h3 h4 h5 h6 h7 h8=>by
  have cS:(zb0 R2 R2.length).length<=1048576:=by
   rw[zb8];have:=zO8 R2 h5.sm;have:=h5.ln;omega
  have h:=zA8 n fine a ao av ag ak ac ko co kv cv ai aj zs os vs L2 R2 W (HA.X.below hW) (HO.X.below hW) (HV.X.below hW) h1 h3 an au aA aB (by have:=h5.ln;omega) (fun r hr=>by have:=h5.sm r hr;omega) h8 (by rw[h5.ll];omega) cS (by rw[h7];exact iM.X) bT;rw[vN,h2,h4,zd6 L2 h6]at h;rw[<-h7];exact h
 clear hA hO hV an au aA aB bT hR hn hL hl KL jz hc hS hN hP hm kR hI hd hp ii dA jl vN;generalize hF:lvF S P R L m=F at Dt iM;have HF:=za4 hF;clear hF iM;obtain⟨pv,cG⟩:=nmd (zc1 n zs os vs ko kv fine F.1 F.2);rw[cG.X]at Dt;obtain⟨p1,p2⟩:=za1 P0.X;go_enter Tryz.func112,Tryz.ntmps112
 go_wp2_with fail
 clear p1 p2;generalize(w.alloc _).alloc _=W0 at*;obtain⟨q,HQ⟩:=nmd w.heap.size;obtain⟨q1,gO⟩:=nmd (w.heap.size+1);rw[gO.X]at Q0⊢;rw[HQ.X]at P0
 try rw[HQ.X]
 refine(SB.X W0 B0.X).mono ?_;rintro e w1 ⟨sl,rfl,hb,ho⟩;obtain⟨sa,sc,be⟩:=zh0 ho;subst be;have B1:=za4 (B0.X.trans (hb.mono B0.X.size));have P1:=za4 (za0 hb (za2 P0.X) P0.X);have Q1:=za4 (za0 hb (za2 Q0.X) Q0.X);have S1:Zb (za3 w1 sa S):=ze9 ho;clear hb ho B0 P0 Q0 SB;have kc:=keepL fs.X B1.X
 go_wp2_with fail
 clear kc;refine(PK.X w1).mono ?_;rintro e w2 ⟨Qn,rfl,hb,ho⟩;obtain⟨pa,pc,be⟩:=zh0 ho;subst be;have B2:=za4 (B1.X.trans (hb.mono B1.X.size));have P2:=za4 (za0 hb (za2 P1.X) P1.X);have Q2:=za4 (za0 hb (za2 Q1.X) Q1.X);have S2:=za4 (S1.X.below hb);have O2:Zb (za3 w2 pa P):=ze9 ho;clear hb ho B1 P1 Q1 S1 PK;have D3:Zb (DL w2 (w2.alloc (zg #[za ra nR rc,za la l lc] 33)) S P R L ra la 0 ra nR rc la l lc R L):=by
  have h2:Za w2.heap.size w2 (w2.alloc (zg #[za ra nR rc,za la l lc] 33)):=zP _;have hw:=B2.X.trans (h2.mono B2.X.size);exact⟨h2,zS _ _,HR.X.below hw,iK.X,HL.X.below hw,dS.X,HI.X,rfl,rfl,fd.X,e_.X,HC.X,fun _ _ h=>h⟩
 obtain⟨p1,p2⟩:=za1 P2.X
 go_wp2_with fail
 clear p1 p2;generalize w2.alloc _=W3 at*;go_loopw[32] (fun t wr=>∃(i:Nat) (ag:Option Zd) (n2 ai:Nat) (ak:Option Zd) (l2 aj:Nat) (R2:List RT) (L2:List Int),i<=m/\t=ze zd i/\DL w2 wr S P R L ra la i ag n2 ai ak l2 aj R2 L2) (fun t _=>m - (intOf t).toNat)
 case atStart=>exact⟨0,ra,nR,rc,la,l,lc,R,L,xi _,rfl,D3.X⟩
 case round=>
  clear D3;obtain⟨i,ag,n2,ai,ak,l2,aj,R2,L2,hi,rfl,hD⟩:=hrel;have DR:=za4 hD;clear hD;by_cases ah:i<m
  ·have et:(i:Int)<(m:Int):=by omega
   obtain⟨pk,wV⟩:=xp (HP.X i ah).1;have v9:=za4 wV;have G_:pk<N:=by have:=(HP.X i ah).2;omega
   clear wV;obtain⟨bp,op,It,jD⟩:=(O2.X.below DR.X.b) i (by rw[HM.X];exact ah);obtain⟨bs,LU,H6,cw⟩:=(S2.X.below DR.X.b) pk (by rw[oH.X];exact G_);subst It;subst H6;rw[v9.X]at jD;have HX:Zb (S.getD pk 0=pkd S P i):=by show _=_;unfold pkd;rw[v9.X];rfl
   rw[HX.X]at cw;obtain⟨k,at_,hk,aY,gR,bd,cB⟩:=DR.X.iv.at (DR.X.iv.mm i (zT _) (by rw[HM.X];exact ah));have LV:Zb (∀W,Za wr.heap.size wr W->Zc zh 115 #[.agg #[za ag n2 ai,za ak l2 aj],ze zd (pkd S P i)] W (zG9 W R2 L2 (pkd S P i) (R2.getD k rt0) at_)):=fun W hW=>by
    have D:=DR.X.below hW;have dg:=D.iv.ll;rw[dS.X]at dg;have gu:=D.ln;exact yg5 ag ak n2 ai l2 aj k R2 L2 (pkd S P i) W D.r D.rn (by have:=D.iv.ln;have:=D.rn;omega) D.iv.rs D.fr D.s D.ln (by omega) (yh2 D.iv.up) D.fl (fun j hj=>D.iv.sm _ (zh6 hj)) hk aY at_ gR bd
   have En:Zb (∀W e w1,Za wr.heap.size wr W->zG9 W R2 L2 (pkd S P i) (R2.getD k rt0) at_ e w1->∃(bL:Option Zd) (n3 bU:Nat) (fS:Option Zd) (l3 bX:Nat) (R3:List RT) (L3:List Int),e=.returned (.agg #[za bL n3 bU,za fS l3 bX])/\Za W.heap.size W w1/\DL w2 ((w1.setCell ⟨w2.heap.size,0,none⟩ (za bL n3 bU)).setCell ⟨w2.heap.size,1,none⟩ (za fS l3 bX)) S P R L ra la (i+1) bL n3 bU fS l3 bX R3 L3):=fun W e w1 hW ht=>(DR.X.below hW).step HD.X (by rw[HM.X];exact ah) hk bd cB ht
   clear hk aY gR bd cB;obtain⟨x,gQ⟩:=nmd (pkd S P i);rw[gQ.X]at cw LV En;obtain⟨y0,y1⟩:=za1 DR.X.x;have z0:=fun s:Kin wr=>s.cell y0;have z1:=fun s:Kin wr=>s.cell y1;have z2:=fun s:Kin wr=>s.cell cw;have aV:=Kin.there wr
   go_wp2_with fail
   refine zm0 5 (by kernel_rfl) (by kernel_rfl) ?_;simp only[List.take_succ_cons,qM,List.drop_succ_cons,List.drop_zero]
   repeat(go_big_quiet_step (fail))
   refine xA ?_;rintro _ ⟨s,rfl⟩;clear z0 z1 z2 aV y0 y1 jD cw;have BS:=za4 (s.below);generalize s.w=w5 at*
   go_wp2_with fail
   refine(LV.X w5 BS.X).mono ?_;intro e w6 ht;obtain⟨bL,n3,bU,fS,l3,bX,R3,L3,rfl,iE,vk⟩:=En.X w5 e w6 BS.X ht;have D6:=za4 vk;have X6:Zb (w6.heap[w2.heap.size]? =some (zg #[za ag n2 ai,za ak l2 aj] 33 (0,0))):=by
    have h5:=za0 BS.X (za2 DR.X.x) DR.X.x;exact za0 iE (za2 h5) h5
   clear ht iE vk LV En BS DR;obtain⟨y0,y1⟩:=za1 X6.X;have yf:=fun i=>yZ _ _ i _ _ X6.X;go_wp2
   first
    |exact⟨⟨i+1,bL,n3,bU,fS,l3,bX,R3,L3,by omega,by go_num,D6.X⟩,by simp[intOf];omega⟩
    |(go_roundw
      case rel=>exact⟨i+1,bL,n3,bU,fS,l3,bX,R3,L3,by omega,by go_num,D6.X⟩
      case measure=>simp[intOf];omega)
  ·have oe:i=m:=by omega
   subst oe;have aW:¬((i:Int)<(i:Int)):=by omega
   clear ah;have B5:=za4 (B2.X.trans (DR.X.b.mono B2.X.size));obtain⟨c0,c1,c2,c3,c4⟩:=za7 (za0 B5.X (za2 cW.X) cW.X);obtain⟨y0,y1⟩:=za1 DR.X.x;have PC:=Dt.X wr ag ak n2 ai l2 aj R2 L2 B5.X DR.X.r DR.X.rn DR.X.s DR.X.ln DR.X.iv (by rw[<-HF.X];exact DR.X.kr) (by rw[<-HF.X];exact DR.X.kl) DR.X.c
   go_wp2_with fail
   clear c0 c1 c2 c3 c4 y0 y1;refine PC.mono ?_;rintro e w7 ⟨rfl,jK⟩;have D7:=za4 (DR.X.below jK);have B7:=za4 (B2.X.trans (D7.X.b.mono B2.X.size));have P7:=za4 (za0 D7.X.b (za2 P2.X) P2.X);have Q7:=za4 (za0 D7.X.b (za2 Q2.X) Q2.X);have pA:w.heap.size<=q1:=by have:=gO.X;omega
   clear jK PC Dt DR B5 P2 Q2 S2 O2;obtain⟨v0,v1⟩:=za1 Q7.X;have vf:=fun i=>yZ _ _ i _ _ Q7.X;by_cases hz:pv=0
   ·have ba:(pv !=0)=false:=by rw[hz];rfl
    have bE:((w7.setCell ⟨q1,0,none⟩ (za ag n2 ai)).setCell ⟨q1,1,none⟩ (za ak l2 aj)).heap[q1]? =some (zg #[za ag n2 ai,za ak l2 aj] 33 (0,0)):=by
     have:=xb _ q1 1 _ _ (za ak l2 aj) (xb w7 q1 0 _ _ (za ag n2 ai) Q7.X);simpa using this
    have mY:Zb (yh6 n fine zs os vs ko kv S P last ra nR rc la l lc R L w (.returned (.tuple #[.agg #[za ag n2 ai,za ak l2 aj],ze zd last,.bool true])) ((w7.setCell ⟨q1,0,none⟩ (za ag n2 ai)).setCell ⟨q1,1,none⟩ (za ak l2 aj))):=by
     have ci:(w7.setCell ⟨q1,0,none⟩ (za ag n2 ai)).heap[q1]? =some (zg #[za ag n2 ai,za none 0 0] 33 (0,0)):=by
      have:=xb w7 q1 0 _ _ (za ag n2 ai) Q7.X;simpa using this
     refine⟨(B7.X.setCell pA _).setCell pA _,.inl ⟨by rw[HM.X,HF.X];exact cG.X.trans hz,ag,n2,ai,ak,l2,aj,R2,L2,rfl,ze7 (ze7 D7.X.r Q7.X 0 _) ci 1 _,D7.X.rn,zj1 (zj1 D7.X.s Q7.X 0 _) ci 1 _,D7.X.ln,by rw[HM.X];exact D7.X.kr,by rw[HM.X];exact D7.X.kl,by rw[HM.X];exact D7.X.iv,D7.X.fl,D7.X.fr,D7.X.c,fun k hk=>D7.X.o k (by have:=B2.X.size;omega)⟩⟩
    obtain⟨r0,r1⟩:=za1 bE;obtain⟨y0,y1⟩:=za1 D7.X.x;clear D7 B7 P7 Q7 bE;go_wp2;exact xe (v:=.tuple #[.agg #[za ag n2 ai,za ak l2 aj],ze zd last,.bool true]) (by simp[results,Tryz.results112,go_sem,r0,r1]) rfl mY.X
   ·have ba:(pv !=0)=true:=by simp[hz]
    have bE:((w7.setCell ⟨q1,0,none⟩ (za ra nR rc)).setCell ⟨q1,1,none⟩ (za la l lc)).heap[q1]? =some (zg #[za ra nR rc,za la l lc] 33 (0,0)):=by
     have:=xb _ q1 1 _ _ (za la l lc) (xb w7 q1 0 _ _ (za ra nR rc) Q7.X);simpa using this
    have mY:Zb (yh6 n fine zs os vs ko kv S P last ra nR rc la l lc R L w (.returned (.tuple #[.agg #[za ra nR rc,za la l lc],ze zd last,.bool false])) ((w7.setCell ⟨q1,0,none⟩ (za ra nR rc)).setCell ⟨q1,1,none⟩ (za la l lc))):=
     ⟨(B7.X.setCell pA _).setCell pA _,.inr ⟨by rw[HM.X,HF.X,cG.X];exact hz,rfl⟩⟩
    obtain⟨r0,r1⟩:=za1 bE;obtain⟨y0,y1⟩:=za1 P7.X;clear D7 B7 P7 Q7 bE;go_wp2;exact xe (v:=.tuple #[.agg #[za ra nR rc,za la l lc],ze zd last,.bool false]) (by simp[results,Tryz.results112,go_sem,r0,r1]) rfl mY.X
def z16(w:zi)(v:Int)(f:Bool)(T:List RT)(L:List Int)(e:Ending)(w':zi):Prop:=∃ra rn rc la ln lc S,e=.returned (.tuple #[.agg #[za ra rn rc,za la ln lc],ze zd v,.bool f])/\Za w.heap.size w w'/\S.length=rn/\L.length=ln/\S.map RT.key=T.map RT.key/\PO w' w.heap.size (za ra rn rc) S (za la ln lc) L/\(f=true->∃g,la=some ⟨g,0,none⟩)
theorem y60{sd kk n fine:Int}{zs os vs:List Int}{ko kv:Nat}{R:List RT}{L:List Int}(h:deB sd kk n fine zs os vs ko kv R L=true):deN sd kk n fine zs os vs ko kv R L=z87 sd (deS R).length (min kk ((deS R).length:Int))/\(deW sd kk n fine zs os vs ko kv R L=0->deF sd kk n fine zs os vs ko kv R L=true/\deR sd kk n fine zs os vs ko kv R L=(deQ sd kk R L).1/\deL sd kk n fine zs os vs ko kv R L=(deQ sd kk R L).2)/\(deW sd kk n fine zs os vs ko kv R L≠0->deF sd kk n fine zs os vs ko kv R L=false/\deR sd kk n fine zs os vs ko kv R L=R/\deL sd kk n fine zs os vs ko kv R L=L):=by
 unfold deN deF deR deL;rw[h];refine⟨rfl,fun hw=> ?_,fun hw=> ?_⟩
 ·simp[hw]
 ·simp[hw]
theorem zB7(sd kk n fine:Int)(a ao av ra la:Option Zd)(zl ac ko co kv cv nr rc ln lc:Nat)(zs os vs L:List Int)(R:List RT)(w:zi)(hA:za3 w a zs)(hO:za3 w ao os)(hV:za3 w av vs)(aN:zs.length=zl)(an:os.length=ko*6)(au:vs.length=kv*5)(aA:ko<=9223372036854775807)(aB:kv<=9223372036854775807)(hP:zc2 w ra (la) nr ln R L)(hn:nr<=1048576)(hi:∀r∈R,r.ids.length<=1048576)(dg:ln<=1048576)(cS:(zb0 R R.length).length<=1048576):
 Zc zh 42 #[.agg #[ze zd n,za a zl ac,za ao ko co,za av kv cv,ze zd fine],.agg #[za ra nr rc,za (la) ln lc],ze zd sd,ze zd kk] w (z16 w (deN sd kk n fine zs os vs ko kv R L) (deF sd kk n fine zs os vs ko kv R L) (deR sd kk n fine zs os vs ko kv R L) (deL sd kk n fine zs os vs ko kv R L)):=by
 have HA:=za4 hA;have HO:=za4 hO;have HV:=za4 hV;have ck:=za4 aN;have aF:=za4 an;have aE:=za4 au;have HP:=za4 hP;have HN:Zb (R.length=nr):=hP.1;have HM:Zb (L.length=ln):=hP.2.1;have HI:=za4 hi;clear hA hO hV aN an au hP hi;obtain⟨pv,cG⟩:=nmd (zc1 n zs os vs ko kv fine R L);obtain⟨k1,di⟩:=nmd (inB kk 0 12);obtain⟨s1,d9⟩:=nmd (inB sd 0 2147483647);have d7:Zb (deB sd kk n fine zs os vs ko kv R L=(decide (pv=0)&&(k1&&s1))):=by show _=_;unfold deB;rw[cG.X,di.X,d9.X]
 have bw:Zb (deB sd kk n fine zs os vs ko kv R L=false->deN sd kk n fine zs os vs ko kv R L= -1/\deF sd kk n fine zs os vs ko kv R L=false/\deR sd kk n fine zs os vs ko kv R L=[]/\deL sd kk n fine zs os vs ko kv R L=[]):=fun h=>by
  unfold deN deF deR deL;rw[h];exact⟨rfl,rfl,rfl,rfl⟩
 have gJ:Zb (deB sd kk n fine zs os vs ko kv R L=true->_):=fun h=>y60 h;obtain⟨GN,sC⟩:=nmd (deN sd kk n fine zs os vs ko kv R L);obtain⟨GF,Hi⟩:=nmd (deF sd kk n fine zs os vs ko kv R L);obtain⟨GR,cC⟩:=nmd (deR sd kk n fine zs os vs ko kv R L);obtain⟨GL,cZ⟩:=nmd (deL sd kk n fine zs os vs ko kv R L);rw[sC.X,Hi.X,cC.X,cZ.X]at bw gJ;rw[sC.X,Hi.X,cC.X,cZ.X];clear sC Hi cC cZ;have Q0:Zb (GQ w (((w.alloc (zg #[ze zd n,za a zl ac,za ao ko co,za av kv cv,ze zd fine] 30)).alloc (zg #[za ra nr rc,za (la) ln lc] 33)).alloc (zg #[za none 0 0,za none 0 0] 33)) #[ze zd n,za a zl ac,za ao ko co,za av kv cv,ze zd fine] #[za ra nr rc,za (la) ln lc]):=by
  refine⟨((zP _).alloc (by simp) _).alloc (by simp;omega) _,?_,?_,?_⟩
  ·exact(xg _ _ (by simp;omega)).trans (xm _ _ _)
  ·exact(xg _ _ (by simp)).trans (xh _ _ _)
  ·have:=zS ((w.alloc (zg #[ze zd n,za a zl ac,za ao ko co,za av kv cv,ze zd fine] 30)).alloc (zg #[za ra nr rc,za (la) ln lc] 33)) (zg #[za none 0 0,za none 0 0] 33)
   simpa using this
 have o_:Zb (∀W,Za w.heap.size w W->Zc zh 38 #[.agg #[ze zd n,za a zl ac,za ao ko co,za av kv cv,ze zd fine],.agg #[za ra nr rc,za (la) ln lc]] W fun e w'=>e=.returned (ze zd pv)/\Za W.heap.size W w'):=fun W hW=>by
  have PC:=zj2 n fine a ao av ra (la) ac ko co kv cv rc lc zs os vs L R W (HA.X.below hW) (HO.X.below hW) (HV.X.below hW) (HP.X.2.2.1.below hW) (HP.X.2.2.2.1.below hW) aF.X aE.X aA aB (by rw[HN.X];exact hn) HI.X HP.X.2.2.2.2.2.2 (by rw[HM.X];exact dg) cS;rw[HN.X,HM.X,ck.X,cG.X]at PC;exact PC
 obtain⟨c0,c1,c2,c3,c4⟩:=za7 Q0.X.c;obtain⟨p0,p1⟩:=za1 Q0.X.p;go_enter Tryz.func42,Tryz.ntmps42
 go_wp2_with fail
 generalize((w.alloc _).alloc _).alloc _=W0 at*;refine(o_.X W0 Q0.X.b).mono ?_;rintro e w1 ⟨rfl,hb⟩;have Q1:=za4 (Q0.X.below hb);clear hb c0 c1 c2 c3 c4 p0 p1 Q0;obtain⟨a0,a1⟩:=za1 Q1.X.o;have af:=fun i=>yZ _ _ i _ _ Q1.X.o;by_cases dq:pv=0
 ·rw[zW dq,ji]at d7
  have ur:(pv !=0)=false:=by simp[dq]
  cases k1
  ·have B5:Zb (Za w.heap.size w ((w1.setCell ⟨w.heap.size+2,0,none⟩ (za none 0 0)).setCell ⟨w.heap.size+2,1,none⟩ (za none 0 0))):=(Q1.X.b.setCell (by simp) _).setCell (by simp) _
   obtain⟨g1,g2,g3,g4⟩:=bw.X (by rw[d7.X];try rfl);subst g1 g2 g3 g4;clear bw
   go_wp2_with((go_at_call 39;refine(zc0 _ _ _ _).mono ?_;rintro e w' ⟨rfl,dx⟩;subst w';first|rw[di.X]|rw[d9.X]))
   refine xe (v:=.tuple #[.agg #[za none 0 0,za none 0 0],ze zd (-1),.bool false]) (by simp[results,Tryz.results42,go_sem,a0,a1]) rfl ?_;show z16 _ _ _ _ _ _ _;exact⟨none,0,0,none,0,0,[],rfl,B5.X,rfl,rfl,rfl,⟨xZ _ _ _ _,(fun s hs=>by cases hs),xZ _ _ _ _⟩,fun h=>by cases h⟩
  ·cases s1
   ·have B5:Zb (Za w.heap.size w ((w1.setCell ⟨w.heap.size+2,0,none⟩ (za none 0 0)).setCell ⟨w.heap.size+2,1,none⟩ (za none 0 0))):=(Q1.X.b.setCell (by simp) _).setCell (by simp) _
    obtain⟨g1,g2,g3,g4⟩:=bw.X (by rw[d7.X];try rfl);subst g1 g2 g3 g4;clear bw
    go_wp2_with((go_at_call 39;refine(zc0 _ _ _ _).mono ?_;rintro e w' ⟨rfl,dx⟩;subst w';first|rw[di.X]|rw[d9.X]))
    refine xe (v:=.tuple #[.agg #[za none 0 0,za none 0 0],ze zd (-1),.bool false]) (by simp[results,Tryz.results42,go_sem,a0,a1]) rfl ?_;show z16 _ _ _ _ _ _ _;exact⟨none,0,0,none,0,0,[],rfl,B5.X,rfl,rfl,rfl,⟨xZ _ _ _ _,(fun s hs=>by cases hs),xZ _ _ _ _⟩,fun h=>by cases h⟩
   ·have D0:=zT2 (sd:=sd) (kk:=kk) (cG.X.trans dq) di.X d9.X
    have Fw:∀W,Za w.heap.size w W->_:=fun W hW=>zs2 n fine a ao av ra (la) ac ko co kv cv rc lc zs os vs L R W (HP.X.2.2.1.below hW) (by rw[HN.X];exact hn) HP.X.2.2.2.2.2.2 pv cG.X (fun X hX=>by rw[ck.X,HN.X,HM.X];exact o_.X X (hW.trans (hX.mono hW.size)))
    have mb:zi7 n zs os vs ko kv fine R L=deS R:=by unfold zi7;rw[z7 (cG.X.trans dq)];rfl
    have fy:=gJ.X d7.X;have JT:∀W (ag ak:Option Zd) (n2 ai l2 aj:Nat) (R2:List RT) (L2:List Int),Za w.heap.size w W->za9 W ag R2->R2.length=n2->za3 W ak L2->L2.length=l2->(∀r∈R2,r.ids.length<=12/\r.ids.length<=r.c)->n2<=100->l2<=100->(zb0 R2 R2.length).length<=1048576->R2.map RT.key=(deQ sd kk R L).1.map RT.key->L2=(deQ sd kk R L).2->Zc zh 38 #[.agg #[ze zd n,za a zl ac,za ao ko co,za av kv cv,ze zd fine],.agg #[za ag n2 ai,za ak l2 aj]] W fun e w'=>e=.returned (ze zd (deW sd kk n fine zs os vs ko kv R L))/\Za W.heap.size W w':=fun W ag ak n2 ai l2 aj R2 L2 hW h1 h2 h3 h4 h5 h6 h7 h8 h9 Hc=>by
     have PC:=zj2 n fine a ao av ag ak ac ko co kv cv ai aj zs os vs L2 R2 W (HA.X.below hW) (HO.X.below hW) (HV.X.below hW) h1 h3 aF.X aE.X aA aB (by omega) (fun r hr=>by have:=(h5 r hr).1;omega) (fun r hr=>(h5 r hr).2) (by omega) h8;rw[h2,h4,ck.X,zd6 L2 h9,Hc]at PC;exact PC
    clear bw gJ d7 o_ a0 a1 af;have hQ:deQ sd kk R L=lvF (deS R) (deP sd kk R) R L (deP sd kk R).length:=rfl;have JN:deP sd kk R=zs4 sd (deS R).length (min kk ((deS R).length:Int)):=rfl;obtain⟨i1,i2,i3,i4,i5,i6,-⟩:=D0;rw[mb]at Fw;generalize deW sd kk n fine zs os vs ko kv R L=pw at*;generalize deQ sd kk R L=Q at*;generalize deP sd kk R=P at*;generalize deS R=S at*;have SV:Zb (∀W,Za w.heap.size w W->Zc zh 90 #[.agg #[ze zd n,za a zl ac,za ao ko co,za av kv cv,ze zd fine],.agg #[za ra nr rc,za (la) ln lc]] W fun e w'=>∃sl,e=.returned sl/\Za W.heap.size W w'/\w'.ownsRow W.heap.size 2 1 sl S.length (S.map (ze zd))):=fun W hW=>by
     have:=Fw W hW;rw[ck.X,HN.X,HM.X]at this;exact this
    have PK:Zb (∀W,Zc zh 91 #[ze zd sd,ze zd S.length,ze zd (min kk (S.length:Int))] W fun e w'=>∃sl,e=.returned (.tuple #[sl,ze zd GN])/\Za W.heap.size W w'/\w'.ownsRow W.heap.size 2 1 sl P.length (P.map (ze zd))):=fun W=>by
     have h:=zK5 sd S.length (min kk (S.length:Int)) W;rw[<-JN,<-fy.1]at h;exact h
    have Pt:Zb (pw=0->GF=true/\GR=Q.1/\GL=Q.2):=fy.2.1;have Hv:Zb (pw≠0->GF=false/\GR=R/\GL=L):=fy.2.2;have uX:Zb (∀W,Za w.heap.size w W->Zc zh 40 #[.agg #[za ra nr rc,za (la) ln lc]] W (yu1 W R L)):=fun W hW=>by
     have:=zy4 ra la rc lc R L W (HP.X.2.2.1.below hW) (HP.X.2.2.2.1.below hW) (by rw[HM.X];exact HP.X.2.2.2.2.2.1) (by omega) (fun r hr=>⟨i1.ne r hr,by have:=i1.sm r hr;omega⟩) (by omega);rw[HN.X,HM.X]at this;exact this
    have J1:Zb _:=JT;have IV:=za4 i1;have ID:=za4 i2;have HQ:=za4 hQ;have mo:=za4 i3;clear Fw JT mb fy hQ JN i1 i2 i3;obtain⟨N,eH⟩:=nmd S.length;obtain⟨m,wC⟩:=nmd P.length;rw[eH.X]at SV PK mo i4 i5;rw[wC.X]at PK ID HQ mo i4;rw[HM.X]at i5;rw[HN.X]at i6;have Pr:min kk (N:Int)=min kk (N:Int):=rfl;obtain⟨K,oV⟩:∃v,min kk (N:Int)=v:=⟨_,rfl⟩;clear Pr;rw[oV]at PK;obtain⟨c0,c1,c2,c3,c4⟩:=za7 Q1.X.c;obtain⟨p0,p1⟩:=za1 Q1.X.p
    go_wp2_with(go_at_call 39;refine(zc0 _ _ _ _).mono ?_;rintro e w' ⟨rfl,dx⟩;subst w';first|rw[di.X]|rw[d9.X])
    refine(SV.X w1 Q1.X.b).mono ?_;rintro e w2 ⟨sl,rfl,hb,ho⟩;obtain⟨sa,sc,be⟩:=zh0 ho;subst be;have Q2:=za4 (Q1.X.below hb);have S2:Zb (za3 w2 sa S):=ze9 ho;clear hb ho Q1 SV c0 c1 c2 c3 c4 p0 p1
    go_wp2_with fail
    refine(PK.X w2).mono ?_;rintro e w3 ⟨sl,rfl,hb,ho⟩;obtain⟨pa,pc,be⟩:=zh0 ho;subst be;have Q3:=za4 (Q2.X.below hb);have S3:=za4 (S2.X.below hb);have O3:Zb (za3 w3 pa P):=ze9 ho;clear hb ho Q2 S2 PK;obtain⟨p0,p1⟩:=za1 Q3.X.p
    go_wp2_with fail
    refine(uX.X w3 Q3.X.b).mono ?_;rintro e w4 ⟨bj,bD,nG,bJ,R4,rfl,hb,eL,ho⟩;rw[HN.X,HM.X]at ho⊢;have Q4:=za4 (Q3.X.below hb);have S4:=za4 (S3.X.below hb);have O4:=za4 (O3.X.below hb);have D4:Zb (DS w4 (w4.alloc (zg #[za bj nr bD,za (some ⟨nG,0,none⟩) ln bJ] 33)) (w.heap.size+3) S P R L 0 bj nr bD nG ln bJ R4 L):=by
     have h2:Za w4.heap.size w4 (w4.alloc (zg #[za bj nr bD,za (some ⟨nG,0,none⟩) ln bJ] 33)):=zP _;refine⟨h2,zS _ _,(ho.base (by have:=Q3.X.size;omega)).below h2,by rw[<-HN.X];have:=congrArg zo eL;simpa using this,HM.X,IV.X.key eL,eL,rfl⟩
    clear hb ho eL Q3 S3 O3 p0 p1
    go_wp2_with fail
    have aU:Zb (w.heap.size+3<=w4.heap.size):=Q4.X.size;generalize w4.alloc _=W5 at*;obtain⟨kb,fs⟩:=nmd w4.heap.size;rw[fs.X];go_loopw[15] (fun t wr=>∃(i:Nat) (ag:Option Zd) (n2 ai bS l2 aj:Nat) (R2:List RT) (L2:List Int),i<=m/\t=ze zd i/\DS w4 wr (w.heap.size+3) S P R L i ag n2 ai bS l2 aj R2 L2) (fun t _=>m - (intOf t).toNat)
    case atStart=>exact⟨0,bj,nr,bD,nG,ln,bJ,R4,L,xi _,rfl,D4.X⟩
    case round=>
     clear D4;obtain⟨i,ag,n2,ai,bS,l2,aj,R2,L2,hi,rfl,hD⟩:=hrel;obtain⟨wo,Qg⟩:∃v,v=wr:=⟨_,rfl⟩;subst Qg;have DR:=za4 hD;clear hD;by_cases ah:i<m
     ·have et:(i:Int)<(m:Int):=by omega
      obtain⟨pk,wV⟩:=xp (mo.X i ah).1;have v9:=za4 wV;have G_:pk<N:=by have:=(mo.X i ah).2;omega
      clear wV;obtain⟨bp,op,It,jD⟩:=(O4.X.below DR.X.b) i (by rw[wC.X];exact ah);obtain⟨bs,LU,H6,cw⟩:=(S4.X.below DR.X.b) pk (by rw[eH.X];exact G_);subst It;subst H6;rw[v9.X]at jD;have HX:Zb (S.getD pk 0=pkd S P i):=by show _=_;unfold pkd;rw[v9.X];rfl
      rw[HX.X]at cw;obtain⟨k,hk,bd,aY⟩:=zH1 (DR.X.iv.mm i (zT _) (by rw[wC.X];exact ah));obtain⟨x,gQ⟩:=nmd (pkd S P i);rw[gQ.X]at cw bd aY;have fW:=za4 bd;have bw:=za4 aY;have iK:Zb (R2.length=n2):=DR.X.rn;have cL:k<n2:=by rw[<-iK.X];exact hk
      have Od:n2<=100:=by have:=DR.X.iv.ln;have:=iK.X;omega
      have gu:l2<=50:=by have h1:=DR.X.ln;have h2:=DR.X.iv.ll;have h3:=HM.X;omega
      clear bd aY hk
      go_wp2_with fail
      clear jD cw;go_loopw[17] (fun t wx=>∃j:Nat,j<=k/\t=ze zd j/\Za wo.heap.size wo wx) (fun t _=>k+1 - (intOf t).toNat)
      case atStart=>exact⟨0,xi _,rfl,y5 _ _⟩
      case round=>
       obtain⟨j,hj,rfl,gS⟩:=hrel;obtain⟨wx,Ee⟩:∃v,v=wr:=⟨_,rfl⟩;subst Ee;have DX:=za4 (DR.X.below gS);have BX:=za4 gS;clear gS;have Cw:(j:Int)<(n2:Int):=by omega
       obtain⟨b,off,e,r1,r2,r3⟩:=(zI5 DX.X.o iK.X) j (by rw[iK.X];omega);subst e;have R3:=za4 r3;obtain⟨d0,d1⟩:=za1 DX.X.x;rw[fs.X]at d0 d1;have fR:Zb ((R2.getD j rt0).ids.length<=12):=DX.X.iv.sm _ (zh6 (by rw[iK.X];omega));have tk:=zt3 (R2.getD j rt0).ids x;have L3:=zx0 (R2.getD j rt0).a (R2.getD j rt0).ids.length (R2.getD j rt0).c x (R2.getD j rt0).ids wx r3 (zT _) (by have:=fR.X;omega);rw[tk]at L3;by_cases Ir:j<k
       ·have aY:=bw.X j Ir
        rw[zX aY]at L3;clear R3;obtain⟨rt,de⟩:=nmd (R2.getD j rt0);rw[de.X]at r1 r2 L3;clear de r3 fR tk aY;obtain⟨rl,cu⟩:=nmd rt.ids.length;rw[cu.X]at r2 L3
        go_wp2_with(go_at_call 87;refine L3.mono ?_;rintro e w' ⟨rfl,dx⟩;subst w')
        go_roundw
        case rel=>exact⟨j+1,by omega,by first|rfl|go_num,BX.X⟩
        case measure=>simp[intOf];omega
       ·have Qi:j=k:=by omega
        subst Qi;rw[zW fW.X]at L3;have aq:(R2.getD j rt0).ids≠[]:=fun h9=>by have h8:=fW.X;rw[h9]at h8;cases h8
        obtain⟨br,uB,er,-⟩:=r3 0 (xV.2 aq);have ik:∀W,Za wx.heap.size wx W->_:=fun W hW=>z80 br uB (R2.getD j rt0).c (R2.getD j rt0).ids x W (by have:=R3.X.below hW;rw[er]at this;exact this) (by have:=fR.X;omega)
        have bI:R2.getD j rt0∈R2:=zh6 (by rw[iK.X];exact cL);have il:∀W (g cg:Nat),Za wx.heap.size wx W->za3 W (some ⟨g,0,none⟩) (cutP (R2.getD j rt0).ids x)->_:=fun W g cg hW hX=>yn2 (some ⟨b,off,none⟩) n2 ai bS l2 aj g cg (cutP (R2.getD j rt0).ids x).length j R2 L2 x W DX.X.iv (by have:=DX.X.ln;omega) DX.X.ln iK.X (zI5 (DX.X.below hW).o iK.X) (yA7 (DX.X.below hW).o DX.X.ln) (by rw[iK.X];exact cL) fW.X rfl hX
        rw[er]at r2 L3;clear R3 r3 tk aq bI bw er;obtain⟨rt,de⟩:=nmd (R2.getD j rt0);rw[de.X]at r1 r2 L3 ik il;obtain⟨cl,jG⟩:=nmd ((cutP rt.ids x).length);obtain⟨rl,cu⟩:=nmd rt.ids.length;obtain⟨rv,bA⟩:=nmd rt.v;obtain⟨AE,bt⟩:=nmd rt.c;rw[cu.X,bt.X]at r2 L3;rw[bA.X]at r1;rw[cu.X,bt.X,jG.X]at ik;rw[bA.X,jG.X]at il;have AQ:Zb _:=ik;have AL:Zb _:=il;clear ik il fR de;have og:Zb (∀W,Za wx.heap.size wx W->(fun W=>W.cell? ⟨kb,0,none⟩=some (za (some ⟨b,off,none⟩) n2 ai)/\W.cell? ⟨kb,1,none⟩=some (za (some ⟨bS,0,none⟩) l2 aj)/\W.cell? ⟨b,off+j*2,none⟩=some (ze zd rv)/\W.cell? ⟨b,off+j*2+1,none⟩=some (za (some ⟨br,uB,none⟩) rl AE)) W):=fun W hW=>⟨keepL d0 hW,keepL d1 hW,keepL r1 hW,keepL r2 hW⟩;go_upto_region 14 with(go_at_call 87;refine L3.mono ?_;rintro e w' ⟨rfl,dx⟩;subst w')
        go_wp2_with fail
        refine ze4 (S:=(fun W=>W.cell? ⟨kb,0,none⟩=some (za (some ⟨b,off,none⟩) n2 ai)/\W.cell? ⟨kb,1,none⟩=some (za (some ⟨bS,0,none⟩) l2 aj)/\W.cell? ⟨b,off+j*2,none⟩=some (ze zd rv)/\W.cell? ⟨b,off+j*2+1,none⟩=some (za (some ⟨br,uB,none⟩) rl AE))) 17 (by kernel_rfl) ?_ fun aa=> ?_
        ·exact og.X _ (y5 _ _).drew
        have BD:Zb (Za wx.heap.size wx wx.drew):=(y5 _ _).drew;generalize wx.drew=wd at*;refine tkZ 0 aa ?_;refine tkZ 1 aa ?_;refine tkZ 2 aa ?_;refine tkZ 3 aa ?_;refine tkZ 4 aa ?_;refine tkZ 5 aa ?_;refine tkZ 6 aa ?_;refine tkZ 7 aa ?_;refine tkZ 8 aa ?_;refine tkZ 9 aa ?_;refine tkZ 10 aa ?_;refine tkZ 11 aa ?_;refine tkZ 12 aa ?_;refine tkZ 13 aa ?_;refine rdZ 14 fun K hK=> ?_;go_simp;refine(AQ.X wd BD.X).mono ?_;rintro e w6 ⟨g,cg,rfl,hb,ho⟩;have B6:=za4 (BD.X.trans (hb.mono BD.X.size));have X6:Zb (za3 w6 (some ⟨g,0,none⟩) (cutP rt.ids x)):=ze9 ho;clear hb ho
        try rw[jG.X]
        (try go_wp2_with fail)
        refine hoW hK (og.X _ B6.X) fun aa=> ?_;clear hK K;refine tkZ 15 aa ?_;refine rdZ 16 fun K hK=> ?_;go_simp;refine(AL.X w6 g cg B6.X X6.X).mono ?_;rintro e w7 ht;obtain⟨jL,n7,jF,g7,ir,R7,rfl,jK,hM⟩:=DX.X.mid aU.X B6.X ht;rw[fs.X]at hM;have M7:=za4 hM;have B7:=za4 jK;have F7:=fun i=>yZ _ _ i _ _ (za0 jK (by have:=za2 DX.X.x;rw[fs.X]at this;exact this) (by have:=DX.X.x;rw[fs.X]at this;exact this))
        obtain⟨f0,f1,-⟩:=og.X w7 jK;clear ht hM jK
        (try go_wp2_with fail)
        refine hoW hK (og.X _ B7.X) fun aa=> ?_;clear hK K;refine rdL 17 fun K hK=> ?_;go_simp;refine hK.out _ _ ?_;clear hK K;clear F7 f0 f1;generalize((w7.setCell ⟨kb,0,none⟩ _).setCell ⟨kb,1,none⟩ _)=w8 at*;refine zh3 (by kernel_rfl) ?_ _;clear aa AQ AL og L3 r1 r2 d0 d1;have ux:l2<=ir:=by have h9:=M7.X.o.l;rw[M7.X.ln]at h9;exact zz6 h9
        have E6:=zY6 g7 0 ir L2 x w8 (yA7 M7.X.o M7.X.ln) (by have:=M7.X.ln;omega) (by rw[M7.X.ln];exact ux);rw[M7.X.ln]at E6;have M8:=M7.X.x;rw[fs.X]at M8;obtain⟨m0,m1⟩:=za1 M8
        go_wp2_with fail
        refine E6.mono ?_;rintro e w9 ⟨g9,c9,rfl,mq,jm⟩;have D9:Zb (DS w4 (w9.setCell ⟨kb,1,none⟩ (za (some ⟨g9,0,none⟩) (l2+1) c9)) (w.heap.size+3) S P R L (i+1) jL n7 jF g9 (l2+1) c9 R7 (zz5 L2 (pkd S P i))):=by
         have hM:=M7.X;rw[<-gQ.X]at hM jm;have:=hM.put aU.X (by rw[wC.X];exact ID.X) (by rw[wC.X];exact ah) DX.X.iv DX.X.kr DX.X.kl mq jm;rw[fs.X]at this;exact this
        have X9:=za0 mq (za2 M8) M8;obtain⟨x0,x1⟩:=za1 X9;have xf:=fun i=>yZ _ _ i _ _ X9;clear mq jm E6 m0 m1 M8 X9;go_wp2;go_roundw
        case rel=>exact⟨i+1,jL,n7,jF,g9,l2+1,c9,R7,zz5 L2 (pkd S P i),by omega,by first|rfl|go_num,D9.X⟩
        case measure=>simp[intOf];omega
     ·have et:¬((i:Int)<(m:Int)):=by omega
      have tW:i=m:=by omega
      subst tW;have QW:=za4 (Q4.X.below DR.X.b);have Kr:=J1.X wo ag (some ⟨bS,0,none⟩) n2 ai l2 aj R2 L2 QW.X.b (zI5 DR.X.o DR.X.rn) DR.X.rn (yA7 DR.X.o DR.X.ln) DR.X.ln (fun r hr=>⟨DR.X.iv.sm r hr,(DR.X.o.ints r hr).2⟩) (by have:=DR.X.iv.ln;have:=DR.X.rn;omega) (by have:=DR.X.ln;have:=DR.X.iv.ll;have:=HM.X;omega) (by rw[zb8];have:=zO8 R2 DR.X.iv.sm;have:=DR.X.iv.ln;omega) (by rw[HQ.X];exact DR.X.kr) (by rw[HQ.X];exact DR.X.kl);obtain⟨c0,c1,c2,c3,c4⟩:=za7 QW.X.c;obtain⟨d0,d1⟩:=za1 DR.X.x;rw[fs.X]at d0 d1
      go_wp2_with fail
      refine Kr.mono ?_;rintro e w6 ⟨rfl,hb⟩;have Q6:=za4 (QW.X.below hb);have D6:=za4 (DR.X.below hb);clear hb Kr c0 c1 c2 c3 c4 d0 d1 QW DR J1;by_cases fQ:pw=0
      ·obtain⟨g1,g2,g3⟩:=Pt.X fQ
       have Gr:(pw !=0)=false:=by simp[fQ]
       obtain⟨d0,d1⟩:=za1 D6.X.x;rw[fs.X]at d0 d1;obtain⟨a0,a1⟩:=za1 Q6.X.o;have af:=fun i=>yZ _ _ i _ _ Q6.X.o;have s1:=xb w6 (w.heap.size+2) 0 _ _ (za ag n2 ai) Q6.X.o;have P7:Zb (PO ((w6.setCell ⟨w.heap.size+2,0,none⟩ (za ag n2 ai)).setCell ⟨w.heap.size+2,1,none⟩ (za (some ⟨bS,0,none⟩) l2 aj)) (w.heap.size+3) (za ag n2 ai) R2 (za (some ⟨bS,0,none⟩) l2 aj) L2):=(D6.X.o.box Q6.X.o).box s1;have B7:Zb (Za w.heap.size w ((w6.setCell ⟨w.heap.size+2,0,none⟩ (za ag n2 ai)).setCell ⟨w.heap.size+2,1,none⟩ (za (some ⟨bS,0,none⟩) l2 aj))):=(Q6.X.b.setCell (by simp) _).setCell (by simp) _;have mD:Zb (R2.map RT.key=GR.map RT.key):=by show _=_;rw[g2,HQ.X];exact D6.X.kr
       have ee:Zb (L2=GL):=by show _=_;rw[g3,HQ.X];exact D6.X.kl
       clear s1;subst g1;clear g2 g3;go_wp2;refine xe (v:=.tuple #[.agg #[za ag n2 ai,za (some ⟨bS,0,none⟩) l2 aj],ze zd GN,.bool true]) (by simp[results,Tryz.results42,go_sem,a0,a1]) rfl ?_;show z16 _ _ _ _ _ _ _;rw[<-ee.X];exact⟨ag,n2,ai,_,l2,aj,R2,rfl,B7.X,D6.X.rn,D6.X.ln,mD.X,P7.X.base (by omega),fun _=>⟨_,rfl⟩⟩
      ·obtain⟨g1,g2,g3⟩:=Hv.X fQ
       have Gr:(pw !=0)=true:=by simp[fQ]
       subst g1 g2 g3;obtain⟨p0,p1⟩:=za1 Q6.X.p
       go_wp2_with fail
       refine(uX.X w6 Q6.X.b).mono ?_;rintro e w7 ⟨jL,jF,AG,ir,R7,rfl,hb,u4,ho⟩;rw[HN.X,HM.X]at ho⊢;have Q7:=za4 (Q6.X.below hb);have O_:Zb (PO w7 (w.heap.size+3) (za jL nr jF) R7 (za (some ⟨AG,0,none⟩) ln ir) GL):=ho.base (by have:=Q6.X.size;omega);have NH:=za4 u4;have Pg:Zb (R7.length=nr):=by have:=congrArg zo u4;simp only[qT]at this;exact this.trans HN.X
       clear hb ho u4 p0 p1;obtain⟨a0,a1⟩:=za1 Q7.X.o;have af:=fun i=>yZ _ _ i _ _ Q7.X.o;have s1:=xb w7 (w.heap.size+2) 0 _ _ (za jL nr jF) Q7.X.o;have P7:Zb (PO ((w7.setCell ⟨w.heap.size+2,0,none⟩ (za jL nr jF)).setCell ⟨w.heap.size+2,1,none⟩ (za (some ⟨AG,0,none⟩) ln ir)) (w.heap.size+3) (za jL nr jF) R7 (za (some ⟨AG,0,none⟩) ln ir) GL):=(O_.X.box Q7.X.o).box s1;have B7:Zb (Za w.heap.size w ((w7.setCell ⟨w.heap.size+2,0,none⟩ (za jL nr jF)).setCell ⟨w.heap.size+2,1,none⟩ (za (some ⟨AG,0,none⟩) ln ir))):=(Q7.X.b.setCell (by simp) _).setCell (by simp) _;clear s1;go_wp2;refine xe (v:=.tuple #[.agg #[za jL nr jF,za (some ⟨AG,0,none⟩) ln ir],ze zd GN,.bool false]) (by simp[results,Tryz.results42,go_sem,a0,a1]) rfl ?_;show z16 _ _ _ _ _ _ _;exact⟨jL,nr,jF,_,ln,ir,R7,rfl,B7.X,Pg.X,HM.X,NH.X,P7.X.base (by omega),fun _=>⟨_,rfl⟩⟩
 ·have ur:(pv !=0)=true:=by simp[dq]
  have B5:Zb (Za w.heap.size w ((w1.setCell ⟨w.heap.size+2,0,none⟩ (za none 0 0)).setCell ⟨w.heap.size+2,1,none⟩ (za none 0 0))):=(Q1.X.b.setCell (by simp) _).setCell (by simp) _;rw[zX dq,jj]at d7;obtain⟨g1,g2,g3,g4⟩:=bw.X (by rw[d7.X];try rfl);subst g1 g2 g3 g4;clear bw
  go_wp2_with((go_at_call 39;refine(zc0 _ _ _ _).mono ?_;rintro e w' ⟨rfl,dx⟩;subst w';first|rw[di.X]|rw[d9.X]))
  refine xe (v:=.tuple #[.agg #[za none 0 0,za none 0 0],ze zd (-1),.bool false]) (by simp[results,Tryz.results42,go_sem,a0,a1]) rfl ?_;show z16 _ _ _ _ _ _ _;exact⟨none,0,0,none,0,0,[],rfl,B5.X,rfl,rfl,rfl,⟨xZ _ _ _ _,(fun s hs=>by cases hs),xZ _ _ _ _⟩,fun h=>by cases h⟩
theorem z68(n fine ab:Int)(a ao av:Option Zd)(bi:Option Zd)(ac ko co kv cv c2:Nat)(zs os vs ids:List Int)(w:zi)(hA:za3 w a zs)(hO:za3 w ao os)(hV:za3 w av vs)(hI:za3 w bi ids)(an:os.length=ko*6)(au:vs.length=kv*5)(aA:ko<=9223372036854775807)(aB:kv<=9223372036854775807)(fe:ids.length<=1048576)(cw:ids.length<=c2)(mO:(bi=none/\ids=[]/\c2=0)∨∃g,bi=some ⟨g,0,none⟩)(id:Int)(s0:PS)(jQ:bpV (zd0 n zs os vs ko kv fine) n zs os vs ko kv ab ids id=s0):
 Zc zh 132 #[.agg #[ze zd n,za a zs.length ac,za ao ko co,za av kv cv,ze zd fine],.agg #[ze zd ab,za bi ids.length c2],ze zd id] w fun e w'=>e=.returned (.tuple #[ze zd (s0.i:Int),ze zd s0.v,.bool s0.f])/\Za w.heap.size w w':=by
 have HA:=za4 hA;have HO:=za4 hO;have HV:=za4 hV;have HI:=za4 hI;have aF:Zb _:=an;have aE:Zb _:=au;have oI:=za4 mO;clear hA hO hV hI an au mO;have gH:=za4 jQ;clear jQ;have C0:Zb (CR w ((w.alloc (zg #[ze zd n,za a zs.length ac,za ao ko co,za av kv cv,ze zd fine] 30)).alloc (zg #[ze zd ab,za bi ids.length c2] 80)) _ _):=CR.new w _ _;obtain⟨ok,tH⟩:=nmd (plB (zd0 n zs os vs ko kv fine) n zs os vs ko kv ab ids id);obtain⟨dl,AK⟩:=nmd (plD (zd0 n zs os vs ko kv fine) n zs os vs ko kv ab ids id);have HF:Zb (pst ok dl (ids.length+1)=s0):=by
  show pst ok dl (ids.length+1)=s0;rw[<-gH.X,<-tH.X,<-AK.X];rfl
 clear gH;go_enter Tryz.func132,Tryz.ntmps132
 go_wp2_with fail
 go_loopw[9,10,11,12] (fun ta tv tf t wr=>∃i:Nat,i<=ids.length+1/\t=ze zd i/\ta=ze zd ((pst ok dl i).i:Int)/\tv=ze zd (pst ok dl i).v/\tf=.bool (pst ok dl i).f/\CR w wr #[ze zd n,za a zs.length ac,za ao ko co,za av kv cv,ze zd fine] #[ze zd ab,za bi ids.length c2]) (fun _ _ _ t _=>ids.length+1 - (intOf t).toNat)
 case atStart=>exact⟨0,xi _,rfl,rfl,rfl,rfl,C0.X⟩
 case round=>
  clear C0;obtain⟨i,hi,rfl,rfl,rfl,rfl,hC⟩:=hrel;have C1:=za4 hC;clear hC;obtain⟨d0,d1⟩:=za1 C1.X.2.2;by_cases ah:i<=ids.length
  ·have h1:(i:Int)<=(ids.length:Int):=by omega
   have Bx:IntKind.i64.wrap ((i:Int)+1)=((i+1:Nat):Int):=by rw[xz _ (by omega)];omega
   have HN:Zb (pst ok dl (i+1)=zT3 ok dl (pst ok dl i) i):=rfl;obtain⟨s,HS⟩:=nmd (pst ok dl i);rw[HS.X]at HN⊢;obtain⟨sf,si,sv⟩:=s;simp only at HN⊢;obtain⟨ch,bK⟩:=nmd (ok i);obtain⟨D,bh⟩:=nmd (dl i);obtain⟨c0,c1,bZ,c3,c4⟩:=za7 C1.X.2.1;obtain⟨xs,lR⟩:=nmd (chL ch (insL ids i id))
   go_wp2_with fail
   clear c0 c1 bZ c3 c4 d0 d1;refine(zB9 n fine ab a ao av bi ac ko co kv cv c2 zs os vs ids wr (HA.X.below C1.X.1) (HO.X.below C1.X.1) (HV.X.below C1.X.1) (HI.X.below C1.X.1) aF.X aE.X aA aB (by omega) cw oI.X id (i:Int) ch (by rw[<-bK.X,<-tH.X];rfl) D (by rw[<-bh.X,<-AK.X,<-bK.X,<-tH.X];rfl) xs lR.X).mono ?_;rintro e w2 ⟨hb,ad,c,rfl,_⟩;obtain⟨vv,ez⟩:=nmd (chI ch ab);rw[ez.X];have C3:Zb (CR w (w2.alloc (zg #[ze zd vv,za ad xs.length c] 80)) _ _):=(C1.X.below hb).alloc _;clear hb;cases ch
   ·have kj:Zb (pst ok dl (i+1)=⟨sf,si,sv⟩):=HN.X.trans (zV2 bK.X)
    go_wp2;go_roundw
    case rel=>exact⟨i+1,by omega,by first|rfl|go_num,by rw[kj.X],by rw[kj.X],by rw[kj.X],C3.X⟩
    case measure=>simp[intOf];omega
   ·cases sf
    ·have kj:Zb (pst ok dl (i+1)=⟨true,i,D⟩):=HN.X.trans (by rw[<-bh.X];exact yw8 bK.X rfl)
     go_wp2;go_roundw
     case rel=>exact⟨i+1,by omega,by first|rfl|go_num,by rw[kj.X],by rw[kj.X],by rw[kj.X],C3.X⟩
     case measure=>simp[intOf];omega
    ·by_cases j0:D<sv
     ·have kj:Zb (pst ok dl (i+1)=⟨true,i,D⟩):=HN.X.trans (by rw[<-bh.X];exact y25 bK.X (by rw[bh.X];exact j0))
      go_wp2;go_roundw
      case rel=>exact⟨i+1,by omega,by first|rfl|go_num,by rw[kj.X],by rw[kj.X],by rw[kj.X],C3.X⟩
      case measure=>simp[intOf];omega
     ·have kj:Zb (pst ok dl (i+1)=⟨true,si,sv⟩):=HN.X.trans (yx3 rfl (by rw[bh.X];exact j0))
      go_wp2;go_roundw
      case rel=>exact⟨i+1,by omega,by first|rfl|go_num,by rw[kj.X],by rw[kj.X],by rw[kj.X],C3.X⟩
      case measure=>simp[intOf];omega
  ·have oe:i=ids.length+1:=by omega
   have h1:¬((i:Int)<=(ids.length:Int)):=by omega
   have Kl:Zb (pst ok dl i=s0):=by
    show pst ok dl i=s0;rw[oe];exact HF.X
   rw[Kl.X];clear oe Kl;go_wp2
   go_ret3
   exact⟨rfl,C1.X.1⟩
structure OQ(w W:zi)(cs ps:Array Value)(o0 o1:Value):Prop where
 b:Za w.heap.size w W
 c:W.heap[w.heap.size]? =some (.cells cs 30 (0,0))
 p:W.heap[w.heap.size+1]? =some (.cells ps 33 (0,0))
 a:W.heap[w.heap.size+2]? =some (zg #[za none 0 0,za none 0 0] 33 (0,0))
 o:W.heap[w.heap.size+3]? =some (zg #[o0,o1] 33 (0,0))
theorem OQ.below{w W W':zi}{cs ps:Array Value}{o0 o1:Value}(h:OQ w W cs ps o0 o1)(hb:Za W.heap.size W W'):OQ w W' cs ps o0 o1:=
 ⟨h.b.trans (hb.mono h.b.size),za0 hb (za2 h.c) h.c,za0 hb (za2 h.p) h.p,za0 hb (za2 h.a) h.a,za0 hb (za2 h.o) h.o⟩
theorem OQ.size{w W:zi}{cs ps:Array Value}{o0 o1:Value}(h:OQ w W cs ps o0 o1):w.heap.size+4<=W.heap.size:=za2 h.o
def OU(w W:zi)(ps:Array Value)(R:List RT)(L:List Int)(s:QS)(o0 o1:Value):Prop:=(s.f=false/\ #[o0,o1]=ps)∨(s.f=true/\∃S,PO W (w.heap.size+4) o0 S o1 (zm1 L s.s.1)/\S.map RT.key=(setL R (oneT R s.s)).map RT.key/\∃g c,o1=za (some ⟨g,0,none⟩) (zm1 L s.s.1).length c)
theorem OU.below{w W W':zi}{ps:Array Value}{R:List RT}{L:List Int}{s:QS}{o0 o1:Value}(h:OU w W ps R L s o0 o1)(hb:Za W.heap.size W W'):OU w W' ps R L s o0 o1:=by
 rcases h with h|⟨h1,S,h2,h3⟩
 ·exact .inl h
 ·exact .inr ⟨h1,S,h2.below hb,h3⟩
theorem yw5{ok:zg2->Bool}{dl:zg2->Int}(l:List zg2):(qst ok dl l).f=false->(qst ok dl l).v=0:=by
 suffices h:∀(m:List zg2) (s:QS),(s.f=false->s.v=0)->(m.foldl (zl6 ok dl) s).f=false->(m.foldl (zl6 ok dl) s).v=0 from h l qs0 (fun _=>rfl)
 intro m
 induction m with
 |nil=>intro s hs hf;exact hs hf
 |cons p m ih=>
  intro s hs hf;rw[yM]at hf⊢;refine ih _ (fun h9=> ?_) hf;unfold zl6 at h9⊢;split
  ·rename_i hc
   rw[z7 hc]at h9;cases h9
  ·rename_i hc
   rw[ye hc]at h9;exact hs h9
theorem ye9(n fine ab:Int)(a ao av bi:Option Zd)(ac ko co kv cv c2:Nat)(zs os vs ids:List Int)(w:zi)(hA:za3 w a zs)(hO:za3 w ao os)(hV:za3 w av vs)(hI:za3 w bi ids)(an:os.length=ko*6)(au:vs.length=kv*5)(aA:ko<=9223372036854775807)(aB:kv<=9223372036854775807)(fe:ids.length<=9223372036854775807)(cw:ids.length<=c2)(mO:(bi=none/\ids=[]/\c2=0)∨∃g,bi=some ⟨g,0,none⟩)(id:Int)(k:Nat)(ch:Bool)(f':chB (zd0 n zs os vs ko kv fine) n zs os vs ko kv ab ids (inB (k:Int) 0 (ids.length:Int)) (insL ids k id)=ch)(D:Int)(hD:chD ch n zs os vs ko kv ab ids (insL ids k id)=D)(xs:List Int)(jy:chL ch (insL ids k id)=xs):
 Zc zh 71 #[.agg #[ze zd n,za a zs.length ac,za ao ko co,za av kv cv,ze zd fine],.agg #[ze zd ab,za bi ids.length c2],ze zd id,ze zd (k:Int)] w (yh1 w ch ab D xs):=by
 rcases mO with⟨rfl,rfl,rfl⟩|⟨g,rfl⟩
 ·exact zo8 n fine ab a ao av ac ko co kv cv zs os vs w hA hO hV an au aA aB id (k:Int) ch (by simpa using f') D (by simpa using hD) xs (by simpa using jy)
 ·exact zo9 n fine ab a ao av g 0 ac ko co kv cv c2 zs os vs ids w hA hO hV hI an au aA aB fe cw id (k:Int) ch (by simpa using f') D (by simpa using hD) xs (by simpa using jy)
theorem yj1{R:List RT}{r s:RT}(hS:zf7 R)(hr:r.ids≠[])(h:r.key=s.key):(setL R r).map RT.key=(setL R s).map RT.key:=by
 have hi:r.ids=s.ids:=congrArg Prod.snd h;rw[z50 hS hr,z50 hS (by rw[<-hi];exact hr)];exact z81 rfl h
def yD8(w:zi)(f:Bool)(T:List RT)(L:List Int)(e:Ending)(w':zi):Prop:=∃ra rn rc gl ln lc S,e=.returned (.tuple #[.agg #[za ra rn rc,za (some ⟨gl,0,none⟩) ln lc],.bool f])/\Za w.heap.size w w'/\S.length=rn/\L.length=ln/\S.map RT.key=T.map RT.key/\PO w' w.heap.size (za ra rn rc) S (za (some ⟨gl,0,none⟩) ln lc) L
theorem yn8{R S:List RT}{r:RT}(hi:zw3 R)(hr:r.ids≠[]/\r.ids.length<=13)(h:S.map RT.key=(setL R r).map RT.key):∀x∈S,x.ids≠[]/\x.ids.length<=500:=fun x hx=>by
 have h1:x.key∈(setL R r).map RT.key:=by rw[<-h];exact List.mem_map_of_mem hx
 obtain⟨y,hy,e⟩:=yF.1 h1;have e2:y.ids=x.ids:=congrArg Prod.snd e;rw[<-e2];rcases(zz9 R r).1 y hy with h2|h2
 ·have:=hi y h2
  exact⟨this.1,by omega⟩
 ·rw[h2];exact⟨hr.1,by omega⟩
theorem yz4(n fine:Int)(a ao ra:Option Zd)(zl ac ko co bv ov kv cv nr rc bl ol ln lc:Nat)(zs os vs L:List Int)(R:List RT)(w:zi)(hA:za3 w a zs)(hO:za3 w ao os)(hV:za3 w (some ⟨bv,ov,none⟩) vs)(aN:zs.length=zl)(an:os.length=ko*6)(au:vs.length=kv*5)(aA:ko<=12)(aB:kv<=5)(bT:zd0 n zs os vs ko kv fine=true)(hR:za9 w ra R)(nk:R.length=nr)(hn:nr<=100)(hL:za3 w (some ⟨bl,ol,none⟩) L)(Jv:L.length=ln)(gd:ln<=12)(hS:zf7 R)(hi:zw3 R)(me:∀r∈R,∃g,r.a=some ⟨g,0,none⟩):
 Zc zh 95 #[.agg #[ze zd n,za a zl ac,za ao ko co,za (some ⟨bv,ov,none⟩) kv cv,ze zd fine],.agg #[za ra nr rc,za (some ⟨bl,ol,none⟩) ln lc]] w (yD8 w (zw6 n fine zs os vs ko kv R L).f (zB6 n fine zs os vs ko kv R L) (zD8 n fine zs os vs ko kv R L)):=by
 have HA:=za4 hA;have HO:=za4 hO;have HV:=za4 hV;have ck:=za4 aN;have aF:=za4 an;have aE:=za4 au;have cW:=za4 bT;have HR:=za4 hR;have HN:=za4 nk;have HL:=za4 hL;have HM:=za4 Jv;have HS:=za4 hS;have HI:=za4 hi;have Dy:=za4 me;clear hA hO hV aN an au bT hR nk hL Jv hS hi me;obtain⟨fn,oC⟩:=nmd (qst (gOk n fine zs os vs ko kv R) (gD n zs os vs ko kv R));have ws:Zb (zw6 n fine zs os vs ko kv R L=fn (sp3 R vs kv L ln)):=by show _=_;rw[<-oC.X,<-HM.X];rfl
 obtain⟨s9,sA⟩:=nmd (zw6 n fine zs os vs ko kv R L);obtain⟨RX,gC⟩:=nmd (zB6 n fine zs os vs ko kv R L);obtain⟨LX,gI⟩:=nmd (zD8 n fine zs os vs ko kv R L);have jw:Zb (RX=if s9.f then wrL R (oneT R s9.s)else R):=by show _=_;rw[<-gC.X];unfold zB6;rw[sA.X]
 have ee:Zb (LX=if s9.f then zm1 L s9.s.1 else L):=by show _=_;rw[<-gI.X];unfold zD8;rw[sA.X]
 rw[sA.X,gC.X,gI.X];rw[sA.X]at ws;clear sA gC gI;have EB:Zb (∀l id ab,fn (l++sp1 id ab ((zc7 R ab).ids.length+1))=grp fine id ab (fn l) (bpV true n zs os vs ko kv ab (zc7 R ab).ids id)):=fun l id ab=>by rw[<-oC.X];exact yB8 n fine zs os vs ko kv R l id ab
 have Et:Zb (fn []=qs0):=by show _=_;rw[<-oC.X];rfl
 have Q0:Zb (OQ w ((((w.alloc (zg #[ze zd n,za a zl ac,za ao ko co,za (some ⟨bv,ov,none⟩) kv cv,ze zd fine] 30)).alloc (zg #[za ra nr rc,za (some ⟨bl,ol,none⟩) ln lc] 33)).alloc (zg #[za none 0 0,za none 0 0] 33)).alloc (zg #[za ra nr rc,za (some ⟨bl,ol,none⟩) ln lc] 33)) #[ze zd n,za a zl ac,za ao ko co,za (some ⟨bv,ov,none⟩) kv cv,ze zd fine] #[za ra nr rc,za (some ⟨bl,ol,none⟩) ln lc] (za ra nr rc) (za (some ⟨bl,ol,none⟩) ln lc)):=by
  refine⟨(((zP _).alloc (by simp) _).alloc (by simp;omega) _).alloc (by simp;omega) _,?_,?_,?_,?_⟩
  ·exact(xg _ _ (by simp;omega)).trans ((xg _ _ (by simp;omega)).trans (xm _ _ _))
  ·exact(xg _ _ (by simp<;>omega)).trans ((xg _ _ (by simp)).trans (xh _ _ _))
  ·have:=xm ((w.alloc (zg #[ze zd n,za a zl ac,za ao ko co,za (some ⟨bv,ov,none⟩) kv cv,ze zd fine] 30)).alloc (zg #[za ra nr rc,za (some ⟨bl,ol,none⟩) ln lc] 33)) (zg #[za none 0 0,za none 0 0] 33) (zg #[za ra nr rc,za (some ⟨bl,ol,none⟩) ln lc] 33)
   simpa using this
  ·have:=xh ((w.alloc (zg #[ze zd n,za a zl ac,za ao ko co,za (some ⟨bv,ov,none⟩) kv cv,ze zd fine] 30)).alloc (zg #[za ra nr rc,za (some ⟨bl,ol,none⟩) ln lc] 33)) (zg #[za none 0 0,za none 0 0] 33) (zg #[za ra nr rc,za (some ⟨bl,ol,none⟩) ln lc] 33)
   simpa using this
 have Jf:Zb ((((w.alloc (zg #[ze zd n,za a zl ac,za ao ko co,za (some ⟨bv,ov,none⟩) kv cv,ze zd fine] 30)).alloc (zg #[za ra nr rc,za (some ⟨bl,ol,none⟩) ln lc] 33)).alloc (zg #[za none 0 0,za none 0 0] 33)).heap[w.heap.size+1]? =some (zg #[za ra nr rc,za (some ⟨bl,ol,none⟩) ln lc] 33 (0,0))):=(xg _ _ (by simp)).trans (xh _ _ _);obtain⟨e0,e1⟩:=za1 Jf.X;go_enter Tryz.func95,Tryz.ntmps95
 go_wp2_with fail
 clear e0 e1 Jf;generalize(((w.alloc _).alloc _).alloc _).alloc _=W0 at*;go_loopw[6,7,9] (fun tb tf t wr=>∃(i:Nat) (o0 o1:Value),i<=ln/\t=ze zd i/\tb=ze zd (fn (sp3 R vs kv L i)).v/\tf=.bool (fn (sp3 R vs kv L i)).f/\OQ w wr #[ze zd n,za a zl ac,za ao ko co,za (some ⟨bv,ov,none⟩) kv cv,ze zd fine] #[za ra nr rc,za (some ⟨bl,ol,none⟩) ln lc] o0 o1/\OU w wr #[za ra nr rc,za (some ⟨bl,ol,none⟩) ln lc] R L (fn (sp3 R vs kv L i)) o0 o1) (fun _ _ t _=>ln - (intOf t).toNat)
 case atStart=>exact⟨0,_,_,xi _,rfl,by show _=ze zd (fn []).v;rw[Et.X];first|done|rfl,by show _=Value.bool (fn []).f;rw[Et.X];first|done|rfl,Q0.X,.inl ⟨by show(fn []).f=false;rw[Et.X];rfl,rfl⟩⟩
 case round=>
  clear Q0;obtain⟨i,o0,o1,hi,rfl,rfl,rfl,hq,hu⟩:=hrel;have Q1:=za4 hq;have U1:=za4 hu;clear hq hu;obtain⟨p0,p1⟩:=za1 Q1.X.p;by_cases ah:i<ln
  ·have oA:(i:Int)<(ln:Int):=by omega
   have aZ:Zb (sp3 R vs kv L (i+1)=sp3 R vs kv L i++sp2 R vs (L.getD i 0) kv):=rfl;have Bn:Zb (∀W,Za w.heap.size w W->W.cell? ⟨bl,ol+i,none⟩=some (ze zd (L.getD i 0))):=fun W hW=>by
    obtain⟨b1,o1,e,c1⟩:=(HL.X.below hW) i (by rw[HM.X];exact ah);simp only[x7,qg,qt]at e;obtain⟨rfl,rfl⟩:=e;exact c1
   generalize L.getD i 0=id at*;generalize sp3 R vs kv L i=l1 at*
   go_wp2_with fail
   clear p0 p1;go_loopw[6,7,10] (fun tb tf t wr=>∃(k:Nat) (o0 o1:Value),k<=kv/\t=ze zd k/\tb=ze zd (fn (l1++sp2 R vs id k)).v/\tf=.bool (fn (l1++sp2 R vs id k)).f/\OQ w wr #[ze zd n,za a zl ac,za ao ko co,za (some ⟨bv,ov,none⟩) kv cv,ze zd fine] #[za ra nr rc,za (some ⟨bl,ol,none⟩) ln lc] o0 o1/\OU w wr #[za ra nr rc,za (some ⟨bl,ol,none⟩) ln lc] R L (fn (l1++sp2 R vs id k)) o0 o1) (fun _ _ t _=>kv - (intOf t).toNat)
   case atStart=>exact⟨0,o0,o1,xi _,rfl,by show _=ze zd (fn (l1++[])).v;rw[qe],by show _=Value.bool (fn (l1++[])).f;rw[qe],Q1.X,by show OU _ _ _ _ _ (fn (l1++[])) _ _;rw[qe];exact U1.X⟩
   case round=>
    clear Q1 U1;obtain⟨k,o0,o1,hk,rfl,rfl,rfl,hq,hu⟩:=hrel;have Q3:=za4 hq;have GC:=za4 hu;clear hq hu;obtain⟨d0,d1,d2,d3,d4⟩:=za7 Q3.X.c;by_cases hlk:k<kv
    ·have gY:(k:Int)<(kv:Int):=by omega
     have fE:Zb (fn (l1++sp2 R vs id (k+1))=grp fine id (vs.getD (k*5) 0) (fn (l1++sp2 R vs id k)) (bpV true n zs os vs ko kv (vs.getD (k*5) 0) (zc7 R (vs.getD (k*5) 0)).ids id)):=by
      show _=_;rw[<-EB.X,yi];rfl
     have vJ:Zb (∀W,Za w.heap.size w W->W.cell? ⟨bv,ov+k*5,none⟩=some (ze zd (vs.getD (k*5) 0))):=fun W hW=>by
      obtain⟨b1,o1,e,c1⟩:=(HV.X.below hW) (k*5) (by rw[aE.X];omega);simp only[x7,qg,qt]at e;obtain⟨rfl,rfl⟩:=e;exact c1
     have mb:=yw5 (ok:=gOk n fine zs os vs ko kv R) (dl:=gD n zs os vs ko kv R) (l1++sp2 R vs id k);rw[oC.X]at mb;generalize vs.getD (k*5) 0=ab at*;generalize fn (l1++sp2 R vs id k)=s at*;have U3:Zb (OU w wr #[za ra nr rc,za (some ⟨bl,ol,none⟩) ln lc] R L s o0 o1):=GC.X;have NJ:=za4 mb;clear GC mb;obtain⟨oL,lY,eg,-⟩:=z98 HR.X HI.X ab;have de:=za4 oL;have oX:Zb (((zc7 R ab).a=none/\(zc7 R ab).ids=[]/\(zc7 R ab).c=0)∨∃g,(zc7 R ab).a=some ⟨g,0,none⟩):=by
      rcases zu3 R ab with h|h
      ·exact .inr (Dy.X _ h)
      ·rw[h];exact .inl ⟨rfl,rfl,rfl⟩
     have eN:Zb (oneT R (id,ab,0)=oneT R (id,ab,0)):=rfl;have vt:∀W,Za wr.heap.size wr W->_:=fun W hW=>z27 ra (some ⟨bl,ol,none⟩) rc ln lc R ab W (HR.X.below (Q3.X.below hW).b) (by rw[HN.X];omega)
     rw[HN.X]at vt;obtain⟨b9,wB⟩:=nmd (bpV true n zs os vs ko kv ab (zc7 R ab).ids id);rw[wB.X]at fE;obtain⟨rt,tR⟩:=nmd (zc7 R ab);rw[tR.X]at lY eg de oX vt wB;obtain⟨QF,aO,ay,bg⟩:=rt;simp only at lY eg de oX vt wB;obtain⟨rl,cu⟩:=nmd ay.length;rw[cu.X]at lY eg vt;have LR:Zb _:=vt;have iV:Zb (∀W,Za wr.heap.size wr W->(fun W=>W.cell? ⟨w.heap.size+1,0,none⟩=some (za ra nr rc)/\W.cell? ⟨w.heap.size+1,1,none⟩=some (za (some ⟨bl,ol,none⟩) ln lc)/\W.cell? ⟨w.heap.size,3,none⟩=some (za (some ⟨bv,ov,none⟩) kv cv)/\W.cell? ⟨bv,ov+k*5,none⟩=some (ze zd ab)) W):=fun W hW=>by
      have q:=Q3.X.below hW;obtain⟨x0,x1⟩:=za1 q.p;obtain⟨y0,y1,y2,y3,y4⟩:=za7 q.c;exact⟨x0,x1,y3,vJ.X W q.b⟩
     clear vt oL eN;go_upto_region 10 with fail;clear d0 d1 d2 d3 d4;go_cut [11]from 33 to 40 (fun wM wx=>∃rb:Nat,wM=.pointer (some ⟨rb,0,none⟩)/\Za wr.heap.size wr wx/\wx.heap[rb]? =some (zg #[ze zd ab,za aO rl bg] 80 (0,0))/\wr.heap.size<=rb)
     case first=>
      go_wp2_with fail
      refine qG (S:=(fun W=>W.cell? ⟨w.heap.size+1,0,none⟩=some (za ra nr rc)/\W.cell? ⟨w.heap.size+1,1,none⟩=some (za (some ⟨bl,ol,none⟩) ln lc)/\W.cell? ⟨w.heap.size,3,none⟩=some (za (some ⟨bv,ov,none⟩) kv cv)/\W.cell? ⟨bv,ov+k*5,none⟩=some (ze zd ab))) (by kernel_rfl) ?_ fun aa=> ?_
      ·exact iV.X _ (y5 _ _).drew
      have BD:Zb (Za wr.heap.size wr wr.drew):=(y5 _ _).drew;generalize wr.drew=wd at*;refine tkH 0 aa ?_;refine tkH 1 aa ?_;refine tkH 2 aa ?_;refine tkH 3 aa ?_;refine tkH 4 aa ?_;refine tkH 5 aa ?_;refine tkH 6 aa ?_;refine xQ (rs:=[7,8]) (by kernel_rfl) (by simp) ?_;refine xL rfl (fun K hK=> ?_) ?_
      ·skip
       go_simp;refine(LR.X wd BD.X).mono ?_;rintro e w1 ⟨rfl,hb⟩;have B1:=za4 (BD.X.trans (hb.mono BD.X.size));clear hb
       (try go_wp2_with fail)
       refine hoW hK (iV.X _ B1.X) fun aa=> ?_;clear hK K;refine rdH 8 fun K hK=> ?_;have BZ:Zb (Za wr.heap.size wr (w1.alloc (zg #[ze zd 0,za none 0 0] 80))):=B1.X.alloc B1.X.size _;have aw:=za4 (zS w1 (zg #[ze zd 0,za none 0 0] 80));have aH:Zb (wr.heap.size<=w1.heap.size):=B1.X.size;go_simp;refine hoW hK (iV.X _ BZ.X) fun aa=> ?_;clear hK K;obtain⟨rb,cz⟩:=nmd w1.heap.size;rw[cz.X]at aw aH⊢;generalize(w1.alloc _)=wz at*;obtain⟨z0,z1⟩:=za1 aw.X;have zf:=fun i=>yZ _ _ i _ _ aw.X;refine rdH 9 fun K hK=> ?_;have B5:Zb (Za wr.heap.size wr ((wz.setCell ⟨rb,0,none⟩ (ze zd ab)).setCell ⟨rb,1,none⟩ (za aO rl bg))):=(BZ.X.setCell aH.X _).setCell aH.X _;have s1:=xb wz rb 0 _ _ (ze zd ab) aw.X;have V5:Zb (((wz.setCell ⟨rb,0,none⟩ (ze zd ab)).setCell ⟨rb,1,none⟩ (za aO rl bg)).heap[rb]? =some (zg #[ze zd ab,za aO rl bg] 80 (0,0))):=by
        have s2:=xb _ rb 1 _ _ (za aO rl bg) s1;simp at s2;exact s2
       have ou:Zb (wr.heap.size<=rb):=aH.X;clear s1;go_simp;refine hoW hK (iV.X _ B5.X) fun aa=> ?_;clear hK K;generalize((wz.setCell ⟨rb,0,none⟩ _).setCell ⟨rb,1,none⟩ _)=w5 at*;refine qF (by kernel_rfl) ?_ _;clear aa
       (try go_wp2_with fail)
       go_meet;exact⟨rb,rfl,B5.X,V5.X,ou.X⟩
      refine xL rfl (fun K hK=> ?_) xP;have BZ:Zb (Za wr.heap.size wr (wd.alloc (zg #[ze zd 0,za none 0 0] 80))):=BD.X.alloc BD.X.size _;have aw:=za4 (zS wd (zg #[ze zd 0,za none 0 0] 80));have aH:Zb (wr.heap.size<=wd.heap.size):=BD.X.size;go_simp;refine hoW hK (iV.X _ BZ.X) fun aa=> ?_;clear hK K;obtain⟨rb,cz⟩:=nmd wd.heap.size;rw[cz.X]at aw aH⊢;generalize(wd.alloc _)=wz at*;obtain⟨z0,z1⟩:=za1 aw.X;have zf:=fun i=>yZ _ _ i _ _ aw.X;refine rdH 7 fun K hK=> ?_;go_simp;refine(LR.X wz BZ.X).mono ?_;rintro e w1 ⟨rfl,hb⟩;have B1:=za4 (BZ.X.trans (hb.mono BZ.X.size));have fY:=za4 (za0 hb (za2 aw.X) aw.X);obtain⟨z0,z1⟩:=za1 fY.X;have zf:=fun i=>yZ _ _ i _ _ fY.X;clear hb
      (try go_wp2_with fail)
      refine hoW hK (iV.X _ B1.X) fun aa=> ?_;clear hK K;refine rdH 9 fun K hK=> ?_;have B5:Zb (Za wr.heap.size wr ((w1.setCell ⟨rb,0,none⟩ (ze zd ab)).setCell ⟨rb,1,none⟩ (za aO rl bg))):=(B1.X.setCell aH.X _).setCell aH.X _;have s1:=xb w1 rb 0 _ _ (ze zd ab) fY.X;have V5:Zb (((w1.setCell ⟨rb,0,none⟩ (ze zd ab)).setCell ⟨rb,1,none⟩ (za aO rl bg)).heap[rb]? =some (zg #[ze zd ab,za aO rl bg] 80 (0,0))):=by
       have s2:=xb _ rb 1 _ _ (za aO rl bg) s1;simp at s2;exact s2
      have ou:Zb (wr.heap.size<=rb):=aH.X;clear s1;go_simp;refine hoW hK (iV.X _ B5.X) fun aa=> ?_;clear hK K;generalize((w1.setCell ⟨rb,0,none⟩ _).setCell ⟨rb,1,none⟩ _)=w5 at*;refine qF (by kernel_rfl) ?_ _;clear aa
      (try go_wp2_with fail)
      go_meet;exact⟨rb,rfl,B5.X,V5.X,ou.X⟩
     case rest=>
      obtain⟨rb,rfl,rX,mL,Jj⟩:=hcut;obtain⟨w5,pF⟩:∃v,v=wc:=⟨_,rfl⟩;subst pF;have B5:=za4 rX;have V5:=za4 mL;have ou:=za4 Jj;clear rX mL Jj;clear LR iV;have Q5:=za4 (Q3.X.below B5.X);have U5:=za4 (U3.X.below B5.X);have QX:Zb (w.heap.size+4<=rb):=xj Q3.X.size ou.X;have GJ:=fun(W:zi) (hW:Za w5.heap.size w5 W)=>z68 n fine ab a ao (some ⟨bv,ov,none⟩) aO ac ko co kv cv bg zs os vs ay W (HA.X.below (Q5.X.below hW).b) (HO.X.below (Q5.X.below hW).b) (HV.X.below (Q5.X.below hW).b) (de.X.below (Q5.X.below hW).b) aF.X aE.X (by omega) (by omega) (by rw[cu.X];omega) (by rw[cu.X];exact eg) oX.X id b9 (by rw[cW.X];exact wB.X)
      rw[ck.X,cu.X]at GJ;have BP:Zb _:=GJ;have pe:Zb (∀W,Za w5.heap.size w5 W->(fun W=>W.cell? ⟨w.heap.size,0,none⟩=some (ze zd n)/\W.cell? ⟨w.heap.size,1,none⟩=some (za a zl ac)/\W.cell? ⟨w.heap.size,2,none⟩=some (za ao ko co)/\W.cell? ⟨w.heap.size,3,none⟩=some (za (some ⟨bv,ov,none⟩) kv cv)/\W.cell? ⟨w.heap.size,4,none⟩=some (ze zd fine)/\W.cell? ⟨rb,0,none⟩=some (ze zd ab)/\W.cell? ⟨rb,1,none⟩=some (za aO rl bg)/\W.cell? ⟨w.heap.size+1,1,none⟩=some (za (some ⟨bl,ol,none⟩) ln lc)/\W.cell? ⟨bl,ol+i,none⟩=some (ze zd id)) W):=fun W hW=>by
       have q:=Q5.X.below hW;obtain⟨x0,x1⟩:=za1 q.p;obtain⟨y0,y1,y2,y3,y4⟩:=za7 q.c;obtain⟨v0,v1⟩:=za1 (za0 hW (za2 V5.X) V5.X);exact⟨y0,y1,y2,y3,y4,v0,v1,x1,Bn.X W q.b⟩
      clear GJ B5 Q3 U3 ou;have kS:=pe.X _ (y5 _ _).drew
      go_wp2_with fail
      go_region_held3 (fun W=>W.cell? ⟨w.heap.size,0,none⟩=some (ze zd n)/\W.cell? ⟨w.heap.size,1,none⟩=some (za a zl ac)/\W.cell? ⟨w.heap.size,2,none⟩=some (za ao ko co)/\W.cell? ⟨w.heap.size,3,none⟩=some (za (some ⟨bv,ov,none⟩) kv cv)/\W.cell? ⟨w.heap.size,4,none⟩=some (ze zd fine)/\W.cell? ⟨rb,0,none⟩=some (ze zd ab)/\W.cell? ⟨rb,1,none⟩=some (za aO rl bg)/\W.cell? ⟨w.heap.size+1,1,none⟩=some (za (some ⟨bl,ol,none⟩) ln lc)/\W.cell? ⟨bl,ol+i,none⟩=some (ze zd id)) (first|with_reducible exact kS|go_keep) ((first
       |(go_at_call 132
         with_reducible refine(BP.X w5.drew (y5 _ _).drew).mono ?_
         rintro e w6 ⟨rfl,hb⟩;have B6:Zb (Za w5.heap.size w5 w6):=(y5 _ _).drew.trans hb;have kS:=pe.X _ B6.X;clear hb)))
      clear kS BP;have Q6:=za4 (Q5.X.below B6.X);have U6:=za4 (U5.X.below B6.X);have V6:=za4 (za0 B6.X (za2 V5.X) V5.X);have dr:Zb (∀W,Za w6.heap.size w6 W->(fun W=>W.cell? ⟨w.heap.size,0,none⟩=some (ze zd n)/\W.cell? ⟨w.heap.size,1,none⟩=some (za a zl ac)/\W.cell? ⟨w.heap.size,2,none⟩=some (za ao ko co)/\W.cell? ⟨w.heap.size,3,none⟩=some (za (some ⟨bv,ov,none⟩) kv cv)/\W.cell? ⟨w.heap.size,4,none⟩=some (ze zd fine)/\W.cell? ⟨rb,0,none⟩=some (ze zd ab)/\W.cell? ⟨rb,1,none⟩=some (za aO rl bg)/\W.cell? ⟨w.heap.size+1,1,none⟩=some (za (some ⟨bl,ol,none⟩) ln lc)/\W.cell? ⟨bl,ol+i,none⟩=some (ze zd id)) W):=fun W hW=>pe.X W (B6.X.trans (hW.mono B6.X.size));clear Q5 U5 V5 B6 pe;obtain⟨sf,ss,sv⟩:=s;obtain⟨bf,bi,kW⟩:=b9;simp only at NJ⊢;cases bf
      ·have bC:Zb (fn (l1++sp2 R vs id (k+1))=⟨sf,ss,sv⟩):=by show _=_;rw[fE.X];exact ye (fun h=>by cases h.1)
       clear fE dr;obtain⟨d0,d1,d2,d3,d4⟩:=za7 Q6.X.c;go_wp2;go_roundw
       case rel=>exact⟨k+1,o0,o1,by omega,by first|rfl|go_num,by rw[bC.X],by rw[bC.X],Q6.X,by rw[bC.X];exact U6.X⟩
       case measure=>simp[intOf];omega
      ·by_cases hfi:kW<=fine
       ·have Ch:¬fine<kW:=by omega
        by_cases jx:sf=false∨kW<sv
        ·have bC:Zb (fn (l1++sp2 R vs id (k+1))=⟨true,(id,ab,bi),kW⟩):=by show _=_;rw[fE.X];exact z7 ⟨rfl,hfi,jx⟩
         clear fE;have lK:sf=false∨(sf=true/\¬sv<=kW):=by cases sf;exact .inl rfl;exact .inr ⟨rfl,by rcases jx with h|h;cases h;omega⟩
         have ki:=yi2 (ok:=plB true n zs os vs ko kv ab ay id) (dl:=plD true n zs os vs ko kv ab ay id) (ay.length+1);have Kq:pst (plB true n zs os vs ko kv ab ay id) (plD true n zs os vs ko kv ab ay id) (ay.length+1)=⟨true,bi,kW⟩:=wB.X;rw[Kq]at ki;obtain⟨lH,dW,-⟩:=ki rfl;simp only at lH dW;obtain⟨xs,oT⟩:=nmd (insL ay bi id);obtain⟨xl,aX⟩:=nmd xs.length;obtain⟨vv,ez⟩:=nmd (chI true ab);have BV:Zb (vv=ab):=by show _=_;rw[<-ez.X];rfl
         have eO:Zb (xs≠[]/\xs.length<=13):=by
          rw[<-oT.X];refine⟨by unfold insL;simp,?_⟩;unfold insL;rw[xY,yo,yh,qj,cu.X];omega
         have FS:=fun(W:zi) (hW:Za w6.heap.size w6 W)=>ye9 n fine ab a ao (some ⟨bv,ov,none⟩) aO ac ko co kv cv bg zs os vs ay W (HA.X.below (Q6.X.below hW).b) (HO.X.below (Q6.X.below hW).b) (HV.X.below (Q6.X.below hW).b) (de.X.below (Q6.X.below hW).b) aF.X aE.X (by omega) (by omega) (by rw[cu.X];omega) (by rw[cu.X];exact eg) oX.X id bi true (by rw[cW.X];exact lH) kW (by have h:=dW;unfold plD at h;rw[lH]at h;exact h) xs oT.X
         rw[ck.X,cu.X]at FS;have CI:Zb _:=FS;have Cg:Zb (w.heap.size+4<=w6.heap.size):=Q6.X.size;clear FS ki Kq lH dW U6;rcases lK with h9|⟨h9,dF⟩
         ·subst h9
          obtain⟨d0,d1,d2,d3,d4⟩:=za7 Q6.X.c;go_upto_region 13 with fail;clear d0 d1 d2 d3 d4;go_cut [15,16,17]from 69 to 81 (fun p8 ua pS wx=>∃(kr:Nat) (ad:Option Zd) (cg:Nat),p8=.pointer (some ⟨kr,0,none⟩)/\ua=ze zd kW/\pS=.bool true/\Za w6.heap.size w6 wx/\wx.heap[kr]? =some (zg #[ze zd vv,za ad xl cg] 80 (0,0))/\wx.ownsRow (w.heap.size+4) 2 1 (za ad xl cg) xl (xs.map (ze zd)))
          case first=>
           go_wp2_with fail
           refine qG (S:=(fun W=>W.cell? ⟨w.heap.size,0,none⟩=some (ze zd n)/\W.cell? ⟨w.heap.size,1,none⟩=some (za a zl ac)/\W.cell? ⟨w.heap.size,2,none⟩=some (za ao ko co)/\W.cell? ⟨w.heap.size,3,none⟩=some (za (some ⟨bv,ov,none⟩) kv cv)/\W.cell? ⟨w.heap.size,4,none⟩=some (ze zd fine)/\W.cell? ⟨rb,0,none⟩=some (ze zd ab)/\W.cell? ⟨rb,1,none⟩=some (za aO rl bg)/\W.cell? ⟨w.heap.size+1,1,none⟩=some (za (some ⟨bl,ol,none⟩) ln lc)/\W.cell? ⟨bl,ol+i,none⟩=some (ze zd id))) (by kernel_rfl) ?_ fun aa=> ?_
           ·exact dr.X _ (y5 _ _).drew
           have BD:Zb (Za w6.heap.size w6 w6.drew):=(y5 _ _).drew;generalize w6.drew=wd at*;refine tkH 0 aa ?_;refine tkH 1 aa ?_;refine tkH 2 aa ?_;refine tkH 3 aa ?_;refine tkH 4 aa ?_;refine tkH 5 aa ?_;refine tkH 6 aa ?_;refine tkH 7 aa ?_;refine xQ (rs:=[8,13]) (by kernel_rfl) (by simp) ?_;refine xL rfl (fun K hK=> ?_) ?_
           ·skip
            go_simp;refine(CI.X wd BD.X).mono ?_;rintro e w1 ⟨hb,ad,cg,rfl,ho⟩;have B1:=za4 (BD.X.trans (hb.mono BD.X.size));rw[ez.X,aX.X];have O1:Zb (w1.ownsRow (w.heap.size+4) 2 1 (za ad xl cg) xl (xs.map (ze zd))):=by
             rw[aX.X]at ho;exact zb5 ho (by have:=Cg.X;have:=BD.X.size;omega)
            clear ho;clear hb
            (try go_wp2_with fail)
            refine hoW hK (dr.X _ B1.X) fun aa=> ?_;clear hK K;refine tkH 9 aa ?_;refine tkH 10 aa ?_;refine tkH 11 aa ?_;refine tkH 12 aa ?_;refine rdH 13 fun K hK=> ?_;have BZ:Zb (Za w6.heap.size w6 (w1.alloc (zg #[ze zd 0,za none 0 0] 80))):=B1.X.alloc B1.X.size _;have aw:=za4 (zS w1 (zg #[ze zd 0,za none 0 0] 80));have aH:Zb (w6.heap.size<=w1.heap.size):=B1.X.size;have OZ:Zb (zk (w1.alloc (zg #[ze zd 0,za none 0 0] 80)) (w.heap.size+4) 2 1 (za ad xl cg) xl (xs.map (ze zd))):=O1.X.alloc _;go_simp;refine hoW hK (dr.X _ BZ.X) fun aa=> ?_;clear hK K;obtain⟨kr,cz⟩:=nmd w1.heap.size;rw[cz.X]at aw aH⊢;generalize(w1.alloc _)=wz at*;obtain⟨z0,z1⟩:=za1 aw.X;have zf:=fun i=>yZ _ _ i _ _ aw.X;refine rdH 14 fun K hK=> ?_;have B5:Zb (Za w6.heap.size w6 ((wz.setCell ⟨kr,0,none⟩ (ze zd vv)).setCell ⟨kr,1,none⟩ (za ad xl cg))):=(BZ.X.setCell aH.X _).setCell aH.X _;have s1:=xb wz kr 0 _ _ (ze zd vv) aw.X;have V5:Zb (((wz.setCell ⟨kr,0,none⟩ (ze zd vv)).setCell ⟨kr,1,none⟩ (za ad xl cg)).heap[kr]? =some (zg #[ze zd vv,za ad xl cg] 80 (0,0))):=by
             have s2:=xb _ kr 1 _ _ (za ad xl cg) s1;simp at s2;exact s2
            have O5:Zb (zk ((wz.setCell ⟨kr,0,none⟩ (ze zd vv)).setCell ⟨kr,1,none⟩ (za ad xl cg)) (w.heap.size+4) 2 1 (za ad xl cg) xl (xs.map (ze zd))):=zd9 (zd9 OZ.X aw.X) (xb _ kr 0 _ _ _ aw.X);have ou:Zb (w6.heap.size<=kr):=aH.X;clear s1;go_simp;refine hoW hK (dr.X _ B5.X) fun aa=> ?_;clear hK K;generalize((wz.setCell ⟨kr,0,none⟩ _).setCell ⟨kr,1,none⟩ _)=w5 at*;refine tkH 15 aa ?_;refine tkH 16 aa ?_;refine qF (by kernel_rfl) ?_ _;clear aa
            (try go_wp2_with fail)
            go_meet;exact⟨kr,ad,cg,rfl,rfl,rfl,B5.X,V5.X,O5.X⟩
           refine xL rfl (fun K hK=> ?_) xP;have BZ:Zb (Za w6.heap.size w6 (wd.alloc (zg #[ze zd 0,za none 0 0] 80))):=BD.X.alloc BD.X.size _;have aw:=za4 (zS wd (zg #[ze zd 0,za none 0 0] 80));have aH:Zb (w6.heap.size<=wd.heap.size):=BD.X.size;go_simp;refine hoW hK (dr.X _ BZ.X) fun aa=> ?_;clear hK K;obtain⟨kr,cz⟩:=nmd wd.heap.size;rw[cz.X]at aw aH⊢;generalize(wd.alloc _)=wz at*;obtain⟨z0,z1⟩:=za1 aw.X;have zf:=fun i=>yZ _ _ i _ _ aw.X;refine rdH 8 fun K hK=> ?_;go_simp;refine(CI.X wz BZ.X).mono ?_;rintro e w1 ⟨hb,ad,cg,rfl,ho⟩;have B1:=za4 (BZ.X.trans (hb.mono BZ.X.size));rw[ez.X,aX.X];have O1:Zb (w1.ownsRow (w.heap.size+4) 2 1 (za ad xl cg) xl (xs.map (ze zd))):=by
            rw[aX.X]at ho;exact zb5 ho (by have:=Cg.X;have:=BZ.X.size;omega)
           clear ho;have fY:=za4 (za0 hb (za2 aw.X) aw.X);obtain⟨z0,z1⟩:=za1 fY.X;have zf:=fun i=>yZ _ _ i _ _ fY.X;clear hb
           (try go_wp2_with fail)
           refine hoW hK (dr.X _ B1.X) fun aa=> ?_;clear hK K;refine tkH 9 aa ?_;refine tkH 10 aa ?_;refine tkH 11 aa ?_;refine tkH 12 aa ?_;refine rdH 14 fun K hK=> ?_;have B5:Zb (Za w6.heap.size w6 ((w1.setCell ⟨kr,0,none⟩ (ze zd vv)).setCell ⟨kr,1,none⟩ (za ad xl cg))):=(B1.X.setCell aH.X _).setCell aH.X _;have s1:=xb w1 kr 0 _ _ (ze zd vv) fY.X;have V5:Zb (((w1.setCell ⟨kr,0,none⟩ (ze zd vv)).setCell ⟨kr,1,none⟩ (za ad xl cg)).heap[kr]? =some (zg #[ze zd vv,za ad xl cg] 80 (0,0))):=by
            have s2:=xb _ kr 1 _ _ (za ad xl cg) s1;simp at s2;exact s2
           have O5:Zb (zk ((w1.setCell ⟨kr,0,none⟩ (ze zd vv)).setCell ⟨kr,1,none⟩ (za ad xl cg)) (w.heap.size+4) 2 1 (za ad xl cg) xl (xs.map (ze zd))):=zd9 (zd9 O1.X fY.X) (xb _ kr 0 _ _ _ fY.X);have ou:Zb (w6.heap.size<=kr):=aH.X;clear s1;go_simp;refine hoW hK (dr.X _ B5.X) fun aa=> ?_;clear hK K;generalize((w1.setCell ⟨kr,0,none⟩ _).setCell ⟨kr,1,none⟩ _)=w5 at*;refine tkH 15 aa ?_;refine tkH 16 aa ?_;refine qF (by kernel_rfl) ?_ _;clear aa
           (try go_wp2_with fail)
           go_meet;exact⟨kr,ad,cg,rfl,rfl,rfl,B5.X,V5.X,O5.X⟩
          case rest=>
           obtain⟨kr,ad,cg,rfl,rfl,rfl,rX,mL,rx⟩:=hcut;obtain⟨w5,pF⟩:∃v,v=wc:=⟨_,rfl⟩;subst pF;have B5:=za4 rX;have V5:=za4 mL;have O5:=za4 rx;clear rX mL rx;clear CI dr ez;have Q7:=za4 (Q6.X.below B5.X);have vw:Zb (w.heap.size+4<=w5.heap.size):=Q7.X.size;obtain⟨gx,e⟩:∃gx,ad=some ⟨gx,0,none⟩:=by
            rcases own_kinds O5.X with⟨_,h0⟩|⟨g,c,e,_,_⟩
            ·exact absurd (jg.1 (aX.X.trans h0)) eO.X.1
            ·simp only[qP]at e
             exact⟨g,e.1⟩
           subst e;have LS:=zw7 ra bl ol rc lc gx 0 cg R L vv xs w5 (HR.X.below Q7.X.b) (HL.X.below Q7.X.b) (zl1 O5.X) (by rw[HN.X];omega) (fun r hr=>⟨(HI.X r hr).1,by have:=(HI.X r hr).2.1;omega⟩) (by rw[HM.X];omega) ⟨eO.X.1,by have:=eO.X.2;omega⟩;rw[HN.X,HM.X,aX.X]at LS;obtain⟨p0,p1⟩:=za1 Q7.X.p;obtain⟨v0,v1⟩:=za1 V5.X
           go_wp2_with fail
           refine LS.mono ?_;rintro e w8 ⟨iy,iA,jR,kJ,S8,rfl,iF,oU,jI⟩;obtain⟨n8,fO⟩:=nmd S8.length;rw[fO.X,HM.X];rw[fO.X,HM.X]at jI;have Q8:=za4 (Q7.X.below iF);have P8:=za4 jI;have Fx:Zb (S8.map RT.key=(setL R (oneT R (id,ab,bi))).map RT.key):=by
            show _=_;rw[oU];refine yj1 HS.X eO.X.1 ?_;show(vv,xs)=(ab,insL (zc7 R ab).ids bi id);rw[BV.X,tR.X,oT.X]
           clear iF jI oU LS p0 p1 v0 v1 V5 O5 B5 Q7;obtain⟨q0,q1⟩:=za1 Q8.X.o;have qf:=fun i=>yZ _ _ i _ _ Q8.X.o;have s1:=xb w8 (w.heap.size+3) 0 _ _ (za iy n8 iA) Q8.X.o;have s2:=xb _ (w.heap.size+3) 1 _ _ (za (some ⟨jR,0,none⟩) ln kJ) s1;simp at s2;have Q9:Zb (OQ w ((w8.setCell ⟨w.heap.size+3,0,none⟩ (za iy n8 iA)).setCell ⟨w.heap.size+3,1,none⟩ (za (some ⟨jR,0,none⟩) ln kJ)) #[ze zd n,za a zl ac,za ao ko co,za (some ⟨bv,ov,none⟩) kv cv,ze zd fine] #[za ra nr rc,za (some ⟨bl,ol,none⟩) ln lc] (za iy n8 iA) (za (some ⟨jR,0,none⟩) ln kJ)):=⟨(Q8.X.b.setCell (by simp) _).setCell (by simp) _,za8 (za8 Q8.X.c (by omega)) (by omega),za8 (za8 Q8.X.p (by omega)) (by omega),za8 (za8 Q8.X.a (by omega)) (by omega),s2⟩;have P9:Zb (PO ((w8.setCell ⟨w.heap.size+3,0,none⟩ (za iy n8 iA)).setCell ⟨w.heap.size+3,1,none⟩ (za (some ⟨jR,0,none⟩) ln kJ)) (w.heap.size+4) (za iy n8 iA) S8 (za (some ⟨jR,0,none⟩) ln kJ) L):=((P8.X.box Q8.X.o).box s1).base vw.X;clear s1 s2
           go_wp2_with fail
           clear q0 q1 qf Q8 P8;generalize((w8.setCell ⟨w.heap.size+3,0,none⟩ _).setCell ⟨w.heap.size+3,1,none⟩ _)=w9 at*;have uj:=fun(W:zi) (hW:Za w9.heap.size w9 W)=>zJ3 (some ⟨bl,ol,none⟩) lc ln L id W (HL.X.below (Q9.X.below hW).b) HM.X (by omega)
           obtain⟨iT,kg⟩:=nmd ((zm1 L id).length);rw[kg.X]at uj;have CU:Zb _:=uj;have j4:Zb (∀W,Za w9.heap.size w9 W->(fun W=>W.cell? ⟨w.heap.size+1,1,none⟩=some (za (some ⟨bl,ol,none⟩) ln lc)/\W.cell? ⟨bl,ol+i,none⟩=some (ze zd id)) W):=fun W hW=>by
            have q:=Q9.X.below hW;exact⟨(za1 q.p).2,Bn.X W q.b⟩
           clear uj;have kS:=j4.X _ (y5 _ _).drew
           go_region_held3 (fun W=>W.cell? ⟨w.heap.size+1,1,none⟩=some (za (some ⟨bl,ol,none⟩) ln lc)/\W.cell? ⟨bl,ol+i,none⟩=some (ze zd id)) (first|with_reducible exact kS|with_reducible exact kP|go_keep) ((first
            |(go_at_call 73
              with_reducible refine(CU.X w9.drew (y5 _ _).drew).mono ?_
              rintro e gL ⟨iN,fz,rfl,hb,ho⟩;have mU:Zb (Za w9.heap.size w9 gL):=(y5 _ _).drew.trans hb;have fb:=za4 (Q9.X.below mU.X);have wY:Zb (gL.ownsRow (w.heap.size+4) 2 1 (za (some ⟨iN,0,none⟩) iT fz) iT ((zm1 L id).map (ze zd))):=zb5 ho Q9.X.size;have kS:=j4.X _ mU.X;have kP:(fun W=>W.cell? ⟨w.heap.size+1,1,none⟩=some (za (some ⟨bl,ol,none⟩) ln lc)/\W.cell? ⟨bl,ol+i,none⟩=some (ze zd id)) (gL.setCell ⟨w.heap.size+3,1,none⟩ (za (some ⟨iN,0,none⟩) iT fz)):=⟨za5 kS.1 (by show w.heap.size+1≠w.heap.size+3;omega),Bn.X _ (fb.X.b.setCell (by simp) _)⟩;obtain⟨q0,q1⟩:=za1 fb.X.o;have qf:=fun i=>yZ _ _ i _ _ fb.X.o;clear hb ho)))
           clear kS kP CU j4;have s1:=xb gL (w.heap.size+3) 1 _ _ (za (some ⟨iN,0,none⟩) iT fz) fb.X.o;simp at s1;have lW:Zb (OQ w (gL.setCell ⟨w.heap.size+3,1,none⟩ (za (some ⟨iN,0,none⟩) iT fz)) #[ze zd n,za a zl ac,za ao ko co,za (some ⟨bv,ov,none⟩) kv cv,ze zd fine] #[za ra nr rc,za (some ⟨bl,ol,none⟩) ln lc] (za iy n8 iA) (za (some ⟨iN,0,none⟩) iT fz)):=⟨fb.X.b.setCell (by simp) _,za8 fb.X.c (by omega),za8 fb.X.p (by omega),za8 fb.X.a (by omega),s1⟩;have FW:Zb (OU w (gL.setCell ⟨w.heap.size+3,1,none⟩ (za (some ⟨iN,0,none⟩) iT fz)) #[za ra nr rc,za (some ⟨bl,ol,none⟩) ln lc] R L ⟨true,(id,ab,bi),kW⟩ (za iy n8 iA) (za (some ⟨iN,0,none⟩) iT fz)):=.inr ⟨rfl,S8,⟨((P9.X.below mU.X).box fb.X.o).r,((P9.X.below mU.X).box fb.X.o).s,by show zk _ _ _ _ _ (zm1 L id).length _;rw[kg.X];exact zg0 wY.X fb.X.o (by decide)⟩,Fx.X,iN,fz,by show _=za _ (zm1 L id).length _;rw[kg.X]⟩;clear s1 wY q0 q1 qf fb P9 mU Q9;go_wp2;go_roundw
           case rel=>exact⟨k+1,_,_,by omega,by first|rfl|go_num,by rw[bC.X],by rw[bC.X],lW.X,by rw[bC.X];exact FW.X⟩
           case measure=>simp[intOf];omega
         ·subst h9
          obtain⟨d0,d1,d2,d3,d4⟩:=za7 Q6.X.c;go_upto_region 13 with fail;clear d0 d1 d2 d3 d4;go_cut [15,16,17]from 69 to 81 (fun p8 ua pS wx=>∃(kr:Nat) (ad:Option Zd) (cg:Nat),p8=.pointer (some ⟨kr,0,none⟩)/\ua=ze zd kW/\pS=.bool true/\Za w6.heap.size w6 wx/\wx.heap[kr]? =some (zg #[ze zd vv,za ad xl cg] 80 (0,0))/\wx.ownsRow (w.heap.size+4) 2 1 (za ad xl cg) xl (xs.map (ze zd)))
          case first=>
           go_wp2_with fail
           refine qG (S:=(fun W=>W.cell? ⟨w.heap.size,0,none⟩=some (ze zd n)/\W.cell? ⟨w.heap.size,1,none⟩=some (za a zl ac)/\W.cell? ⟨w.heap.size,2,none⟩=some (za ao ko co)/\W.cell? ⟨w.heap.size,3,none⟩=some (za (some ⟨bv,ov,none⟩) kv cv)/\W.cell? ⟨w.heap.size,4,none⟩=some (ze zd fine)/\W.cell? ⟨rb,0,none⟩=some (ze zd ab)/\W.cell? ⟨rb,1,none⟩=some (za aO rl bg)/\W.cell? ⟨w.heap.size+1,1,none⟩=some (za (some ⟨bl,ol,none⟩) ln lc)/\W.cell? ⟨bl,ol+i,none⟩=some (ze zd id))) (by kernel_rfl) ?_ fun aa=> ?_
           ·exact dr.X _ (y5 _ _).drew
           have BD:Zb (Za w6.heap.size w6 w6.drew):=(y5 _ _).drew;generalize w6.drew=wd at*;refine tkH 0 aa ?_;refine tkH 1 aa ?_;refine tkH 2 aa ?_;refine tkH 3 aa ?_;refine tkH 4 aa ?_;refine tkH 5 aa ?_;refine tkH 6 aa ?_;refine tkH 7 aa ?_;refine xQ (rs:=[8,13]) (by kernel_rfl) (by simp) ?_;refine xL rfl (fun K hK=> ?_) ?_
           ·skip
            go_simp;refine(CI.X wd BD.X).mono ?_;rintro e w1 ⟨hb,ad,cg,rfl,ho⟩;have B1:=za4 (BD.X.trans (hb.mono BD.X.size));rw[ez.X,aX.X];have O1:Zb (w1.ownsRow (w.heap.size+4) 2 1 (za ad xl cg) xl (xs.map (ze zd))):=by
             rw[aX.X]at ho;exact zb5 ho (by have:=Cg.X;have:=BD.X.size;omega)
            clear ho;clear hb
            (try go_wp2_with fail)
            refine hoW hK (dr.X _ B1.X) fun aa=> ?_;clear hK K;refine tkH 9 aa ?_;refine tkH 10 aa ?_;refine tkH 11 aa ?_;refine tkH 12 aa ?_;refine rdH 13 fun K hK=> ?_;have BZ:Zb (Za w6.heap.size w6 (w1.alloc (zg #[ze zd 0,za none 0 0] 80))):=B1.X.alloc B1.X.size _;have aw:=za4 (zS w1 (zg #[ze zd 0,za none 0 0] 80));have aH:Zb (w6.heap.size<=w1.heap.size):=B1.X.size;have OZ:Zb (zk (w1.alloc (zg #[ze zd 0,za none 0 0] 80)) (w.heap.size+4) 2 1 (za ad xl cg) xl (xs.map (ze zd))):=O1.X.alloc _;go_simp;refine hoW hK (dr.X _ BZ.X) fun aa=> ?_;clear hK K;obtain⟨kr,cz⟩:=nmd w1.heap.size;rw[cz.X]at aw aH⊢;generalize(w1.alloc _)=wz at*;obtain⟨z0,z1⟩:=za1 aw.X;have zf:=fun i=>yZ _ _ i _ _ aw.X;refine rdH 14 fun K hK=> ?_;have B5:Zb (Za w6.heap.size w6 ((wz.setCell ⟨kr,0,none⟩ (ze zd vv)).setCell ⟨kr,1,none⟩ (za ad xl cg))):=(BZ.X.setCell aH.X _).setCell aH.X _;have s1:=xb wz kr 0 _ _ (ze zd vv) aw.X;have V5:Zb (((wz.setCell ⟨kr,0,none⟩ (ze zd vv)).setCell ⟨kr,1,none⟩ (za ad xl cg)).heap[kr]? =some (zg #[ze zd vv,za ad xl cg] 80 (0,0))):=by
             have s2:=xb _ kr 1 _ _ (za ad xl cg) s1;simp at s2;exact s2
            have O5:Zb (zk ((wz.setCell ⟨kr,0,none⟩ (ze zd vv)).setCell ⟨kr,1,none⟩ (za ad xl cg)) (w.heap.size+4) 2 1 (za ad xl cg) xl (xs.map (ze zd))):=zd9 (zd9 OZ.X aw.X) (xb _ kr 0 _ _ _ aw.X);have ou:Zb (w6.heap.size<=kr):=aH.X;clear s1;go_simp;refine hoW hK (dr.X _ B5.X) fun aa=> ?_;clear hK K;generalize((wz.setCell ⟨kr,0,none⟩ _).setCell ⟨kr,1,none⟩ _)=w5 at*;refine tkH 15 aa ?_;refine tkH 16 aa ?_;refine qF (by kernel_rfl) ?_ _;clear aa
            (try go_wp2_with fail)
            go_meet;exact⟨kr,ad,cg,rfl,rfl,rfl,B5.X,V5.X,O5.X⟩
           refine xL rfl (fun K hK=> ?_) xP;have BZ:Zb (Za w6.heap.size w6 (wd.alloc (zg #[ze zd 0,za none 0 0] 80))):=BD.X.alloc BD.X.size _;have aw:=za4 (zS wd (zg #[ze zd 0,za none 0 0] 80));have aH:Zb (w6.heap.size<=wd.heap.size):=BD.X.size;go_simp;refine hoW hK (dr.X _ BZ.X) fun aa=> ?_;clear hK K;obtain⟨kr,cz⟩:=nmd wd.heap.size;rw[cz.X]at aw aH⊢;generalize(wd.alloc _)=wz at*;obtain⟨z0,z1⟩:=za1 aw.X;have zf:=fun i=>yZ _ _ i _ _ aw.X;refine rdH 8 fun K hK=> ?_;go_simp;refine(CI.X wz BZ.X).mono ?_;rintro e w1 ⟨hb,ad,cg,rfl,ho⟩;have B1:=za4 (BZ.X.trans (hb.mono BZ.X.size));rw[ez.X,aX.X];have O1:Zb (w1.ownsRow (w.heap.size+4) 2 1 (za ad xl cg) xl (xs.map (ze zd))):=by
            rw[aX.X]at ho;exact zb5 ho (by have:=Cg.X;have:=BZ.X.size;omega)
           clear ho;have fY:=za4 (za0 hb (za2 aw.X) aw.X);obtain⟨z0,z1⟩:=za1 fY.X;have zf:=fun i=>yZ _ _ i _ _ fY.X;clear hb
           (try go_wp2_with fail)
           refine hoW hK (dr.X _ B1.X) fun aa=> ?_;clear hK K;refine tkH 9 aa ?_;refine tkH 10 aa ?_;refine tkH 11 aa ?_;refine tkH 12 aa ?_;refine rdH 14 fun K hK=> ?_;have B5:Zb (Za w6.heap.size w6 ((w1.setCell ⟨kr,0,none⟩ (ze zd vv)).setCell ⟨kr,1,none⟩ (za ad xl cg))):=(B1.X.setCell aH.X _).setCell aH.X _;have s1:=xb w1 kr 0 _ _ (ze zd vv) fY.X;have V5:Zb (((w1.setCell ⟨kr,0,none⟩ (ze zd vv)).setCell ⟨kr,1,none⟩ (za ad xl cg)).heap[kr]? =some (zg #[ze zd vv,za ad xl cg] 80 (0,0))):=by
            have s2:=xb _ kr 1 _ _ (za ad xl cg) s1;simp at s2;exact s2
           have O5:Zb (zk ((w1.setCell ⟨kr,0,none⟩ (ze zd vv)).setCell ⟨kr,1,none⟩ (za ad xl cg)) (w.heap.size+4) 2 1 (za ad xl cg) xl (xs.map (ze zd))):=zd9 (zd9 O1.X fY.X) (xb _ kr 0 _ _ _ fY.X);have ou:Zb (w6.heap.size<=kr):=aH.X;clear s1;go_simp;refine hoW hK (dr.X _ B5.X) fun aa=> ?_;clear hK K;generalize((w1.setCell ⟨kr,0,none⟩ _).setCell ⟨kr,1,none⟩ _)=w5 at*;refine tkH 15 aa ?_;refine tkH 16 aa ?_;refine qF (by kernel_rfl) ?_ _;clear aa
           (try go_wp2_with fail)
           go_meet;exact⟨kr,ad,cg,rfl,rfl,rfl,B5.X,V5.X,O5.X⟩
          case rest=>
           obtain⟨kr,ad,cg,rfl,rfl,rfl,rX,mL,rx⟩:=hcut;obtain⟨w5,pF⟩:∃v,v=wc:=⟨_,rfl⟩;subst pF;have B5:=za4 rX;have V5:=za4 mL;have O5:=za4 rx;clear rX mL rx;clear CI dr ez;have Q7:=za4 (Q6.X.below B5.X);have vw:Zb (w.heap.size+4<=w5.heap.size):=Q7.X.size;obtain⟨gx,e⟩:∃gx,ad=some ⟨gx,0,none⟩:=by
            rcases own_kinds O5.X with⟨_,h0⟩|⟨g,c,e,_,_⟩
            ·exact absurd (jg.1 (aX.X.trans h0)) eO.X.1
            ·simp only[qP]at e
             exact⟨g,e.1⟩
           subst e;have LS:=zw7 ra bl ol rc lc gx 0 cg R L vv xs w5 (HR.X.below Q7.X.b) (HL.X.below Q7.X.b) (zl1 O5.X) (by rw[HN.X];omega) (fun r hr=>⟨(HI.X r hr).1,by have:=(HI.X r hr).2.1;omega⟩) (by rw[HM.X];omega) ⟨eO.X.1,by have:=eO.X.2;omega⟩;rw[HN.X,HM.X,aX.X]at LS;obtain⟨p0,p1⟩:=za1 Q7.X.p;obtain⟨v0,v1⟩:=za1 V5.X
           go_wp2_with fail
           refine LS.mono ?_;rintro e w8 ⟨iy,iA,jR,kJ,S8,rfl,iF,oU,jI⟩;obtain⟨n8,fO⟩:=nmd S8.length;rw[fO.X,HM.X];rw[fO.X,HM.X]at jI;have Q8:=za4 (Q7.X.below iF);have P8:=za4 jI;have Fx:Zb (S8.map RT.key=(setL R (oneT R (id,ab,bi))).map RT.key):=by
            show _=_;rw[oU];refine yj1 HS.X eO.X.1 ?_;show(vv,xs)=(ab,insL (zc7 R ab).ids bi id);rw[BV.X,tR.X,oT.X]
           clear iF jI oU LS p0 p1 v0 v1 V5 O5 B5 Q7;obtain⟨q0,q1⟩:=za1 Q8.X.o;have qf:=fun i=>yZ _ _ i _ _ Q8.X.o;have s1:=xb w8 (w.heap.size+3) 0 _ _ (za iy n8 iA) Q8.X.o;have s2:=xb _ (w.heap.size+3) 1 _ _ (za (some ⟨jR,0,none⟩) ln kJ) s1;simp at s2;have Q9:Zb (OQ w ((w8.setCell ⟨w.heap.size+3,0,none⟩ (za iy n8 iA)).setCell ⟨w.heap.size+3,1,none⟩ (za (some ⟨jR,0,none⟩) ln kJ)) #[ze zd n,za a zl ac,za ao ko co,za (some ⟨bv,ov,none⟩) kv cv,ze zd fine] #[za ra nr rc,za (some ⟨bl,ol,none⟩) ln lc] (za iy n8 iA) (za (some ⟨jR,0,none⟩) ln kJ)):=⟨(Q8.X.b.setCell (by simp) _).setCell (by simp) _,za8 (za8 Q8.X.c (by omega)) (by omega),za8 (za8 Q8.X.p (by omega)) (by omega),za8 (za8 Q8.X.a (by omega)) (by omega),s2⟩;have P9:Zb (PO ((w8.setCell ⟨w.heap.size+3,0,none⟩ (za iy n8 iA)).setCell ⟨w.heap.size+3,1,none⟩ (za (some ⟨jR,0,none⟩) ln kJ)) (w.heap.size+4) (za iy n8 iA) S8 (za (some ⟨jR,0,none⟩) ln kJ) L):=((P8.X.box Q8.X.o).box s1).base vw.X;clear s1 s2
           go_wp2_with fail
           clear q0 q1 qf Q8 P8;generalize((w8.setCell ⟨w.heap.size+3,0,none⟩ _).setCell ⟨w.heap.size+3,1,none⟩ _)=w9 at*;have uj:=fun(W:zi) (hW:Za w9.heap.size w9 W)=>zJ3 (some ⟨bl,ol,none⟩) lc ln L id W (HL.X.below (Q9.X.below hW).b) HM.X (by omega)
           obtain⟨iT,kg⟩:=nmd ((zm1 L id).length);rw[kg.X]at uj;have CU:Zb _:=uj;have j4:Zb (∀W,Za w9.heap.size w9 W->(fun W=>W.cell? ⟨w.heap.size+1,1,none⟩=some (za (some ⟨bl,ol,none⟩) ln lc)/\W.cell? ⟨bl,ol+i,none⟩=some (ze zd id)) W):=fun W hW=>by
            have q:=Q9.X.below hW;exact⟨(za1 q.p).2,Bn.X W q.b⟩
           clear uj;have kS:=j4.X _ (y5 _ _).drew
           go_region_held3 (fun W=>W.cell? ⟨w.heap.size+1,1,none⟩=some (za (some ⟨bl,ol,none⟩) ln lc)/\W.cell? ⟨bl,ol+i,none⟩=some (ze zd id)) (first|with_reducible exact kS|with_reducible exact kP|go_keep) ((first
            |(go_at_call 73
              with_reducible refine(CU.X w9.drew (y5 _ _).drew).mono ?_
              rintro e gL ⟨iN,fz,rfl,hb,ho⟩;have mU:Zb (Za w9.heap.size w9 gL):=(y5 _ _).drew.trans hb;have fb:=za4 (Q9.X.below mU.X);have wY:Zb (gL.ownsRow (w.heap.size+4) 2 1 (za (some ⟨iN,0,none⟩) iT fz) iT ((zm1 L id).map (ze zd))):=zb5 ho Q9.X.size;have kS:=j4.X _ mU.X;have kP:(fun W=>W.cell? ⟨w.heap.size+1,1,none⟩=some (za (some ⟨bl,ol,none⟩) ln lc)/\W.cell? ⟨bl,ol+i,none⟩=some (ze zd id)) (gL.setCell ⟨w.heap.size+3,1,none⟩ (za (some ⟨iN,0,none⟩) iT fz)):=⟨za5 kS.1 (by show w.heap.size+1≠w.heap.size+3;omega),Bn.X _ (fb.X.b.setCell (by simp) _)⟩;obtain⟨q0,q1⟩:=za1 fb.X.o;have qf:=fun i=>yZ _ _ i _ _ fb.X.o;clear hb ho)))
           clear kS kP CU j4;have s1:=xb gL (w.heap.size+3) 1 _ _ (za (some ⟨iN,0,none⟩) iT fz) fb.X.o;simp at s1;have lW:Zb (OQ w (gL.setCell ⟨w.heap.size+3,1,none⟩ (za (some ⟨iN,0,none⟩) iT fz)) #[ze zd n,za a zl ac,za ao ko co,za (some ⟨bv,ov,none⟩) kv cv,ze zd fine] #[za ra nr rc,za (some ⟨bl,ol,none⟩) ln lc] (za iy n8 iA) (za (some ⟨iN,0,none⟩) iT fz)):=⟨fb.X.b.setCell (by simp) _,za8 fb.X.c (by omega),za8 fb.X.p (by omega),za8 fb.X.a (by omega),s1⟩;have FW:Zb (OU w (gL.setCell ⟨w.heap.size+3,1,none⟩ (za (some ⟨iN,0,none⟩) iT fz)) #[za ra nr rc,za (some ⟨bl,ol,none⟩) ln lc] R L ⟨true,(id,ab,bi),kW⟩ (za iy n8 iA) (za (some ⟨iN,0,none⟩) iT fz)):=.inr ⟨rfl,S8,⟨((P9.X.below mU.X).box fb.X.o).r,((P9.X.below mU.X).box fb.X.o).s,by show zk _ _ _ _ _ (zm1 L id).length _;rw[kg.X];exact zg0 wY.X fb.X.o (by decide)⟩,Fx.X,iN,fz,by show _=za _ (zm1 L id).length _;rw[kg.X]⟩;clear s1 wY q0 q1 qf fb P9 mU Q9;go_wp2;go_roundw
           case rel=>exact⟨k+1,_,_,by omega,by first|rfl|go_num,by rw[bC.X],by rw[bC.X],lW.X,by rw[bC.X];exact FW.X⟩
           case measure=>simp[intOf];omega
        ·have bC:Zb (fn (l1++sp2 R vs id (k+1))=⟨sf,ss,sv⟩):=by show _=_;rw[fE.X];exact ye (fun h=>jx h.2.2)
         clear fE dr;have nX:sf=true:=by cases sf;exact absurd (.inl rfl) jx;rfl
         subst nX;have dF:sv<=kW:=by rcases Int.lt_or_le kW sv with h|h;exact absurd (.inr h) jx;exact h
         obtain⟨d0,d1,d2,d3,d4⟩:=za7 Q6.X.c;go_wp2;go_roundw
         case rel=>exact⟨k+1,o0,o1,by omega,by first|rfl|go_num,by rw[bC.X],by rw[bC.X],Q6.X,by rw[bC.X];exact U6.X⟩
         case measure=>simp[intOf];omega
       ·have bC:Zb (fn (l1++sp2 R vs id (k+1))=⟨sf,ss,sv⟩):=by show _=_;rw[fE.X];exact ye (fun h=>hfi h.2.1)
        clear fE dr;have Ch:fine<kW:=by omega
        obtain⟨d0,d1,d2,d3,d4⟩:=za7 Q6.X.c;go_wp2;go_roundw
        case rel=>exact⟨k+1,o0,o1,by omega,by first|rfl|go_num,by rw[bC.X],by rw[bC.X],Q6.X,by rw[bC.X];exact U6.X⟩
        case measure=>simp[intOf];omega
    ·have gY:¬((k:Int)<(kv:Int)):=by omega
     have cU:k=kv:=by omega
     go_wp2;go_roundw
     case rel=>exact⟨i+1,o0,o1,by omega,by first|rfl|go_num,by rw[aZ.X,cU],by rw[aZ.X,cU],Q3.X,by have U9:=GC.X;rw[cU,<-aZ.X]at U9;exact U9⟩
     case measure=>simp[intOf];omega
  ·have oA:¬((i:Int)<(ln:Int)):=by omega
   have oe:i=ln:=by omega
   have Nv:Zb (fn (sp3 R vs kv L i)=s9):=by show _=_;rw[oe];exact ws.X.symm
   rw[Nv.X]at U1⊢;rcases U1.X with⟨nX,fV⟩|⟨nX,S,nD,kV,g,c,e⟩
   ·simp only[Array.mk.injEq,List.cons.injEq,qt]at fV
    obtain⟨rfl,rfl⟩:=fV;have Ak:RX=R:=by rw[jw.X,nX];rfl
    have vE:LX=L:=by rw[ee.X,nX];rfl
    have CC:=zp9 ra bl ol rc lc R L wr (HR.X.below Q1.X.b) (HL.X.below Q1.X.b) (by rw[HN.X];omega) (fun r hr=>⟨(HI.X r hr).1,by have:=(HI.X r hr).2.1;omega⟩) (by rw[HM.X];omega);rw[HN.X,HM.X]at CC;have Ai:=za4 Ak;have nJ:=za4 vE;clear Ak vE;obtain⟨q0,q1⟩:=za1 Q1.X.o
    go_wp2_with fail
    refine CC.mono ?_;rintro e w2 ⟨ag,ai,bS,aj,S2,rfl,hb,hk,ho⟩;rw[HN.X,HM.X]at ho;rw[HN.X,HM.X];have Q2:=za4 (Q1.X.below hb);have P2:Zb (PO w2 (w.heap.size+4) (za ag nr ai) S2 (za (some ⟨bS,0,none⟩) ln aj) L):=ho.base (by have:=Q1.X.size;omega);have dY:Zb (S2.map RT.key=RX.map RT.key):=by show _=_;rw[Ai.X];exact hk
    clear hb ho hk CC q0 q1;obtain⟨a0,a1⟩:=za1 Q2.X.a;have af:=fun i=>yZ _ _ i _ _ Q2.X.a;have s1:=xb w2 (w.heap.size+2) 0 _ _ (za ag nr ai) Q2.X.a;have P3:Zb (PO ((w2.setCell ⟨w.heap.size+2,0,none⟩ (za ag nr ai)).setCell ⟨w.heap.size+2,1,none⟩ (za (some ⟨bS,0,none⟩) ln aj)) (w.heap.size+4) (za ag nr ai) S2 (za (some ⟨bS,0,none⟩) ln aj) L):=(P2.X.box Q2.X.a).box s1;have B3:Zb (Za w.heap.size w ((w2.setCell ⟨w.heap.size+2,0,none⟩ (za ag nr ai)).setCell ⟨w.heap.size+2,1,none⟩ (za (some ⟨bS,0,none⟩) ln aj))):=(Q2.X.b.setCell (by simp) _).setCell (by simp) _;clear s1;go_wp2;refine xe (v:=.tuple #[.agg #[za ag nr ai,za (some ⟨bS,0,none⟩) ln aj],.bool s9.f]) (by simp[results,Tryz.results95,go_sem,a0,a1,nX]) rfl ?_;show yD8 _ _ _ _ _ _;exact⟨ag,_,ai,bS,_,aj,S2,by rw[nX],B3.X,by have:=congrArg zo dY.X;simp only[qT]at this;rw[this];rw[Ai.X];exact HN.X,by rw[nJ.X];exact HM.X,dY.X,by rw[nJ.X];exact P3.X.base (by omega)⟩
   ·have Ak:RX=wrL R (oneT R s9.s):=by rw[jw.X,nX];rfl
    have vE:LX=zm1 L s9.s.1:=by rw[ee.X,nX];rfl
    obtain⟨sa,sc,e0⟩:=zp6 nD.r;subst e e0;have Fl:(oneT R s9.s).ids≠[]/\(oneT R s9.s).ids.length<=13:=by
     have h2:=z51 (fun r hr=>(HI.X r hr).2.1) s9.s.2.1;refine⟨by unfold oneT insL;simp,?_⟩;unfold oneT insL;simp only[xY,yo,yh,qj];omega
    have lp:Zb (RX.map RT.key=S.map RT.key):=by show _=_;rw[Ak,kV,z50 HS.X Fl.1]
    have GG:=zH8 L s9.s.1;rw[HM.X]at GG;obtain⟨LC,Ny⟩:=nmd (zm1 L s9.s.1);rw[Ny.X]at nD GG vE Q1;have nJ:=za4 vE;have Oz:S.length<=400:=by
     have h1:=congrArg zo kV;simp only[qT]at h1;have h2:=(zz9 R (oneT R s9.s)).2;rw[HN.X]at h2;omega
    have CC:=zp9 sa g 0 sc c S LC wr nD.at (zl1 nD.l) (by omega) (yn8 HI.X Fl kV) (by omega);obtain⟨nS,bC⟩:=nmd S.length;obtain⟨nC,Dh⟩:=nmd LC.length;rw[bC.X,Dh.X]at CC Q1;clear Ak vE nD kV GG Oz Fl;obtain⟨q0,q1⟩:=za1 Q1.X.o
    go_wp2_with fail
    refine CC.mono ?_;rintro e w2 ⟨ag,ai,bS,aj,S2,rfl,hb,hk,ho⟩;rw[bC.X,Dh.X]at ho;rw[bC.X,Dh.X];have Q2:=za4 (Q1.X.below hb);have P2:Zb (PO w2 (w.heap.size+4) (za ag nS ai) S2 (za (some ⟨bS,0,none⟩) nC aj) LC):=ho.base (by have:=Q1.X.size;omega);have dY:Zb (S2.map RT.key=RX.map RT.key):=by show _=_;rw[lp.X];exact hk
    clear hb ho hk CC q0 q1;obtain⟨a0,a1⟩:=za1 Q2.X.a;have af:=fun i=>yZ _ _ i _ _ Q2.X.a;have s1:=xb w2 (w.heap.size+2) 0 _ _ (za ag nS ai) Q2.X.a;have P3:Zb (PO ((w2.setCell ⟨w.heap.size+2,0,none⟩ (za ag nS ai)).setCell ⟨w.heap.size+2,1,none⟩ (za (some ⟨bS,0,none⟩) nC aj)) (w.heap.size+4) (za ag nS ai) S2 (za (some ⟨bS,0,none⟩) nC aj) LC):=(P2.X.box Q2.X.a).box s1;have B3:Zb (Za w.heap.size w ((w2.setCell ⟨w.heap.size+2,0,none⟩ (za ag nS ai)).setCell ⟨w.heap.size+2,1,none⟩ (za (some ⟨bS,0,none⟩) nC aj))):=(Q2.X.b.setCell (by simp) _).setCell (by simp) _;clear s1;go_wp2;refine xe (v:=.tuple #[.agg #[za ag nS ai,za (some ⟨bS,0,none⟩) nC aj],.bool s9.f]) (by simp[results,Tryz.results95,go_sem,a0,a1,nX]) rfl ?_;show yD8 _ _ _ _ _ _;exact⟨ag,_,ai,bS,_,aj,S2,by rw[nX],B3.X,by have:=congrArg zo dY.X;simp only[qT]at this;rw[this];have h2:=congrArg zo lp.X;simp only[qT]at h2;rw[h2];exact bC.X,by rw[nJ.X];exact Dh.X,dY.X,by rw[nJ.X];exact P3.X.base (by omega)⟩
def yu8(W:zi)(k:Nat):Nat:=match W.cell? ⟨k,1,none⟩with
 |some (za _ n _)=>n
 |_=>0
theorem yc2{w:zi}{base size n rc k:Nat}{e:TypeId}{ra:Option Zd}{xs:List Value}(h:w.ownsRow base e size (za ra n rc) n xs)(hk:k<base):∀b off,ra=some ⟨b,off,none⟩->b≠k:=fun b off e9=>by
 rcases own_kinds h with⟨e1,_⟩|⟨g,c,e1,h2,_⟩
 ·simp only[qP]at e1
  rw[e1.1]at e9;cases e9
 ·simp only[qP]at e1
  rw[e1.1]at e9;simp only[x7,qg,qt]at e9;omega
theorem PO.is{w:zi}{base rn rc ln lc:Nat}{ra la:Option Zd}{S:List RT}{L:List Int}(h:PO w base (za ra rn rc) S (za la ln lc) L)(hn:S.length=rn)(hl:L.length=ln):zc2 w ra la rn ln S L:=by
 have hr:=h.r;have h2:=h.l;rw[hn]at hr;rw[hl]at h2;exact⟨hn,hl,zm4 hr (fun s hs=>(h.ints s hs).1),zl1 h2,z72 hr,z72 h2,fun r hr=>(h.ints r hr).2⟩
theorem PO.off{w:zi}{base rn rc ln lc k:Nat}{ra la:Option Zd}{S:List RT}{L:List Int}(h:PO w base (za ra rn rc) S (za la ln lc) L)(hn:S.length=rn)(hl:L.length=ln)(hk:k<base):Off k ra la S:=by
 have hr:=h.r;have h2:=h.l;rw[hn]at hr;rw[hl]at h2;exact⟨yc2 hr hk,yc2 h2 hk,fun s hs=>yc2 (h.s s hs) hk⟩
theorem PO.ad{w:zi}{base:Nat}{rs ls:Value}{S:List RT}{L:List Int}(h:PO w base rs S ls L)(hi:∀s∈S,s.ids≠[]):∀s∈S,∃g,s.a=some ⟨g,0,none⟩:=fun s hs=>by
 rcases own_kinds (h.s s hs)with⟨_,h0⟩|⟨g,c,e1,_,_⟩
 ·exact absurd (jg.1 h0) (hi s hs)
 ·simp only[qP]at e1
  exact⟨g,e1.1⟩
def yb8(w:zi)(T:List RT)(L:List Int)(e:Ending)(w':zi):Prop:=∃ra rn rc gl ln lc S,e=.returned (.agg #[za ra rn rc,za (some ⟨gl,0,none⟩) ln lc])/\Za w.heap.size w w'/\S.length=rn/\L.length=ln/\S.map RT.key=T.map RT.key/\PO w' w.heap.size (za ra rn rc) S (za (some ⟨gl,0,none⟩) ln lc) L
theorem zU4(n fine:Int)(a ao ra:Option Zd)(zl ac ko co bv ov kv cv nr rc bl ol ln lc:Nat)(zs os vs L:List Int)(R:List RT)(w:zi)(hA:za3 w a zs)(hO:za3 w ao os)(hV:za3 w (some ⟨bv,ov,none⟩) vs)(aN:zs.length=zl)(an:os.length=ko*6)(au:vs.length=kv*5)(aA:ko<=12)(aB:kv<=5)(bT:zd0 n zs os vs ko kv fine=true)(hP:zc2 w ra (some ⟨bl,ol,none⟩) nr ln R L)(hn:nr<=12)(gd:ln<=12)(hS:zf7 R)(hi:zw3 R)(me:∀r∈R,∃g,r.a=some ⟨g,0,none⟩)(cX:∀k,w.heap.size<=k->Off k ra (some ⟨bl,ol,none⟩) R):
 Zc zh 44 #[.agg #[ze zd n,za a zl ac,za ao ko co,za (some ⟨bv,ov,none⟩) kv cv,ze zd fine],.agg #[za ra nr rc,za (some ⟨bl,ol,none⟩) ln lc]] w (yb8 w (grd n fine zs os vs ko kv L.length R L).1 (grd n fine zs os vs ko kv L.length R L).2):=by
 have HA:=za4 hA;have HO:=za4 hO;have HV:=za4 hV;have ck:=za4 aN;have aF:=za4 an;have aE:=za4 au;have cW:=za4 bT;have HP:=za4 hP;have HS:=za4 hS;have HI:=za4 hi;have Dy:=za4 me;have u':=za4 cX;clear hA hO hV aN an au bT hP hS hi me cX;obtain⟨TR,o9⟩:=nmd ((grd n fine zs os vs ko kv L.length R L).1);obtain⟨TL,dP⟩:=nmd ((grd n fine zs os vs ko kv L.length R L).2);rw[o9.X,dP.X];have Q0:Zb (GQ w (((w.alloc (zg #[ze zd n,za a zl ac,za ao ko co,za (some ⟨bv,ov,none⟩) kv cv,ze zd fine] 30)).alloc (zg #[za ra nr rc,za (some ⟨bl,ol,none⟩) ln lc] 33)).alloc (zg #[za none 0 0,za none 0 0] 33)) #[ze zd n,za a zl ac,za ao ko co,za (some ⟨bv,ov,none⟩) kv cv,ze zd fine] #[za ra nr rc,za (some ⟨bl,ol,none⟩) ln lc]):=by
  refine⟨((zP _).alloc (by simp) _).alloc (by simp;omega) _,?_,?_,?_⟩
  ·exact(xg _ _ (by simp;omega)).trans (xm _ _ _)
  ·exact(xg _ _ (by simp)).trans (xh _ _ _)
  ·have:=zS ((w.alloc (zg #[ze zd n,za a zl ac,za ao ko co,za (some ⟨bv,ov,none⟩) kv cv,ze zd fine] 30)).alloc (zg #[za ra nr rc,za (some ⟨bl,ol,none⟩) ln lc] 33)) (zg #[za none 0 0,za none 0 0] 33)
   simpa using this
 have jT:=za4 (HP.X.below Q0.X.b);go_enter Tryz.func44,Tryz.ntmps44
 go_wp2_with fail
 generalize((w.alloc _).alloc _).alloc _=W0 at*;go_loopw[6] (fun _ wr=>∃(aO:Option Zd) (bG bg rz rL bm dI:Nat) (R9:List RT) (L9:List Int),GQ w wr #[ze zd n,za a zl ac,za ao ko co,za (some ⟨bv,ov,none⟩) kv cv,ze zd fine] #[za aO bG bg,za (some ⟨rz,rL,none⟩) bm dI]/\zc2 wr aO (some ⟨rz,rL,none⟩) bG bm R9 L9/\Off (w.heap.size+1) aO (some ⟨rz,rL,none⟩) R9/\(∀r∈R9,∃g,r.a=some ⟨g,0,none⟩)/\bG+bm<=24/\bm<=12/\zf7 R9/\zw3 R9/\(grd n fine zs os vs ko kv L9.length R9 L9).1.map RT.key=TR.map RT.key/\(grd n fine zs os vs ko kv L9.length R9 L9).2=TL) (fun _ wr=>yu8 wr (w.heap.size+1))
 case atStart=>exact⟨ra,nr,rc,bl,ol,ln,lc,R,L,Q0.X,jT.X,u'.X _ (by omega),Dy.X,by omega,gd,HS.X,HI.X,by rw[o9.X],dP.X⟩
 case round=>
  clear Q0 jT HP HS HI u' Dy;obtain⟨aO,bG,bg,rz,rL,bm,dI,R9,L9,hq,hp,ig,me,Po,bH,hs,hi,i_,gz⟩:=hrel;have Q1:=za4 hq;have P1:=za4 hp;have S1:=za4 hs;have I1:=za4 hi;obtain⟨c0,c1,c2,c3,c4⟩:=za7 Q1.X.c;obtain⟨p0,p1⟩:=za1 Q1.X.p;have dS:Zb (yu8 wr (w.heap.size+1)=bm):=by show _=_;unfold yu8;rw[p1]
  have G1:=yz4 n fine a ao aO zl ac ko co bv ov kv cv bG bg rz rL bm dI zs os vs L9 R9 wr (HA.X.below Q1.X.b) (HO.X.below Q1.X.b) (HV.X.below Q1.X.b) ck.X aF.X aE.X aA aB cW.X P1.X.2.2.1 P1.X.1 (by omega) P1.X.2.2.2.1 P1.X.2.1 bH S1.X I1.X me;have eT:=yj4 n fine zs os vs ko kv (R:=R9) (L:=L9);have eV:=fun h=>zz4 n fine zs os vs ko kv (R:=R9) (L:=L9) h;have bd:=yB1 (n:=n) (fine:=fine) (zs:=zs) (os:=os) (vs:=vs) (ko:=ko) (kv:=kv) (L:=L9) I1.X (by rw[P1.X.1];omega) (by rw[P1.X.2.1];omega);have jZ:=zY0 n fine zs os vs ko kv (L:=L9) S1.X;rw[P1.X.1]at eT;rw[P1.X.2.1]at eV;obtain⟨f,jC⟩:=nmd ((zw6 n fine zs os vs ko kv R9 L9).f);obtain⟨RX,gC⟩:=nmd (zB6 n fine zs os vs ko kv R9 L9);obtain⟨LX,gI⟩:=nmd (zD8 n fine zs os vs ko kv R9 L9);have dD:Zb (f=true->(grd n fine zs os vs ko kv LX.length RX LX).1.map RT.key=TR.map RT.key/\(grd n fine zs os vs ko kv LX.length RX LX).2=TL/\LX.length<bm):=fun h=>by
   rw[yl9 n fine zs os vs ko kv (jC.X.trans h),gC.X,gI.X]at i_ gz;exact⟨i_,gz,by rw[<-gI.X];exact eV (jC.X.trans h)⟩
  have pW:Zb (f=false->R9.map RT.key=TR.map RT.key/\L9=TL):=fun h=>by
   rw[yk7 n fine zs os vs ko kv (jC.X.trans h)]at i_ gz;exact⟨i_,gz⟩
  rw[jC.X,gC.X,gI.X]at G1;rw[gC.X]at bd jZ eT;have od:=za4 eT;have fW:Zb (∀r∈RX,r.ids≠[]/\r.ids.length<=12):=bd.1;have eU:=za4 jZ;clear hq hp hs hi i_ gz eT eV bd jZ me ig jC gC gI
  go_wp2_with fail
  refine G1.mono ?_;rintro e w2 ⟨ag,eb,ai,bS,dE,aj,S2,rfl,hb,be,dg,cN,da⟩;have bW:=Q1.X.size;have Q2:=za4 (Q1.X.below hb);have P2:=za4 (P1.X.below hb);have O2:=za4 da;have fE:=za4 be;have fT:=za4 dg;have dY:=za4 cN;have jp:=za4 bW;clear hb da be dg cN G1 c0 c1 c2 c3 c4 p0 p1 Q1 P1 bW;have QA:Zb (GQ w (w2.alloc (zg #[za ag eb ai,za (some ⟨bS,0,none⟩) dE aj] 33)) #[ze zd n,za a zl ac,za ao ko co,za (some ⟨bv,ov,none⟩) kv cv,ze zd fine] #[za aO bG bg,za (some ⟨rz,rL,none⟩) bm dI]):=Q2.X.below (zP _);have PA:Zb (zc2 (w2.alloc (zg #[za ag eb ai,za (some ⟨bS,0,none⟩) dE aj] 33)) aO (some ⟨rz,rL,none⟩) bG bm R9 L9):=P2.X.below (zP _);have OA:Zb (PO (w2.alloc (zg #[za ag eb ai,za (some ⟨bS,0,none⟩) dE aj] 33)) wr.heap.size (za ag eb ai) S2 (za (some ⟨bS,0,none⟩) dE aj) LX):=O2.X.below (zP _);have NA:=za4 (zS w2 (zg #[za ag eb ai,za (some ⟨bS,0,none⟩) dE aj] 33));obtain⟨p0,p1⟩:=za1 QA.X.p;obtain⟨n0,n1⟩:=za1 NA.X;cases f
  ·obtain⟨hk,hl⟩:=pW.X rfl
   have HK:=za4 hk;have eM:=za4 hl;clear hk hl;have CC:=zp9 aO rz rL bg dI R9 L9 (w2.alloc (zg #[za ag eb ai,za (some ⟨bS,0,none⟩) dE aj] 33)) PA.X.2.2.1 PA.X.2.2.2.1 (by rw[PA.X.1];omega) (fun r hr=>⟨(I1.X r hr).1,by have:=(I1.X r hr).2.1;omega⟩) (by rw[PA.X.2.1];omega);rw[PA.X.1,PA.X.2.1]at CC
   go_wp2_with fail
   generalize w2.alloc _=w3 at*;refine CC.mono ?_;rintro e w4 ⟨bj,bD,nG,bJ,S4,rfl,hb,eL,da⟩;rw[PA.X.1,PA.X.2.1]at da;rw[PA.X.1,PA.X.2.1];have Q4:=za4 (QA.X.below hb);have P4:Zb (PO w4 (w.heap.size+3) (za bj bG bD) S4 (za (some ⟨nG,0,none⟩) bm bJ) L9):=da.base (by have:=QA.X.size;omega);have Pl:=za4 (eL.trans HK.X);have Hh:Zb (S4.length=bG):=by have:=congrArg zo eL;simp only[qT]at this;exact this.trans PA.X.1
   have vD:Zb (L9.length=bm):=PA.X.2.1;clear hb eL da CC p0 p1 n0 n1 NA QA PA OA;obtain⟨a0,a1⟩:=za1 Q4.X.o;have af:=fun i=>yZ _ _ i _ _ Q4.X.o;have s1:=xb w4 (w.heap.size+2) 0 _ _ (za bj bG bD) Q4.X.o;have P5:Zb (PO ((w4.setCell ⟨w.heap.size+2,0,none⟩ (za bj bG bD)).setCell ⟨w.heap.size+2,1,none⟩ (za (some ⟨nG,0,none⟩) bm bJ)) (w.heap.size+3) (za bj bG bD) S4 (za (some ⟨nG,0,none⟩) bm bJ) L9):=(P4.X.box Q4.X.o).box s1;have B5:Zb (Za w.heap.size w ((w4.setCell ⟨w.heap.size+2,0,none⟩ (za bj bG bD)).setCell ⟨w.heap.size+2,1,none⟩ (za (some ⟨nG,0,none⟩) bm bJ))):=(Q4.X.b.setCell (by simp) _).setCell (by simp) _;clear s1;go_wp2;refine xe (v:=.agg #[za bj bG bD,za (some ⟨nG,0,none⟩) bm bJ]) (by simp[results,Tryz.results44,go_sem,a0,a1]) rfl ?_;show yb8 _ _ _ _ _;exact⟨bj,bG,bD,nG,bm,bJ,S4,rfl,B5.X,Hh.X,by rw[<-eM.X];exact vD.X,Pl.X,by rw[<-eM.X];exact P5.X.base (by omega)⟩
  ·obtain⟨i_,gz,ah⟩:=dD.X rfl
   have pf:=fun i=>yZ _ _ i _ _ QA.X.p;have s1:=xb (w2.alloc (zg #[za ag eb ai,za (some ⟨bS,0,none⟩) dE aj] 33)) (w.heap.size+1) 0 _ _ (za ag eb ai) QA.X.p;have s2:=xb _ (w.heap.size+1) 1 _ _ (za (some ⟨bS,0,none⟩) dE aj) s1;simp at s2;have Q3:Zb (GQ w (((w2.alloc (zg #[za ag eb ai,za (some ⟨bS,0,none⟩) dE aj] 33)).setCell ⟨w.heap.size+1,0,none⟩ (za ag eb ai)).setCell ⟨w.heap.size+1,1,none⟩ (za (some ⟨bS,0,none⟩) dE aj)) #[ze zd n,za a zl ac,za ao ko co,za (some ⟨bv,ov,none⟩) kv cv,ze zd fine] #[za ag eb ai,za (some ⟨bS,0,none⟩) dE aj]):=⟨(QA.X.b.setCell (by simp) _).setCell (by simp) _,za8 (za8 QA.X.c (by omega)) (by omega),s2,za8 (za8 QA.X.o (by omega)) (by omega)⟩;have O3:Zb (PO (((w2.alloc (zg #[za ag eb ai,za (some ⟨bS,0,none⟩) dE aj] 33)).setCell ⟨w.heap.size+1,0,none⟩ (za ag eb ai)).setCell ⟨w.heap.size+1,1,none⟩ (za (some ⟨bS,0,none⟩) dE aj)) wr.heap.size (za ag eb ai) S2 (za (some ⟨bS,0,none⟩) dE aj) LX):=(OA.X.box QA.X.p).box s1;have m':Zb (yu8 (((w2.alloc (zg #[za ag eb ai,za (some ⟨bS,0,none⟩) dE aj] 33)).setCell ⟨w.heap.size+1,0,none⟩ (za ag eb ai)).setCell ⟨w.heap.size+1,1,none⟩ (za (some ⟨bS,0,none⟩) dE aj)) (w.heap.size+1)=dE):=by show _=_;unfold yu8;rw[(za1 s2).2]
   have gu:eb=RX.length:=by rw[<-fE.X];have:=congrArg zo dY.X;simpa using this
   have uv:eb+dE<=24/\dE<=12/\dE<bm:=by have:=od.X;have:=fT.X;omega
   have T1:=za4 i_;have T2:=za4 gz;obtain⟨nW,m_,nh⟩:=uv;clear s1 s2 i_ gz ah gu;go_wp2;go_roundw
   case rel=>exact⟨ag,eb,ai,bS,0,dE,aj,S2,LX,Q3.X,O3.X.is fE.X fT.X,O3.X.off fE.X fT.X (by have:=jp.X;omega),O3.X.ad (fun s hs=>(z13 dY.X fW.X s hs).1),nW,m_,zX3 dY.X eU.X,fun r hr=>⟨(z13 dY.X fW.X r hr).1,(z13 dY.X fW.X r hr).2,(O3.X.ints r hr).2⟩,(z82 n fine zs os vs ko kv LX.length LX dY.X).1.trans T1.X,(z82 n fine zs os vs ko kv LX.length LX dY.X).2.trans T2.X⟩
   case measure=>rw[dS.X,m'.X];exact nh
