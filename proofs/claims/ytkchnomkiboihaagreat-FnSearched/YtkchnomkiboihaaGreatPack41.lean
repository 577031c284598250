import Derived.Test.YtkchnomkiboihaaGreatPack40
set_option linter.unusedSimpArgs false
set_option maxHeartbeats 8000000
set_option maxRecDepth 20000
namespace Go.Proofs.YtkchnomkiboihaaGreat
open RowKit renaming Below→Za,Hid→Zb
open Go renaming Calls→Zc,Addr→Zd
open Value renaming slice→za,int→ze
open IntKind renaming i64→zd
open Obj renaming cells→zg
open Proofs.Tryz renaming prog→zh
open Go renaming World→zi
open World renaming ownsRow→zk
open List renaming length→zo
open Go.RowKit
open Q
def yg5(n fine:Int)(zs os vs:List Int)(ko kv:Nat)(S P:List Int)(last:Int)(ra:Option Zd)(nR rc:Nat)(la:Option Zd)(l lc:Nat)(R:List RT)(L:List Int)(w:zi)(e:Ending)(w':zi):Prop:=
 Za w.heap.size w w'∧
 ((zc1 n zs os vs ko kv fine (lvF S P R L P.length).1 (lvF S P R L P.length).2=0/\∃(ag:Option Zd) (n2 ai:Nat) (ak:Option Zd) (l2 aj:Nat) (R2:List RT) (L2:List Int),e=.returned (.tuple #[.agg #[za ag n2 ai,za ak l2 aj],ze zd last,.bool true])/\za9 w' ag R2/\R2.length=n2/\za3 w' ak L2/\L2.length=l2/\R2.map RT.key=(lvF S P R L P.length).1.map RT.key/\L2=(lvF S P R L P.length).2/\LvI S P L.length P.length R2 L2/\((ak=none/\l2=0)∨∃b off,ak=some ⟨b,off,none⟩)/\((ag=none/\R2.length=0)∨∃b off,ag=some ⟨b,off,none⟩)/\(∀r∈R2,r.ids.length<=r.c)/\(∀k,k<w.heap.size->zi8 k ra la R L->zi8 k ag ak R2 L2))∨
  (zc1 n zs os vs ko kv fine (lvF S P R L P.length).1 (lvF S P R L P.length).2≠0/\e=.returned (.tuple #[.agg #[za ra nR rc,za la l lc],ze zd last,.bool false])))
theorem zP3:∀(R:List RT),(∀r∈R,r.ids.length<=12)->(R.flatMap RT.ids).length<=12*R.length
 |[],_=>by simp
 |r::R,h=>by
  have h1:=h r (yB ..);have h2:=zP3 R (fun x hx=>h x (yt _ hx));rw[jc,xS,yo];omega
theorem zF6(n fine ni kk:Int)(a ao av ra la:Option Zd)(zl ac ko co kv cv nR rc l lc kb cb:Nat)(zs os vs:List Int)(R:List RT)(L S P:List Int)(N m:Nat)(K last:Int)(w:zi)(hA:za3 w a zs)(vz:zs.length=zl)(hO:za3 w ao os)(hV:za3 w av vs)(an:os.length=ko*6)(au:vs.length=kv*5)(aA:ko<=9223372036854775807)(aB:kv<=9223372036854775807)(bU:zd0 n zs os vs ko kv fine=true)
 (hR:za9 w ra R) (hn:R.length=nR) (hL:za3 w la L) (hl:L.length=l) (bJ:l+N<=12) (KQ:(ra=none/\R.length=0)∨∃b off,ra=some ⟨b,off,none⟩) (jt:(la=none/\l=0)∨∃b off,la=some ⟨b,off,none⟩) (hc:∀r∈R,r.ids.length<=r.c)
 (hS:zr3 (zb0 R R.length)=S) (hN:S.length=N) (hK:min kk (N:Int)=K) (hP:zs4 ni N K=P) (hm:P.length=m) (kQ:z77 ni N K=last) (hI:LvI S P L.length 0 R L) (hd:∀i j,i<j->j<P.length->pkd S P i≠pkd S P j) (hp:∀i,i<m->0<=P.getD i 0/\P.getD i 0<N) (Rg:m<=N)
 (ip:∀x∈(lvF S P R L m).2,(Lit.int zd x).wf=true) (dA:w.cell? ⟨kb,0,none⟩=some (ze zd kk)) (iZ:w.heap[cb]? =some (zg #[ze zd n,za a zl ac,za ao ko co,za av kv cv,ze zd fine] 30 (0,0))):
 Zc zh 112 #[.agg #[za ra nR rc,za la l lc],ze zd ni,.pointer (some ⟨kb,0,none⟩),.pointer (some ⟨cb,0,none⟩)] w (yg5 n fine zs os vs ko kv S P last ra nR rc la l lc R L w):=by
 have B0:Zb (Za w.heap.size w ((w.alloc (zg #[za ra nR rc,za la l lc] 33)).alloc (zg #[za none 0 0,za none 0 0] 33))):=(zP _).alloc (by simp) _;have P0:Zb (((w.alloc (zg #[za ra nR rc,za la l lc] 33)).alloc (zg #[za none 0 0,za none 0 0] 33)).heap[w.heap.size]? =some (zg #[za ra nR rc,za la l lc] 33 (0,0))):=xm _ _ _;have Q0:Zb (((w.alloc (zg #[za ra nR rc,za la l lc] 33)).alloc (zg #[za none 0 0,za none 0 0] 33)).heap[w.heap.size+1]? =some (zg #[za none 0 0,za none 0 0] 33 (0,0))):=xh _ _ _;have HA:=za4 hA;have HO:=za4 hO;have HV:=za4 hV;have HR:=za4 hR;have HL:=za4 hL;have HI:=za4 hI;have HD:=za4 hd;have HP:=za4 hp;have HC:=za4 hc;have eZ:=za4 KQ;have fb:=za4 jt;have iI:=za4 ip;have HM:=za4 hm;have oB:=za4 hN;have iL:=za4 hn;have dS:=za4 hl;have fs:=za4 dA;have cU:=za4 iZ;have SB:Zb (∀W,Za w.heap.size w W->Zc zh 113 #[.agg #[za ra nR rc,za la l lc]] W fun e w'=>∃sl,e=.returned sl/\Za W.heap.size W w'/\w'.ownsRow W.heap.size 2 1 sl N (S.map (ze zd))):=fun W hW=>by
  have aL:(zb0 R R.length).length<=12:=by rw[<-zo4,hS,hN];omega
  have h:=z99 ra la rc l lc R W (HR.X.below hW) (by have:=HI.X.ln;omega) (fun j hj=>HI.X.ne _ (zh7 hj)) HI.X.nd aL;rw[hS,hN,hn]at h;exact h
 have PK:Zb (∀W,Zc zh 114 #[ze zd ni,ze zd N,ze zd K] W fun e w'=>∃sl,e=.returned (.tuple #[sl,ze zd last])/\Za W.heap.size W w'/\w'.ownsRow W.heap.size 2 1 sl m (P.map (ze zd))):=fun W=>by
  have h:=zK4 ni N K W;rw[kQ,hP,hm]at h;refine h.mono ?_;rintro e w' ⟨sl,he,hb,_,ho⟩;exact⟨sl,he,hb,ho⟩
 have Cj:Zb (∀W (ag ak:Option Zd) (n2 ai l2 aj:Nat) (R2:List RT) (L2:List Int),Za w.heap.size w W->za9 W ag R2->R2.length=n2->za3 W ak L2->L2.length=l2->LvI S P L.length m R2 L2->R2.map RT.key=(lvF S P R L m).1.map RT.key->L2=(lvF S P R L m).2->(∀r∈R2,r.ids.length<=r.c)->Zc zh 47 #[.agg #[ze zd n,za a zl ac,za ao ko co,za av kv cv,ze zd fine],.agg #[za ag n2 ai,za ak l2 aj]] W fun e w'=>e=.returned (ze zd (zc1 n zs os vs ko kv fine (lvF S P R L m).1 (lvF S P R L m).2))/\Za W.heap.size W w'):=fun W ag ak n2 ai l2 aj R2 L2 hW h1 h2 h3 h4 h5 h6 h7 h8=>by
  have cT:(zb0 R2 R2.length).length<=1048576:=by
   rw[zb8];have:=zP3 R2 h5.sm;have:=h5.ln;omega
  have h:=zA8 n fine a ao av ag ak ac ko co kv cv ai aj zs os vs L2 R2 W (HA.X.below hW) (HO.X.below hW) (HV.X.below hW) h1 h3 an au aA aB (by have:=h5.ln;omega) (fun r hr=>by have:=h5.sm r hr;omega) h8 (by rw[h5.ll];omega) cT (by rw[h7];exact iI.X) bU;rw[vz,h2,h4,zd5 L2 h6]at h;rw[<-h7];exact h
 clear hA hO hV an au aA aB bU hR hn hL hl KQ jt hc hS hN hP hm kQ hI hd hp ip dA iZ vz;generalize hF:lvF S P R L m=F at Cj iI;have HF:=za4 hF;clear hF iI;obtain⟨pv,cE⟩:=nmd (zc1 n zs os vs ko kv fine F.1 F.2);rw[cE.X]at Cj;obtain⟨p1,p2⟩:=za1 P0.X;go_enter Tryz.func112,Tryz.ntmps112
 go_wp2_with fail
 clear p1 p2;generalize(w.alloc _).alloc _=W0 at*;obtain⟨q,HQ⟩:=nmd w.heap.size;obtain⟨q1,gI⟩:=nmd (w.heap.size+1);rw[gI.X]at Q0⊢;rw[HQ.X]at P0
 try rw[HQ.X]
 refine(SB.X W0 B0.X).mono ?_;rintro e w1 ⟨sl,rfl,hb,ho⟩;obtain⟨sa,sc,bh⟩:=zg7 ho;subst bh;have B1:=za4 (B0.X.trans (hb.mono B0.X.size));have P1:=za4 (za0 hb (za2 P0.X) P0.X);have Q1:=za4 (za0 hb (za2 Q0.X) Q0.X);have S1:Zb (za3 w1 sa S):=ze8 ho;clear hb ho B0 P0 Q0 SB;have kc:=keepL fs.X B1.X
 go_wp2_with fail
 clear kc;refine(PK.X w1).mono ?_;rintro e w2 ⟨Qo,rfl,hb,ho⟩;obtain⟨pa,pc,bh⟩:=zg7 ho;subst bh;have B2:=za4 (B1.X.trans (hb.mono B1.X.size));have P2:=za4 (za0 hb (za2 P1.X) P1.X);have Q2:=za4 (za0 hb (za2 Q1.X) Q1.X);have S2:=za4 (S1.X.below hb);have O2:Zb (za3 w2 pa P):=ze8 ho;clear hb ho B1 P1 Q1 S1 PK;have D3:Zb (DL w2 (w2.alloc (zg #[za ra nR rc,za la l lc] 33)) S P R L ra la 0 ra nR rc la l lc R L):=by
  have h2:Za w2.heap.size w2 (w2.alloc (zg #[za ra nR rc,za la l lc] 33)):=zP _;have hw:=B2.X.trans (h2.mono B2.X.size);exact⟨h2,zS _ _,HR.X.below hw,iL.X,HL.X.below hw,dS.X,HI.X,rfl,rfl,eZ.X,fb.X,HC.X,fun _ _ h=>h⟩
 obtain⟨p1,p2⟩:=za1 P2.X
 go_wp2_with fail
 clear p1 p2;generalize w2.alloc _=W3 at*;go_loopw[32] (fun t wr=>∃(i:Nat) (ag:Option Zd) (n2 ai:Nat) (ak:Option Zd) (l2 aj:Nat) (R2:List RT) (L2:List Int),i<=m/\t=ze zd i/\DL w2 wr S P R L ra la i ag n2 ai ak l2 aj R2 L2) (fun t _=>m - (intOf t).toNat)
 case atStart=>exact⟨0,ra,nR,rc,la,l,lc,R,L,xi _,rfl,D3.X⟩
 case round=>
  clear D3;obtain⟨i,ag,n2,ai,ak,l2,aj,R2,L2,hi,rfl,hD⟩:=hrel;have DR:=za4 hD;clear hD;by_cases ah:i<m
  ·have ek:(i:Int)<(m:Int):=by omega
   obtain⟨pk,wu⟩:=xp (HP.X i ah).1;have Ar:=za4 wu;have Fa:pk<N:=by have:=(HP.X i ah).2;omega
   clear wu;obtain⟨bp,op,DW,jJ⟩:=(O2.X.below DR.X.b) i (by rw[HM.X];exact ah);obtain⟨bs,Nx,Hq,cw⟩:=(S2.X.below DR.X.b) pk (by rw[oB.X];exact Fa);subst DW;subst Hq;rw[Ar.X]at jJ;have HX:Zb (S.getD pk 0=pkd S P i):=by show _=_;unfold pkd;rw[Ar.X];rfl
   rw[HX.X]at cw;obtain⟨k,at_,hk,a_,gV,be,cz⟩:=DR.X.iv.at (DR.X.iv.mm i (zT _) (by rw[HM.X];exact ah));have LV:Zb (∀W,Za wr.heap.size wr W->Zc zh 115 #[.agg #[za ag n2 ai,za ak l2 aj],ze zd (pkd S P i)] W (zJ5 W R2 L2 (pkd S P i) (R2.getD k rt0) at_)):=fun W hW=>by
    have D:=DR.X.below hW;have dh:=D.iv.ll;rw[dS.X]at dh;have f_:=D.ln;exact yg1 ag ak n2 ai l2 aj k R2 L2 (pkd S P i) W D.r D.rn (by have:=D.iv.ln;have:=D.rn;omega) D.iv.rs D.fr D.s D.ln (by omega) (yf7 D.iv.up) D.fl (fun j hj=>D.iv.sm _ (zh7 hj)) hk a_ at_ gV be
   have Hp:Zb (∀W e w1,Za wr.heap.size wr W->zJ5 W R2 L2 (pkd S P i) (R2.getD k rt0) at_ e w1->∃(bK:Option Zd) (n3 bV:Nat) (fU:Option Zd) (l3 bY:Nat) (R3:List RT) (L3:List Int),e=.returned (.agg #[za bK n3 bV,za fU l3 bY])/\Za W.heap.size W w1/\DL w2 ((w1.setCell ⟨w2.heap.size,0,none⟩ (za bK n3 bV)).setCell ⟨w2.heap.size,1,none⟩ (za fU l3 bY)) S P R L ra la (i+1) bK n3 bV fU l3 bY R3 L3):=fun W e w1 hW ht=>(DR.X.below hW).step HD.X (by rw[HM.X];exact ah) hk be cz ht
   clear hk a_ gV be cz;obtain⟨x,g_⟩:=nmd (pkd S P i);rw[g_.X]at cw LV Hp;obtain⟨y0,y1⟩:=za1 DR.X.x;have z0:=fun s:Kin wr=>s.cell y0;have z1:=fun s:Kin wr=>s.cell y1;have z2:=fun s:Kin wr=>s.cell cw;have aV:=Kin.there wr
   go_wp2_with fail
   refine zm5 5 (by kernel_rfl) (by kernel_rfl) ?_;simp only[List.take_succ_cons,qM,List.drop_succ_cons,List.drop_zero]
   repeat(go_big_quiet_step (fail))
   refine xA ?_;rintro _ ⟨s,rfl⟩;clear z0 z1 z2 aV y0 y1 jJ cw;have BS:=za4 (s.below);generalize s.w=w5 at*
   go_wp2_with fail
   refine(LV.X w5 BS.X).mono ?_;intro e w6 ht;obtain⟨bK,n3,bV,fU,l3,bY,R3,L3,rfl,iy,va⟩:=Hp.X w5 e w6 BS.X ht;have D6:=za4 va;have X6:Zb (w6.heap[w2.heap.size]? =some (zg #[za ag n2 ai,za ak l2 aj] 33 (0,0))):=by
    have h5:=za0 BS.X (za2 DR.X.x) DR.X.x;exact za0 iy (za2 h5) h5
   clear ht iy va LV Hp BS DR;obtain⟨y0,y1⟩:=za1 X6.X;have yf:=fun i=>yZ _ _ i _ _ X6.X;go_wp2
   first
    |exact⟨⟨i+1,bK,n3,bV,fU,l3,bY,R3,L3,by omega,by go_num,D6.X⟩,by simp[intOf];omega⟩
    |(go_roundw
      case rel=>exact⟨i+1,bK,n3,bV,fU,l3,bY,R3,L3,by omega,by go_num,D6.X⟩
      case measure=>simp[intOf];omega)
  ·have oI:i=m:=by omega
   subst oI;have aX:¬((i:Int)<(i:Int)):=by omega
   clear ah;have B5:=za4 (B2.X.trans (DR.X.b.mono B2.X.size));obtain⟨c0,c1,c2,c3,c4⟩:=za7 (za0 B5.X (za2 cU.X) cU.X);obtain⟨y0,y1⟩:=za1 DR.X.x;have PC:=Cj.X wr ag ak n2 ai l2 aj R2 L2 B5.X DR.X.r DR.X.rn DR.X.s DR.X.ln DR.X.iv (by rw[<-HF.X];exact DR.X.kr) (by rw[<-HF.X];exact DR.X.kl) DR.X.c
   go_wp2_with fail
   clear c0 c1 c2 c3 c4 y0 y1;refine PC.mono ?_;rintro e w7 ⟨rfl,jQ⟩;have D7:=za4 (DR.X.below jQ);have B7:=za4 (B2.X.trans (D7.X.b.mono B2.X.size));have P7:=za4 (za0 D7.X.b (za2 P2.X) P2.X);have Q7:=za4 (za0 D7.X.b (za2 Q2.X) Q2.X);have pV:w.heap.size<=q1:=by have:=gI.X;omega
   clear jQ PC Cj DR B5 P2 Q2 S2 O2;obtain⟨v0,v1⟩:=za1 Q7.X;have vf:=fun i=>yZ _ _ i _ _ Q7.X;by_cases hz:pv=0
   ·have ba:(pv !=0)=false:=by rw[hz];rfl
    have bF:((w7.setCell ⟨q1,0,none⟩ (za ag n2 ai)).setCell ⟨q1,1,none⟩ (za ak l2 aj)).heap[q1]? =some (zg #[za ag n2 ai,za ak l2 aj] 33 (0,0)):=by
     have:=xb _ q1 1 _ _ (za ak l2 aj) (xb w7 q1 0 _ _ (za ag n2 ai) Q7.X);simpa using this
    have mE:Zb (yg5 n fine zs os vs ko kv S P last ra nR rc la l lc R L w (.returned (.tuple #[.agg #[za ag n2 ai,za ak l2 aj],ze zd last,.bool true])) ((w7.setCell ⟨q1,0,none⟩ (za ag n2 ai)).setCell ⟨q1,1,none⟩ (za ak l2 aj))):=by
     have ci:(w7.setCell ⟨q1,0,none⟩ (za ag n2 ai)).heap[q1]? =some (zg #[za ag n2 ai,za none 0 0] 33 (0,0)):=by
      have:=xb w7 q1 0 _ _ (za ag n2 ai) Q7.X;simpa using this
     refine⟨(B7.X.setCell pV _).setCell pV _,.inl ⟨by rw[HM.X,HF.X];exact cE.X.trans hz,ag,n2,ai,ak,l2,aj,R2,L2,rfl,ze7 (ze7 D7.X.r Q7.X 0 _) ci 1 _,D7.X.rn,zj1 (zj1 D7.X.s Q7.X 0 _) ci 1 _,D7.X.ln,by rw[HM.X];exact D7.X.kr,by rw[HM.X];exact D7.X.kl,by rw[HM.X];exact D7.X.iv,D7.X.fl,D7.X.fr,D7.X.c,fun k hk=>D7.X.o k (by have:=B2.X.size;omega)⟩⟩
    obtain⟨r0,r1⟩:=za1 bF;obtain⟨y0,y1⟩:=za1 D7.X.x;clear D7 B7 P7 Q7 bF;go_wp2;exact xe (v:=.tuple #[.agg #[za ag n2 ai,za ak l2 aj],ze zd last,.bool true]) (by simp[results,Tryz.results112,go_sem,r0,r1]) rfl mE.X
   ·have ba:(pv !=0)=true:=by simp[hz]
    have bF:((w7.setCell ⟨q1,0,none⟩ (za ra nR rc)).setCell ⟨q1,1,none⟩ (za la l lc)).heap[q1]? =some (zg #[za ra nR rc,za la l lc] 33 (0,0)):=by
     have:=xb _ q1 1 _ _ (za la l lc) (xb w7 q1 0 _ _ (za ra nR rc) Q7.X);simpa using this
    have mE:Zb (yg5 n fine zs os vs ko kv S P last ra nR rc la l lc R L w (.returned (.tuple #[.agg #[za ra nR rc,za la l lc],ze zd last,.bool false])) ((w7.setCell ⟨q1,0,none⟩ (za ra nR rc)).setCell ⟨q1,1,none⟩ (za la l lc))):=
     ⟨(B7.X.setCell pV _).setCell pV _,.inr ⟨by rw[HM.X,HF.X,cE.X];exact hz,rfl⟩⟩
    obtain⟨r0,r1⟩:=za1 bF;obtain⟨y0,y1⟩:=za1 P7.X;clear D7 B7 P7 Q7 bF;go_wp2;exact xe (v:=.tuple #[.agg #[za ra nR rc,za la l lc],ze zd last,.bool false]) (by simp[results,Tryz.results112,go_sem,r0,r1]) rfl mE.X
def z19(w:zi)(v:Int)(f:Bool)(T:List RT)(L:List Int)(e:Ending)(w':zi):Prop:=∃ra rn rc la ln lc S,e=.returned (.tuple #[.agg #[za ra rn rc,za la ln lc],ze zd v,.bool f])/\Za w.heap.size w w'/\S.length=rn/\L.length=ln/\S.map RT.key=T.map RT.key/\PO w' w.heap.size (za ra rn rc) S (za la ln lc) L/\(f=true->∃g,la=some ⟨g,0,none⟩)
theorem y45{sd kk n fine:Int}{zs os vs:List Int}{ko kv:Nat}{R:List RT}{L:List Int}(h:deB sd kk n fine zs os vs ko kv R L=true):deN sd kk n fine zs os vs ko kv R L=z77 sd (deS R).length (min kk ((deS R).length:Int))/\(deW sd kk n fine zs os vs ko kv R L=0->deF sd kk n fine zs os vs ko kv R L=true/\deR sd kk n fine zs os vs ko kv R L=(deQ sd kk R L).1/\deL sd kk n fine zs os vs ko kv R L=(deQ sd kk R L).2)/\(deW sd kk n fine zs os vs ko kv R L≠0->deF sd kk n fine zs os vs ko kv R L=false/\deR sd kk n fine zs os vs ko kv R L=R/\deL sd kk n fine zs os vs ko kv R L=L):=by
 unfold deN deF deR deL;rw[h];refine⟨rfl,fun hw=> ?_,fun hw=> ?_⟩
 ·simp[hw]
 ·simp[hw]
theorem zB9(sd kk n fine:Int)(a ao av ra la:Option Zd)(zl ac ko co kv cv nr rc ln lc:Nat)(zs os vs L:List Int)(R:List RT)(w:zi)(hA:za3 w a zs)(hO:za3 w ao os)(hV:za3 w av vs)(aN:zs.length=zl)(an:os.length=ko*6)(au:vs.length=kv*5)(aA:ko<=9223372036854775807)(aB:kv<=9223372036854775807)(hP:zc3 w ra (la) nr ln R L)(hn:nr<=1048576)(hi:∀r∈R,r.ids.length<=1048576)(dh:ln<=1048576)(cT:(zb0 R R.length).length<=1048576):
 Zc zh 42 #[.agg #[ze zd n,za a zl ac,za ao ko co,za av kv cv,ze zd fine],.agg #[za ra nr rc,za (la) ln lc],ze zd sd,ze zd kk] w (z19 w (deN sd kk n fine zs os vs ko kv R L) (deF sd kk n fine zs os vs ko kv R L) (deR sd kk n fine zs os vs ko kv R L) (deL sd kk n fine zs os vs ko kv R L)):=by
 have HA:=za4 hA;have HO:=za4 hO;have HV:=za4 hV;have ck:=za4 aN;have aF:=za4 an;have aE:=za4 au;have HP:=za4 hP;have HN:Zb (R.length=nr):=hP.1;have HM:Zb (L.length=ln):=hP.2.1;have HI:=za4 hi;clear hA hO hV aN an au hP hi;obtain⟨pv,cE⟩:=nmd (zc1 n zs os vs ko kv fine R L);obtain⟨k1,df⟩:=nmd (inB kk 0 12);obtain⟨s1,d_⟩:=nmd (inB sd 0 2147483647);have d6:Zb (deB sd kk n fine zs os vs ko kv R L=(decide (pv=0)&&(k1&&s1))):=by show _=_;unfold deB;rw[cE.X,df.X,d_.X]
 have bA:Zb (deB sd kk n fine zs os vs ko kv R L=false->deN sd kk n fine zs os vs ko kv R L= -1/\deF sd kk n fine zs os vs ko kv R L=false/\deR sd kk n fine zs os vs ko kv R L=[]/\deL sd kk n fine zs os vs ko kv R L=[]):=fun h=>by
  unfold deN deF deR deL;rw[h];exact⟨rfl,rfl,rfl,rfl⟩
 have gL:Zb (deB sd kk n fine zs os vs ko kv R L=true->_):=fun h=>y45 h;obtain⟨GN,tA⟩:=nmd (deN sd kk n fine zs os vs ko kv R L);obtain⟨GF,Ei⟩:=nmd (deF sd kk n fine zs os vs ko kv R L);obtain⟨GR,cB⟩:=nmd (deR sd kk n fine zs os vs ko kv R L);obtain⟨GL,da⟩:=nmd (deL sd kk n fine zs os vs ko kv R L);rw[tA.X,Ei.X,cB.X,da.X]at bA gL;rw[tA.X,Ei.X,cB.X,da.X];clear tA Ei cB da;have Q0:Zb (GQ w (((w.alloc (zg #[ze zd n,za a zl ac,za ao ko co,za av kv cv,ze zd fine] 30)).alloc (zg #[za ra nr rc,za (la) ln lc] 33)).alloc (zg #[za none 0 0,za none 0 0] 33)) #[ze zd n,za a zl ac,za ao ko co,za av kv cv,ze zd fine] #[za ra nr rc,za (la) ln lc]):=by
  refine⟨((zP _).alloc (by simp) _).alloc (by simp;omega) _,?_,?_,?_⟩
  ·exact(xg _ _ (by simp;omega)).trans (xm _ _ _)
  ·exact(xg _ _ (by simp)).trans (xh _ _ _)
  ·have:=zS ((w.alloc (zg #[ze zd n,za a zl ac,za ao ko co,za av kv cv,ze zd fine] 30)).alloc (zg #[za ra nr rc,za (la) ln lc] 33)) (zg #[za none 0 0,za none 0 0] 33)
   simpa using this
 have pt:Zb (∀W,Za w.heap.size w W->Zc zh 38 #[.agg #[ze zd n,za a zl ac,za ao ko co,za av kv cv,ze zd fine],.agg #[za ra nr rc,za (la) ln lc]] W fun e w'=>e=.returned (ze zd pv)/\Za W.heap.size W w'):=fun W hW=>by
  have PC:=zi9 n fine a ao av ra (la) ac ko co kv cv rc lc zs os vs L R W (HA.X.below hW) (HO.X.below hW) (HV.X.below hW) (HP.X.2.2.1.below hW) (HP.X.2.2.2.1.below hW) aF.X aE.X aA aB (by rw[HN.X];exact hn) HI.X HP.X.2.2.2.2.2.2 (by rw[HM.X];exact dh) cT;rw[HN.X,HM.X,ck.X,cE.X]at PC;exact PC
 obtain⟨c0,c1,c2,c3,c4⟩:=za7 Q0.X.c;obtain⟨p0,p1⟩:=za1 Q0.X.p;go_enter Tryz.func42,Tryz.ntmps42
 go_wp2_with fail
 generalize((w.alloc _).alloc _).alloc _=W0 at*;refine(pt.X W0 Q0.X.b).mono ?_;rintro e w1 ⟨rfl,hb⟩;have Q1:=za4 (Q0.X.below hb);clear hb c0 c1 c2 c3 c4 p0 p1 Q0;obtain⟨a0,a1⟩:=za1 Q1.X.o;have af:=fun i=>yZ _ _ i _ _ Q1.X.o;by_cases dv:pv=0
 ·rw[zW dv,ji]at d6
  have sy:(pv !=0)=false:=by simp[dv]
  cases k1
  ·have B5:Zb (Za w.heap.size w ((w1.setCell ⟨w.heap.size+2,0,none⟩ (za none 0 0)).setCell ⟨w.heap.size+2,1,none⟩ (za none 0 0))):=(Q1.X.b.setCell (by simp) _).setCell (by simp) _
   obtain⟨g1,g2,g3,g4⟩:=bA.X (by rw[d6.X];try rfl);subst g1 g2 g3 g4;clear bA
   go_wp2_with((go_at_call 39;refine(zc0 _ _ _ _).mono ?_;rintro e w' ⟨rfl,dz⟩;subst w';first|rw[df.X]|rw[d_.X]))
   refine xe (v:=.tuple #[.agg #[za none 0 0,za none 0 0],ze zd (-1),.bool false]) (by simp[results,Tryz.results42,go_sem,a0,a1]) rfl ?_;show z19 _ _ _ _ _ _ _;exact⟨none,0,0,none,0,0,[],rfl,B5.X,rfl,rfl,rfl,⟨xZ _ _ _ _,(fun s hs=>by cases hs),xZ _ _ _ _⟩,fun h=>by cases h⟩
  ·cases s1
   ·have B5:Zb (Za w.heap.size w ((w1.setCell ⟨w.heap.size+2,0,none⟩ (za none 0 0)).setCell ⟨w.heap.size+2,1,none⟩ (za none 0 0))):=(Q1.X.b.setCell (by simp) _).setCell (by simp) _
    obtain⟨g1,g2,g3,g4⟩:=bA.X (by rw[d6.X];try rfl);subst g1 g2 g3 g4;clear bA
    go_wp2_with((go_at_call 39;refine(zc0 _ _ _ _).mono ?_;rintro e w' ⟨rfl,dz⟩;subst w';first|rw[df.X]|rw[d_.X]))
    refine xe (v:=.tuple #[.agg #[za none 0 0,za none 0 0],ze zd (-1),.bool false]) (by simp[results,Tryz.results42,go_sem,a0,a1]) rfl ?_;show z19 _ _ _ _ _ _ _;exact⟨none,0,0,none,0,0,[],rfl,B5.X,rfl,rfl,rfl,⟨xZ _ _ _ _,(fun s hs=>by cases hs),xZ _ _ _ _⟩,fun h=>by cases h⟩
   ·have D0:=zO6 (sd:=sd) (kk:=kk) (cE.X.trans dv) df.X d_.X
    have EN:∀W,Za w.heap.size w W->_:=fun W hW=>zs3 n fine a ao av ra (la) ac ko co kv cv rc lc zs os vs L R W (HP.X.2.2.1.below hW) (by rw[HN.X];exact hn) HP.X.2.2.2.2.2.2 pv cE.X (fun X hX=>by rw[ck.X,HN.X,HM.X];exact pt.X X (hW.trans (hX.mono hW.size)))
    have mj:zi7 n zs os vs ko kv fine R L=deS R:=by unfold zi7;rw[z7 (cE.X.trans dv)];rfl
    have fm:=gL.X d6.X;have Kh:∀W (ag ak:Option Zd) (n2 ai l2 aj:Nat) (R2:List RT) (L2:List Int),Za w.heap.size w W->za9 W ag R2->R2.length=n2->za3 W ak L2->L2.length=l2->(∀r∈R2,r.ids.length<=12/\r.ids.length<=r.c)->n2<=100->l2<=100->(zb0 R2 R2.length).length<=1048576->R2.map RT.key=(deQ sd kk R L).1.map RT.key->L2=(deQ sd kk R L).2->Zc zh 38 #[.agg #[ze zd n,za a zl ac,za ao ko co,za av kv cv,ze zd fine],.agg #[za ag n2 ai,za ak l2 aj]] W fun e w'=>e=.returned (ze zd (deW sd kk n fine zs os vs ko kv R L))/\Za W.heap.size W w':=fun W ag ak n2 ai l2 aj R2 L2 hW h1 h2 h3 h4 h5 h6 h7 h8 h9 Fo=>by
     have PC:=zi9 n fine a ao av ag ak ac ko co kv cv ai aj zs os vs L2 R2 W (HA.X.below hW) (HO.X.below hW) (HV.X.below hW) h1 h3 aF.X aE.X aA aB (by omega) (fun r hr=>by have:=(h5 r hr).1;omega) (fun r hr=>(h5 r hr).2) (by omega) h8;rw[h2,h4,ck.X,zd5 L2 h9,Fo]at PC;exact PC
    clear bA gL d6 pt a0 a1 af;have hQ:deQ sd kk R L=lvF (deS R) (deP sd kk R) R L (deP sd kk R).length:=rfl;have IF:deP sd kk R=zs4 sd (deS R).length (min kk ((deS R).length:Int)):=rfl;obtain⟨i1,i2,i3,i4,i5,i6,-⟩:=D0;rw[mj]at EN;generalize deW sd kk n fine zs os vs ko kv R L=pw at*;generalize deQ sd kk R L=Q at*;generalize deP sd kk R=P at*;generalize deS R=S at*;have SV:Zb (∀W,Za w.heap.size w W->Zc zh 90 #[.agg #[ze zd n,za a zl ac,za ao ko co,za av kv cv,ze zd fine],.agg #[za ra nr rc,za (la) ln lc]] W fun e w'=>∃sl,e=.returned sl/\Za W.heap.size W w'/\w'.ownsRow W.heap.size 2 1 sl S.length (S.map (ze zd))):=fun W hW=>by
     have:=EN W hW;rw[ck.X,HN.X,HM.X]at this;exact this
    have PK:Zb (∀W,Zc zh 91 #[ze zd sd,ze zd S.length,ze zd (min kk (S.length:Int))] W fun e w'=>∃sl,e=.returned (.tuple #[sl,ze zd GN])/\Za W.heap.size W w'/\w'.ownsRow W.heap.size 2 1 sl P.length (P.map (ze zd))):=fun W=>by
     have h:=zJ9 sd S.length (min kk (S.length:Int)) W;rw[<-IF,<-fm.1]at h;exact h
    have NW:Zb (pw=0->GF=true/\GR=Q.1/\GL=Q.2):=fm.2.1;have Fg:Zb (pw≠0->GF=false/\GR=R/\GL=L):=fm.2.2;have vD:Zb (∀W,Za w.heap.size w W->Zc zh 40 #[.agg #[za ra nr rc,za (la) ln lc]] W (y21 W R L)):=fun W hW=>by
     have:=zy5 ra la rc lc R L W (HP.X.2.2.1.below hW) (HP.X.2.2.2.1.below hW) (by rw[HM.X];exact HP.X.2.2.2.2.2.1) (by omega) (fun r hr=>⟨i1.ne r hr,by have:=i1.sm r hr;omega⟩) (by omega);rw[HN.X,HM.X]at this;exact this
    have KO:Zb _:=Kh;have IV:=za4 i1;have ID:=za4 i2;have HQ:=za4 hQ;have l_:=za4 i3;clear EN Kh mj fm hQ IF i1 i2 i3;obtain⟨N,eG⟩:=nmd S.length;obtain⟨m,wg⟩:=nmd P.length;rw[eG.X]at SV PK l_ i4 i5;rw[wg.X]at PK ID HQ l_ i4;rw[HM.X]at i5;rw[HN.X]at i6;have PQ:min kk (N:Int)=min kk (N:Int):=rfl;obtain⟨K,o7⟩:∃v,min kk (N:Int)=v:=⟨_,rfl⟩;clear PQ;rw[o7]at PK;obtain⟨c0,c1,c2,c3,c4⟩:=za7 Q1.X.c;obtain⟨p0,p1⟩:=za1 Q1.X.p
    go_wp2_with(go_at_call 39;refine(zc0 _ _ _ _).mono ?_;rintro e w' ⟨rfl,dz⟩;subst w';first|rw[df.X]|rw[d_.X])
    refine(SV.X w1 Q1.X.b).mono ?_;rintro e w2 ⟨sl,rfl,hb,ho⟩;obtain⟨sa,sc,bh⟩:=zg7 ho;subst bh;have Q2:=za4 (Q1.X.below hb);have S2:Zb (za3 w2 sa S):=ze8 ho;clear hb ho Q1 SV c0 c1 c2 c3 c4 p0 p1
    go_wp2_with fail
    refine(PK.X w2).mono ?_;rintro e w3 ⟨sl,rfl,hb,ho⟩;obtain⟨pa,pc,bh⟩:=zg7 ho;subst bh;have Q3:=za4 (Q2.X.below hb);have S3:=za4 (S2.X.below hb);have O3:Zb (za3 w3 pa P):=ze8 ho;clear hb ho Q2 S2 PK;obtain⟨p0,p1⟩:=za1 Q3.X.p
    go_wp2_with fail
    refine(vD.X w3 Q3.X.b).mono ?_;rintro e w4 ⟨aW,bj,oa,bq,R4,rfl,hb,eK,ho⟩;rw[HN.X,HM.X]at ho⊢;have Q4:=za4 (Q3.X.below hb);have S4:=za4 (S3.X.below hb);have O4:=za4 (O3.X.below hb);have D4:Zb (DS w4 (w4.alloc (zg #[za aW nr bj,za (some ⟨oa,0,none⟩) ln bq] 33)) (w.heap.size+3) S P R L 0 aW nr bj oa ln bq R4 L):=by
     have h2:Za w4.heap.size w4 (w4.alloc (zg #[za aW nr bj,za (some ⟨oa,0,none⟩) ln bq] 33)):=zP _;refine⟨h2,zS _ _,(ho.base (by have:=Q3.X.size;omega)).below h2,by rw[<-HN.X];have:=congrArg zo eK;simpa using this,HM.X,IV.X.key eK,eK,rfl⟩
    clear hb ho eK Q3 S3 O3 p0 p1
    go_wp2_with fail
    have aU:Zb (w.heap.size+3<=w4.heap.size):=Q4.X.size;generalize w4.alloc _=W5 at*;obtain⟨kb,fs⟩:=nmd w4.heap.size;rw[fs.X];go_loopw[15] (fun t wr=>∃(i:Nat) (ag:Option Zd) (n2 ai bT l2 aj:Nat) (R2:List RT) (L2:List Int),i<=m/\t=ze zd i/\DS w4 wr (w.heap.size+3) S P R L i ag n2 ai bT l2 aj R2 L2) (fun t _=>m - (intOf t).toNat)
    case atStart=>exact⟨0,aW,nr,bj,oa,ln,bq,R4,L,xi _,rfl,D4.X⟩
    case round=>
     clear D4;obtain⟨i,ag,n2,ai,bT,l2,aj,R2,L2,hi,rfl,hD⟩:=hrel;obtain⟨wo,MR⟩:∃v,v=wr:=⟨_,rfl⟩;subst MR;have DR:=za4 hD;clear hD;by_cases ah:i<m
     ·have ek:(i:Int)<(m:Int):=by omega
      obtain⟨pk,wu⟩:=xp (l_.X i ah).1;have Ar:=za4 wu;have Fa:pk<N:=by have:=(l_.X i ah).2;omega
      clear wu;obtain⟨bp,op,DW,jJ⟩:=(O4.X.below DR.X.b) i (by rw[wg.X];exact ah);obtain⟨bs,Nx,Hq,cw⟩:=(S4.X.below DR.X.b) pk (by rw[eG.X];exact Fa);subst DW;subst Hq;rw[Ar.X]at jJ;have HX:Zb (S.getD pk 0=pkd S P i):=by show _=_;unfold pkd;rw[Ar.X];rfl
      rw[HX.X]at cw;obtain⟨k,hk,be,a_⟩:=zH6 (DR.X.iv.mm i (zT _) (by rw[wg.X];exact ah));obtain⟨x,g_⟩:=nmd (pkd S P i);rw[g_.X]at cw be a_;have gi:=za4 be;have bA:=za4 a_;have iL:Zb (R2.length=n2):=DR.X.rn;have cL:k<n2:=by rw[<-iL.X];exact hk
      have Ll:n2<=100:=by have:=DR.X.iv.ln;have:=iL.X;omega
      have f_:l2<=50:=by have h1:=DR.X.ln;have h2:=DR.X.iv.ll;have h3:=HM.X;omega
      clear be a_ hk
      go_wp2_with fail
      clear jJ cw;go_loopw[17] (fun t wx=>∃j:Nat,j<=k/\t=ze zd j/\Za wo.heap.size wo wx) (fun t _=>k+1 - (intOf t).toNat)
      case atStart=>exact⟨0,xi _,rfl,y5 _ _⟩
      case round=>
       obtain⟨j,hj,rfl,gY⟩:=hrel;obtain⟨wx,Gb⟩:∃v,v=wr:=⟨_,rfl⟩;subst Gb;have DX:=za4 (DR.X.below gY);have BX:=za4 gY;clear gY;have B':(j:Int)<(n2:Int):=by omega
       obtain⟨b,off,e,r1,r2,r3⟩:=(zI6 DX.X.o iL.X) j (by rw[iL.X];omega);subst e;have R3:=za4 r3;obtain⟨d0,d1⟩:=za1 DX.X.x;rw[fs.X]at d0 d1;have fS:Zb ((R2.getD j rt0).ids.length<=12):=DX.X.iv.sm _ (zh7 (by rw[iL.X];omega));have sR:=zs9 (R2.getD j rt0).ids x;have L3:=zx0 (R2.getD j rt0).a (R2.getD j rt0).ids.length (R2.getD j rt0).c x (R2.getD j rt0).ids wx r3 (zT _) (by have:=fS.X;omega);rw[sR]at L3;by_cases Iu:j<k
       ·have a_:=bA.X j Iu
        rw[zX a_]at L3;clear R3;obtain⟨rt,dj⟩:=nmd (R2.getD j rt0);rw[dj.X]at r1 r2 L3;clear dj r3 fS sR a_;obtain⟨rl,cu⟩:=nmd rt.ids.length;rw[cu.X]at r2 L3
        go_wp2_with(go_at_call 87;refine L3.mono ?_;rintro e w' ⟨rfl,dz⟩;subst w')
        go_roundw
        case rel=>exact⟨j+1,by omega,by first|rfl|go_num,BX.X⟩
        case measure=>simp[intOf];omega
       ·have PG:j=k:=by omega
        subst PG;rw[zW gi.X]at L3;have aq:(R2.getD j rt0).ids≠[]:=fun h9=>by have h8:=gi.X;rw[h9]at h8;cases h8
        obtain⟨br,ur,er,-⟩:=r3 0 (xV.2 aq);have gZ:∀W,Za wx.heap.size wx W->_:=fun W hW=>z85 br ur (R2.getD j rt0).c (R2.getD j rt0).ids x W (by have:=R3.X.below hW;rw[er]at this;exact this) (by have:=fS.X;omega)
        have bI:R2.getD j rt0∈R2:=zh7 (by rw[iL.X];exact cL);have ia:∀W (g cg:Nat),Za wx.heap.size wx W->za3 W (some ⟨g,0,none⟩) (cutP (R2.getD j rt0).ids x)->_:=fun W g cg hW hX=>yr2 (some ⟨b,off,none⟩) n2 ai bT l2 aj g cg (cutP (R2.getD j rt0).ids x).length j R2 L2 x W DX.X.iv (by have:=DX.X.ln;omega) DX.X.ln iL.X (zI6 (DX.X.below hW).o iL.X) (yB7 (DX.X.below hW).o DX.X.ln) (by rw[iL.X];exact cL) gi.X rfl hX
        rw[er]at r2 L3;clear R3 r3 sR aq bI bA er;obtain⟨rt,dj⟩:=nmd (R2.getD j rt0);rw[dj.X]at r1 r2 L3 gZ ia;obtain⟨cl,jO⟩:=nmd ((cutP rt.ids x).length);obtain⟨rl,cu⟩:=nmd rt.ids.length;obtain⟨rv,bC⟩:=nmd rt.v;obtain⟨A_,bw⟩:=nmd rt.c;rw[cu.X,bw.X]at r2 L3;rw[bC.X]at r1;rw[cu.X,bw.X,jO.X]at gZ;rw[bC.X,jO.X]at ia;have Bd:Zb _:=gZ;have AE:Zb _:=ia;clear gZ ia fS dj;have oy:Zb (∀W,Za wx.heap.size wx W->(fun W=>W.cell? ⟨kb,0,none⟩=some (za (some ⟨b,off,none⟩) n2 ai)/\W.cell? ⟨kb,1,none⟩=some (za (some ⟨bT,0,none⟩) l2 aj)/\W.cell? ⟨b,off+j*2,none⟩=some (ze zd rv)/\W.cell? ⟨b,off+j*2+1,none⟩=some (za (some ⟨br,ur,none⟩) rl A_)) W):=fun W hW=>⟨keepL d0 hW,keepL d1 hW,keepL r1 hW,keepL r2 hW⟩;go_upto_region 14 with(go_at_call 87;refine L3.mono ?_;rintro e w' ⟨rfl,dz⟩;subst w')
        go_wp2_with fail
        refine ze4 (S:=(fun W=>W.cell? ⟨kb,0,none⟩=some (za (some ⟨b,off,none⟩) n2 ai)/\W.cell? ⟨kb,1,none⟩=some (za (some ⟨bT,0,none⟩) l2 aj)/\W.cell? ⟨b,off+j*2,none⟩=some (ze zd rv)/\W.cell? ⟨b,off+j*2+1,none⟩=some (za (some ⟨br,ur,none⟩) rl A_))) 17 (by kernel_rfl) ?_ fun aa=> ?_
        ·exact oy.X _ (y5 _ _).drew
        have BD:Zb (Za wx.heap.size wx wx.drew):=(y5 _ _).drew;generalize wx.drew=wd at*;refine tkZ 0 aa ?_;refine tkZ 1 aa ?_;refine tkZ 2 aa ?_;refine tkZ 3 aa ?_;refine tkZ 4 aa ?_;refine tkZ 5 aa ?_;refine tkZ 6 aa ?_;refine tkZ 7 aa ?_;refine tkZ 8 aa ?_;refine tkZ 9 aa ?_;refine tkZ 10 aa ?_;refine tkZ 11 aa ?_;refine tkZ 12 aa ?_;refine tkZ 13 aa ?_;refine rdZ 14 fun K hK=> ?_;go_simp;refine(Bd.X wd BD.X).mono ?_;rintro e w6 ⟨g,cg,rfl,hb,ho⟩;have B6:=za4 (BD.X.trans (hb.mono BD.X.size));have X6:Zb (za3 w6 (some ⟨g,0,none⟩) (cutP rt.ids x)):=ze8 ho;clear hb ho
        try rw[jO.X]
        (try go_wp2_with fail)
        refine hoW hK (oy.X _ B6.X) fun aa=> ?_;clear hK K;refine tkZ 15 aa ?_;refine rdZ 16 fun K hK=> ?_;go_simp;refine(AE.X w6 g cg B6.X X6.X).mono ?_;rintro e w7 ht;obtain⟨ju,n7,jC,g7,iJ,R7,rfl,jQ,hM⟩:=DX.X.mid aU.X B6.X ht;rw[fs.X]at hM;have M7:=za4 hM;have B7:=za4 jQ;have F7:=fun i=>yZ _ _ i _ _ (za0 jQ (by have:=za2 DX.X.x;rw[fs.X]at this;exact this) (by have:=DX.X.x;rw[fs.X]at this;exact this))
        obtain⟨f0,f1,-⟩:=oy.X w7 jQ;clear ht hM jQ
        (try go_wp2_with fail)
        refine hoW hK (oy.X _ B7.X) fun aa=> ?_;clear hK K;refine rdL 17 fun K hK=> ?_;go_simp;refine hK.out _ _ ?_;clear hK K;clear F7 f0 f1;generalize((w7.setCell ⟨kb,0,none⟩ _).setCell ⟨kb,1,none⟩ _)=w8 at*;refine zh4 (by kernel_rfl) ?_ _;clear aa Bd AE oy L3 r1 r2 d0 d1;have uy:l2<=iJ:=by have h9:=M7.X.o.l;rw[M7.X.ln]at h9;exact zy6 h9
        have Im:=zW6 g7 0 iJ L2 x w8 (yB7 M7.X.o M7.X.ln) (by have:=M7.X.ln;omega) (by rw[M7.X.ln];exact uy);rw[M7.X.ln]at Im;have M8:=M7.X.x;rw[fs.X]at M8;obtain⟨m0,m1⟩:=za1 M8
        go_wp2_with fail
        refine Im.mono ?_;rintro e w9 ⟨g9,c9,rfl,mo,iV⟩;have D9:Zb (DS w4 (w9.setCell ⟨kb,1,none⟩ (za (some ⟨g9,0,none⟩) (l2+1) c9)) (w.heap.size+3) S P R L (i+1) ju n7 jC g9 (l2+1) c9 R7 (zz3 L2 (pkd S P i))):=by
         have hM:=M7.X;rw[<-g_.X]at hM iV;have:=hM.put aU.X (by rw[wg.X];exact ID.X) (by rw[wg.X];exact ah) DX.X.iv DX.X.kr DX.X.kl mo iV;rw[fs.X]at this;exact this
        have X9:=za0 mo (za2 M8) M8;obtain⟨x0,x1⟩:=za1 X9;have xf:=fun i=>yZ _ _ i _ _ X9;clear mo iV Im m0 m1 M8 X9;go_wp2;go_roundw
        case rel=>exact⟨i+1,ju,n7,jC,g9,l2+1,c9,R7,zz3 L2 (pkd S P i),by omega,by first|rfl|go_num,D9.X⟩
        case measure=>simp[intOf];omega
     ·have ek:¬((i:Int)<(m:Int)):=by omega
      have tr:i=m:=by omega
      subst tr;have QW:=za4 (Q4.X.below DR.X.b);have Jb:=KO.X wo ag (some ⟨bT,0,none⟩) n2 ai l2 aj R2 L2 QW.X.b (zI6 DR.X.o DR.X.rn) DR.X.rn (yB7 DR.X.o DR.X.ln) DR.X.ln (fun r hr=>⟨DR.X.iv.sm r hr,(DR.X.o.ints r hr).2⟩) (by have:=DR.X.iv.ln;have:=DR.X.rn;omega) (by have:=DR.X.ln;have:=DR.X.iv.ll;have:=HM.X;omega) (by rw[zb8];have:=zP3 R2 DR.X.iv.sm;have:=DR.X.iv.ln;omega) (by rw[HQ.X];exact DR.X.kr) (by rw[HQ.X];exact DR.X.kl);obtain⟨c0,c1,c2,c3,c4⟩:=za7 QW.X.c;obtain⟨d0,d1⟩:=za1 DR.X.x;rw[fs.X]at d0 d1
      go_wp2_with fail
      refine Jb.mono ?_;rintro e w6 ⟨rfl,hb⟩;have Q6:=za4 (QW.X.below hb);have D6:=za4 (DR.X.below hb);clear hb Jb c0 c1 c2 c3 c4 d0 d1 QW DR KO;by_cases fP:pw=0
      ·obtain⟨g1,g2,g3⟩:=NW.X fP
       have ET:(pw !=0)=false:=by simp[fP]
       obtain⟨d0,d1⟩:=za1 D6.X.x;rw[fs.X]at d0 d1;obtain⟨a0,a1⟩:=za1 Q6.X.o;have af:=fun i=>yZ _ _ i _ _ Q6.X.o;have s1:=xb w6 (w.heap.size+2) 0 _ _ (za ag n2 ai) Q6.X.o;have P7:Zb (PO ((w6.setCell ⟨w.heap.size+2,0,none⟩ (za ag n2 ai)).setCell ⟨w.heap.size+2,1,none⟩ (za (some ⟨bT,0,none⟩) l2 aj)) (w.heap.size+3) (za ag n2 ai) R2 (za (some ⟨bT,0,none⟩) l2 aj) L2):=(D6.X.o.box Q6.X.o).box s1;have B7:Zb (Za w.heap.size w ((w6.setCell ⟨w.heap.size+2,0,none⟩ (za ag n2 ai)).setCell ⟨w.heap.size+2,1,none⟩ (za (some ⟨bT,0,none⟩) l2 aj))):=(Q6.X.b.setCell (by simp) _).setCell (by simp) _;have nz:Zb (R2.map RT.key=GR.map RT.key):=by show _=_;rw[g2,HQ.X];exact D6.X.kr
       have ec:Zb (L2=GL):=by show _=_;rw[g3,HQ.X];exact D6.X.kl
       clear s1;subst g1;clear g2 g3;go_wp2;refine xe (v:=.tuple #[.agg #[za ag n2 ai,za (some ⟨bT,0,none⟩) l2 aj],ze zd GN,.bool true]) (by simp[results,Tryz.results42,go_sem,a0,a1]) rfl ?_;show z19 _ _ _ _ _ _ _;rw[<-ec.X];exact⟨ag,n2,ai,_,l2,aj,R2,rfl,B7.X,D6.X.rn,D6.X.ln,nz.X,P7.X.base (by omega),fun _=>⟨_,rfl⟩⟩
      ·obtain⟨g1,g2,g3⟩:=Fg.X fP
       have ET:(pw !=0)=true:=by simp[fP]
       subst g1 g2 g3;obtain⟨p0,p1⟩:=za1 Q6.X.p
       go_wp2_with fail
       refine(vD.X w6 Q6.X.b).mono ?_;rintro e w7 ⟨ju,jC,BO,iJ,R7,rfl,hb,uW,ho⟩;rw[HN.X,HM.X]at ho⊢;have Q7:=za4 (Q6.X.below hb);have PP:Zb (PO w7 (w.heap.size+3) (za ju nr jC) R7 (za (some ⟨BO,0,none⟩) ln iJ) GL):=ho.base (by have:=Q6.X.size;omega);have Nn:=za4 uW;have Le:Zb (R7.length=nr):=by have:=congrArg zo uW;simp only[qz]at this;exact this.trans HN.X
       clear hb ho uW p0 p1;obtain⟨a0,a1⟩:=za1 Q7.X.o;have af:=fun i=>yZ _ _ i _ _ Q7.X.o;have s1:=xb w7 (w.heap.size+2) 0 _ _ (za ju nr jC) Q7.X.o;have P7:Zb (PO ((w7.setCell ⟨w.heap.size+2,0,none⟩ (za ju nr jC)).setCell ⟨w.heap.size+2,1,none⟩ (za (some ⟨BO,0,none⟩) ln iJ)) (w.heap.size+3) (za ju nr jC) R7 (za (some ⟨BO,0,none⟩) ln iJ) GL):=(PP.X.box Q7.X.o).box s1;have B7:Zb (Za w.heap.size w ((w7.setCell ⟨w.heap.size+2,0,none⟩ (za ju nr jC)).setCell ⟨w.heap.size+2,1,none⟩ (za (some ⟨BO,0,none⟩) ln iJ))):=(Q7.X.b.setCell (by simp) _).setCell (by simp) _;clear s1;go_wp2;refine xe (v:=.tuple #[.agg #[za ju nr jC,za (some ⟨BO,0,none⟩) ln iJ],ze zd GN,.bool false]) (by simp[results,Tryz.results42,go_sem,a0,a1]) rfl ?_;show z19 _ _ _ _ _ _ _;exact⟨ju,nr,jC,_,ln,iJ,R7,rfl,B7.X,Le.X,HM.X,Nn.X,P7.X.base (by omega),fun _=>⟨_,rfl⟩⟩
 ·have sy:(pv !=0)=true:=by simp[dv]
  have B5:Zb (Za w.heap.size w ((w1.setCell ⟨w.heap.size+2,0,none⟩ (za none 0 0)).setCell ⟨w.heap.size+2,1,none⟩ (za none 0 0))):=(Q1.X.b.setCell (by simp) _).setCell (by simp) _;rw[zX dv,jj]at d6;obtain⟨g1,g2,g3,g4⟩:=bA.X (by rw[d6.X];try rfl);subst g1 g2 g3 g4;clear bA
  go_wp2_with((go_at_call 39;refine(zc0 _ _ _ _).mono ?_;rintro e w' ⟨rfl,dz⟩;subst w';first|rw[df.X]|rw[d_.X]))
  refine xe (v:=.tuple #[.agg #[za none 0 0,za none 0 0],ze zd (-1),.bool false]) (by simp[results,Tryz.results42,go_sem,a0,a1]) rfl ?_;show z19 _ _ _ _ _ _ _;exact⟨none,0,0,none,0,0,[],rfl,B5.X,rfl,rfl,rfl,⟨xZ _ _ _ _,(fun s hs=>by cases hs),xZ _ _ _ _⟩,fun h=>by cases h⟩
theorem z93(n fine ab:Int)(a ao av:Option Zd)(bi:Option Zd)(ac ko co kv cv c2:Nat)(zs os vs ids:List Int)(w:zi)(hA:za3 w a zs)(hO:za3 w ao os)(hV:za3 w av vs)(hI:za3 w bi ids)(an:os.length=ko*6)(au:vs.length=kv*5)(aA:ko<=9223372036854775807)(aB:kv<=9223372036854775807)(eX:ids.length<=1048576)(cw:ids.length<=c2)(mY:(bi=none/\ids=[]/\c2=0)∨∃g,bi=some ⟨g,0,none⟩)(id:Int)(s0:PS)(jW:bpV (zd0 n zs os vs ko kv fine) n zs os vs ko kv ab ids id=s0):
 Zc zh 132 #[.agg #[ze zd n,za a zs.length ac,za ao ko co,za av kv cv,ze zd fine],.agg #[ze zd ab,za bi ids.length c2],ze zd id] w fun e w'=>e=.returned (.tuple #[ze zd (s0.i:Int),ze zd s0.v,.bool s0.f])/\Za w.heap.size w w':=by
 have HA:=za4 hA;have HO:=za4 hO;have HV:=za4 hV;have HI:=za4 hI;have aF:Zb _:=an;have aE:Zb _:=au;have oA:=za4 mY;clear hA hO hV hI an au mY;have gO:=za4 jW;clear jW;have C0:Zb (CR w ((w.alloc (zg #[ze zd n,za a zs.length ac,za ao ko co,za av kv cv,ze zd fine] 30)).alloc (zg #[ze zd ab,za bi ids.length c2] 80)) _ _):=CR.new w _ _;obtain⟨ok,tB⟩:=nmd (plB (zd0 n zs os vs ko kv fine) n zs os vs ko kv ab ids id);obtain⟨dl,Bp⟩:=nmd (plD (zd0 n zs os vs ko kv fine) n zs os vs ko kv ab ids id);have HF:Zb (pst ok dl (ids.length+1)=s0):=by
  show pst ok dl (ids.length+1)=s0;rw[<-gO.X,<-tB.X,<-Bp.X];rfl
 clear gO;go_enter Tryz.func132,Tryz.ntmps132
 go_wp2_with fail
 go_loopw[9,10,11,12] (fun ta tv tf t wr=>∃i:Nat,i<=ids.length+1/\t=ze zd i/\ta=ze zd ((pst ok dl i).i:Int)/\tv=ze zd (pst ok dl i).v/\tf=.bool (pst ok dl i).f/\CR w wr #[ze zd n,za a zs.length ac,za ao ko co,za av kv cv,ze zd fine] #[ze zd ab,za bi ids.length c2]) (fun _ _ _ t _=>ids.length+1 - (intOf t).toNat)
 case atStart=>exact⟨0,xi _,rfl,rfl,rfl,rfl,C0.X⟩
 case round=>
  clear C0;obtain⟨i,hi,rfl,rfl,rfl,rfl,hC⟩:=hrel;have C1:=za4 hC;clear hC;obtain⟨d0,d1⟩:=za1 C1.X.2.2;by_cases ah:i<=ids.length
  ·have h1:(i:Int)<=(ids.length:Int):=by omega
   have x_:IntKind.i64.wrap ((i:Int)+1)=((i+1:Nat):Int):=by rw[xz _ (by omega)];omega
   have HN:Zb (pst ok dl (i+1)=zQ9 ok dl (pst ok dl i) i):=rfl;obtain⟨s,HS⟩:=nmd (pst ok dl i);rw[HS.X]at HN⊢;obtain⟨sf,si,sv⟩:=s;simp only at HN⊢;obtain⟨ch,bL⟩:=nmd (ok i);obtain⟨D,bk⟩:=nmd (dl i);obtain⟨c0,c1,bZ,c3,c4⟩:=za7 C1.X.2.1;obtain⟨xs,lI⟩:=nmd (chL ch (insL ids i id))
   go_wp2_with fail
   clear c0 c1 bZ c3 c4 d0 d1;refine(zB5 n fine ab a ao av bi ac ko co kv cv c2 zs os vs ids wr (HA.X.below C1.X.1) (HO.X.below C1.X.1) (HV.X.below C1.X.1) (HI.X.below C1.X.1) aF.X aE.X aA aB (by omega) cw oA.X id (i:Int) ch (by rw[<-bL.X,<-tB.X];rfl) D (by rw[<-bk.X,<-Bp.X,<-bL.X,<-tB.X];rfl) xs lI.X).mono ?_;rintro e w2 ⟨hb,ad,c,rfl,_⟩;obtain⟨vv,et⟩:=nmd (chI ch ab);rw[et.X];have C3:Zb (CR w (w2.alloc (zg #[ze zd vv,za ad xs.length c] 80)) _ _):=(C1.X.below hb).alloc _;clear hb;cases ch
   ·have kg:Zb (pst ok dl (i+1)=⟨sf,si,sv⟩):=HN.X.trans (zU8 bL.X)
    go_wp2;go_roundw
    case rel=>exact⟨i+1,by omega,by first|rfl|go_num,by rw[kg.X],by rw[kg.X],by rw[kg.X],C3.X⟩
    case measure=>simp[intOf];omega
   ·cases sf
    ·have kg:Zb (pst ok dl (i+1)=⟨true,i,D⟩):=HN.X.trans (by rw[<-bk.X];exact y16 bL.X rfl)
     go_wp2;go_roundw
     case rel=>exact⟨i+1,by omega,by first|rfl|go_num,by rw[kg.X],by rw[kg.X],by rw[kg.X],C3.X⟩
     case measure=>simp[intOf];omega
    ·by_cases ke:D<sv
     ·have kg:Zb (pst ok dl (i+1)=⟨true,i,D⟩):=HN.X.trans (by rw[<-bk.X];exact ys9 bL.X (by rw[bk.X];exact ke))
      go_wp2;go_roundw
      case rel=>exact⟨i+1,by omega,by first|rfl|go_num,by rw[kg.X],by rw[kg.X],by rw[kg.X],C3.X⟩
      case measure=>simp[intOf];omega
     ·have kg:Zb (pst ok dl (i+1)=⟨true,si,sv⟩):=HN.X.trans (yz9 rfl (by rw[bk.X];exact ke))
      go_wp2;go_roundw
      case rel=>exact⟨i+1,by omega,by first|rfl|go_num,by rw[kg.X],by rw[kg.X],by rw[kg.X],C3.X⟩
      case measure=>simp[intOf];omega
  ·have oI:i=ids.length+1:=by omega
   have h1:¬((i:Int)<=(ids.length:Int)):=by omega
   have Ix:Zb (pst ok dl i=s0):=by
    show pst ok dl i=s0;rw[oI];exact HF.X
   rw[Ix.X];clear oI Ix;go_wp2
   go_ret3
   exact⟨rfl,C1.X.1⟩
structure OQ(w W:zi)(cs ps:Array Value)(o0 o1:Value):Prop where
 b:Za w.heap.size w W
 c:W.heap[w.heap.size]? =some (.cells cs 30 (0,0))
 p:W.heap[w.heap.size+1]? =some (.cells ps 33 (0,0))
 a:W.heap[w.heap.size+2]? =some (zg #[za none 0 0,za none 0 0] 33 (0,0))
 o:W.heap[w.heap.size+3]? =some (zg #[o0,o1] 33 (0,0))
theorem OQ.below{w W W':zi}{cs ps:Array Value}{o0 o1:Value}(h:OQ w W cs ps o0 o1)(hb:Za W.heap.size W W'):OQ w W' cs ps o0 o1:=
 ⟨h.b.trans (hb.mono h.b.size),za0 hb (za2 h.c) h.c,za0 hb (za2 h.p) h.p,za0 hb (za2 h.a) h.a,za0 hb (za2 h.o) h.o⟩
theorem OQ.size{w W:zi}{cs ps:Array Value}{o0 o1:Value}(h:OQ w W cs ps o0 o1):w.heap.size+4<=W.heap.size:=za2 h.o
def OU(w W:zi)(ps:Array Value)(R:List RT)(L:List Int)(s:QS)(o0 o1:Value):Prop:=(s.f=false/\ #[o0,o1]=ps)∨(s.f=true/\∃S,PO W (w.heap.size+4) o0 S o1 (zl5 L s.s.1)/\S.map RT.key=(setL R (oneT R s.s)).map RT.key/\∃g c,o1=za (some ⟨g,0,none⟩) (zl5 L s.s.1).length c)
theorem OU.below{w W W':zi}{ps:Array Value}{R:List RT}{L:List Int}{s:QS}{o0 o1:Value}(h:OU w W ps R L s o0 o1)(hb:Za W.heap.size W W'):OU w W' ps R L s o0 o1:=by
 rcases h with h|⟨h1,S,h2,h3⟩
 ·exact .inl h
 ·exact .inr ⟨h1,S,h2.below hb,h3⟩
theorem y20{ok:zg2->Bool}{dl:zg2->Int}(l:List zg2):(qst ok dl l).f=false->(qst ok dl l).v=0:=by
 suffices h:∀(m:List zg2) (s:QS),(s.f=false->s.v=0)->(m.foldl (zl7 ok dl) s).f=false->(m.foldl (zl7 ok dl) s).v=0 from h l qs0 (fun _=>rfl)
 intro m
 induction m with
 |nil=>intro s hs hf;exact hs hf
 |cons p m ih=>
  intro s hs hf;rw[yM]at hf⊢;refine ih _ (fun h9=> ?_) hf;unfold zl7 at h9⊢;split
  ·rename_i hc
   rw[z7 hc]at h9;cases h9
  ·rename_i hc
   rw[ye hc]at h9;exact hs h9
theorem ye0(n fine ab:Int)(a ao av bi:Option Zd)(ac ko co kv cv c2:Nat)(zs os vs ids:List Int)(w:zi)(hA:za3 w a zs)(hO:za3 w ao os)(hV:za3 w av vs)(hI:za3 w bi ids)(an:os.length=ko*6)(au:vs.length=kv*5)(aA:ko<=9223372036854775807)(aB:kv<=9223372036854775807)(eX:ids.length<=9223372036854775807)(cw:ids.length<=c2)(mY:(bi=none/\ids=[]/\c2=0)∨∃g,bi=some ⟨g,0,none⟩)(id:Int)(k:Nat)(ch:Bool)(gm:chB (zd0 n zs os vs ko kv fine) n zs os vs ko kv ab ids (inB (k:Int) 0 (ids.length:Int)) (insL ids k id)=ch)(D:Int)(hD:chD ch n zs os vs ko kv ab ids (insL ids k id)=D)(xs:List Int)(jA:chL ch (insL ids k id)=xs):
 Zc zh 71 #[.agg #[ze zd n,za a zs.length ac,za ao ko co,za av kv cv,ze zd fine],.agg #[ze zd ab,za bi ids.length c2],ze zd id,ze zd (k:Int)] w (ye5 w ch ab D xs):=by
 rcases mY with⟨rfl,rfl,rfl⟩|⟨g,rfl⟩
 ·exact zo9 n fine ab a ao av ac ko co kv cv zs os vs w hA hO hV an au aA aB id (k:Int) ch (by simpa using gm) D (by simpa using hD) xs (by simpa using jA)
 ·exact zp1 n fine ab a ao av g 0 ac ko co kv cv c2 zs os vs ids w hA hO hV hI an au aA aB eX cw id (k:Int) ch (by simpa using gm) D (by simpa using hD) xs (by simpa using jA)
theorem ym8{R:List RT}{r s:RT}(hS:zf7 R)(hr:r.ids≠[])(h:r.key=s.key):(setL R r).map RT.key=(setL R s).map RT.key:=by
 have hi:r.ids=s.ids:=congrArg Prod.snd h;rw[z66 hS hr,z66 hS (by rw[<-hi];exact hr)];exact z83 rfl h
def yF0(w:zi)(f:Bool)(T:List RT)(L:List Int)(e:Ending)(w':zi):Prop:=∃ra rn rc gl ln lc S,e=.returned (.tuple #[.agg #[za ra rn rc,za (some ⟨gl,0,none⟩) ln lc],.bool f])/\Za w.heap.size w w'/\S.length=rn/\L.length=ln/\S.map RT.key=T.map RT.key/\PO w' w.heap.size (za ra rn rc) S (za (some ⟨gl,0,none⟩) ln lc) L
theorem yp3{R S:List RT}{r:RT}(hi:zw3 R)(hr:r.ids≠[]/\r.ids.length<=13)(h:S.map RT.key=(setL R r).map RT.key):∀x∈S,x.ids≠[]/\x.ids.length<=500:=fun x hx=>by
 have h1:x.key∈(setL R r).map RT.key:=by rw[<-h];exact List.mem_map_of_mem hx
 obtain⟨y,hy,e⟩:=yF.1 h1;have e2:y.ids=x.ids:=congrArg Prod.snd e;rw[<-e2];rcases(zy7 R r).1 y hy with h2|h2
 ·have:=hi y h2
  exact⟨this.1,by omega⟩
 ·rw[h2];exact⟨hr.1,by omega⟩
theorem yv8(n fine:Int)(a ao ra:Option Zd)(zl ac ko co bv ov kv cv nr rc bl ol ln lc:Nat)(zs os vs L:List Int)(R:List RT)(w:zi)(hA:za3 w a zs)(hO:za3 w ao os)(hV:za3 w (some ⟨bv,ov,none⟩) vs)(aN:zs.length=zl)(an:os.length=ko*6)(au:vs.length=kv*5)(aA:ko<=12)(aB:kv<=5)(bU:zd0 n zs os vs ko kv fine=true)(hR:za9 w ra R)(ny:R.length=nr)(hn:nr<=100)(hL:za3 w (some ⟨bl,ol,none⟩) L)(Jr:L.length=ln)(gh:ln<=12)(hS:zf7 R)(hi:zw3 R)(l7:∀r∈R,∃g,r.a=some ⟨g,0,none⟩):
 Zc zh 95 #[.agg #[ze zd n,za a zl ac,za ao ko co,za (some ⟨bv,ov,none⟩) kv cv,ze zd fine],.agg #[za ra nr rc,za (some ⟨bl,ol,none⟩) ln lc]] w (yF0 w (zy2 n fine zs os vs ko kv R L).f (zC4 n fine zs os vs ko kv R L) (zD4 n fine zs os vs ko kv R L)):=by
 have HA:=za4 hA;have HO:=za4 hO;have HV:=za4 hV;have ck:=za4 aN;have aF:=za4 an;have aE:=za4 au;have cU:=za4 bU;have HR:=za4 hR;have HN:=za4 ny;have HL:=za4 hL;have HM:=za4 Jr;have HS:=za4 hS;have HI:=za4 hi;have DI:=za4 l7;clear hA hO hV aN an au bU hR ny hL Jr hS hi l7;obtain⟨fn,oh⟩:=nmd (qst (gOk n fine zs os vs ko kv R) (gD n zs os vs ko kv R));have AL:Zb (zy2 n fine zs os vs ko kv R L=fn (sp3 R vs kv L ln)):=by show _=_;rw[<-oh.X,<-HM.X];rfl
 obtain⟨s9,tI⟩:=nmd (zy2 n fine zs os vs ko kv R L);obtain⟨RX,gE⟩:=nmd (zC4 n fine zs os vs ko kv R L);obtain⟨LX,gF⟩:=nmd (zD4 n fine zs os vs ko kv R L);have jG:Zb (RX=if s9.f then wrL R (oneT R s9.s)else R):=by show _=_;rw[<-gE.X];unfold zC4;rw[tI.X]
 have ec:Zb (LX=if s9.f then zl5 L s9.s.1 else L):=by show _=_;rw[<-gF.X];unfold zD4;rw[tI.X]
 rw[tI.X,gE.X,gF.X];rw[tI.X]at AL;clear tI gE gF;have Hg:Zb (∀l id ab,fn (l++sp1 id ab ((zc7 R ab).ids.length+1))=grp fine id ab (fn l) (bpV true n zs os vs ko kv ab (zc7 R ab).ids id)):=fun l id ab=>by rw[<-oh.X];exact yG1 n fine zs os vs ko kv R l id ab
 have Fr:Zb (fn []=qs0):=by show _=_;rw[<-oh.X];rfl
 have Q0:Zb (OQ w ((((w.alloc (zg #[ze zd n,za a zl ac,za ao ko co,za (some ⟨bv,ov,none⟩) kv cv,ze zd fine] 30)).alloc (zg #[za ra nr rc,za (some ⟨bl,ol,none⟩) ln lc] 33)).alloc (zg #[za none 0 0,za none 0 0] 33)).alloc (zg #[za ra nr rc,za (some ⟨bl,ol,none⟩) ln lc] 33)) #[ze zd n,za a zl ac,za ao ko co,za (some ⟨bv,ov,none⟩) kv cv,ze zd fine] #[za ra nr rc,za (some ⟨bl,ol,none⟩) ln lc] (za ra nr rc) (za (some ⟨bl,ol,none⟩) ln lc)):=by
  refine⟨(((zP _).alloc (by simp) _).alloc (by simp;omega) _).alloc (by simp;omega) _,?_,?_,?_,?_⟩
  ·exact(xg _ _ (by simp;omega)).trans ((xg _ _ (by simp;omega)).trans (xm _ _ _))
  ·exact(xg _ _ (by simp<;>omega)).trans ((xg _ _ (by simp)).trans (xh _ _ _))
  ·have:=xm ((w.alloc (zg #[ze zd n,za a zl ac,za ao ko co,za (some ⟨bv,ov,none⟩) kv cv,ze zd fine] 30)).alloc (zg #[za ra nr rc,za (some ⟨bl,ol,none⟩) ln lc] 33)) (zg #[za none 0 0,za none 0 0] 33) (zg #[za ra nr rc,za (some ⟨bl,ol,none⟩) ln lc] 33)
   simpa using this
  ·have:=xh ((w.alloc (zg #[ze zd n,za a zl ac,za ao ko co,za (some ⟨bv,ov,none⟩) kv cv,ze zd fine] 30)).alloc (zg #[za ra nr rc,za (some ⟨bl,ol,none⟩) ln lc] 33)) (zg #[za none 0 0,za none 0 0] 33) (zg #[za ra nr rc,za (some ⟨bl,ol,none⟩) ln lc] 33)
   simpa using this
 have IJ:Zb ((((w.alloc (zg #[ze zd n,za a zl ac,za ao ko co,za (some ⟨bv,ov,none⟩) kv cv,ze zd fine] 30)).alloc (zg #[za ra nr rc,za (some ⟨bl,ol,none⟩) ln lc] 33)).alloc (zg #[za none 0 0,za none 0 0] 33)).heap[w.heap.size+1]? =some (zg #[za ra nr rc,za (some ⟨bl,ol,none⟩) ln lc] 33 (0,0))):=(xg _ _ (by simp)).trans (xh _ _ _);obtain⟨e0,e1⟩:=za1 IJ.X;go_enter Tryz.func95,Tryz.ntmps95
 go_wp2_with fail
 clear e0 e1 IJ;generalize(((w.alloc _).alloc _).alloc _).alloc _=W0 at*;go_loopw[6,7,9] (fun tb tf t wr=>∃(i:Nat) (o0 o1:Value),i<=ln/\t=ze zd i/\tb=ze zd (fn (sp3 R vs kv L i)).v/\tf=.bool (fn (sp3 R vs kv L i)).f/\OQ w wr #[ze zd n,za a zl ac,za ao ko co,za (some ⟨bv,ov,none⟩) kv cv,ze zd fine] #[za ra nr rc,za (some ⟨bl,ol,none⟩) ln lc] o0 o1/\OU w wr #[za ra nr rc,za (some ⟨bl,ol,none⟩) ln lc] R L (fn (sp3 R vs kv L i)) o0 o1) (fun _ _ t _=>ln - (intOf t).toNat)
 case atStart=>exact⟨0,_,_,xi _,rfl,by show _=ze zd (fn []).v;rw[Fr.X];first|done|rfl,by show _=Value.bool (fn []).f;rw[Fr.X];first|done|rfl,Q0.X,.inl ⟨by show(fn []).f=false;rw[Fr.X];rfl,rfl⟩⟩
 case round=>
  clear Q0;obtain⟨i,o0,o1,hi,rfl,rfl,rfl,hq,hu⟩:=hrel;have Q1:=za4 hq;have U1:=za4 hu;clear hq hu;obtain⟨p0,p1⟩:=za1 Q1.X.p;by_cases ah:i<ln
  ·have oC:(i:Int)<(ln:Int):=by omega
   have a8:Zb (sp3 R vs kv L (i+1)=sp3 R vs kv L i++sp2 R vs (L.getD i 0) kv):=rfl;have wF:Zb (∀W,Za w.heap.size w W->W.cell? ⟨bl,ol+i,none⟩=some (ze zd (L.getD i 0))):=fun W hW=>by
    obtain⟨b1,o1,e,c1⟩:=(HL.X.below hW) i (by rw[HM.X];exact ah);simp only[jf,qg,qt]at e;obtain⟨rfl,rfl⟩:=e;exact c1
   generalize L.getD i 0=id at*;generalize sp3 R vs kv L i=l1 at*
   go_wp2_with fail
   clear p0 p1;go_loopw[6,7,10] (fun tb tf t wr=>∃(k:Nat) (o0 o1:Value),k<=kv/\t=ze zd k/\tb=ze zd (fn (l1++sp2 R vs id k)).v/\tf=.bool (fn (l1++sp2 R vs id k)).f/\OQ w wr #[ze zd n,za a zl ac,za ao ko co,za (some ⟨bv,ov,none⟩) kv cv,ze zd fine] #[za ra nr rc,za (some ⟨bl,ol,none⟩) ln lc] o0 o1/\OU w wr #[za ra nr rc,za (some ⟨bl,ol,none⟩) ln lc] R L (fn (l1++sp2 R vs id k)) o0 o1) (fun _ _ t _=>kv - (intOf t).toNat)
   case atStart=>exact⟨0,o0,o1,xi _,rfl,by show _=ze zd (fn (l1++[])).v;rw[qK],by show _=Value.bool (fn (l1++[])).f;rw[qK],Q1.X,by show OU _ _ _ _ _ (fn (l1++[])) _ _;rw[qK];exact U1.X⟩
   case round=>
    clear Q1 U1;obtain⟨k,o0,o1,hk,rfl,rfl,rfl,hq,hu⟩:=hrel;have Q3:=za4 hq;have EI:=za4 hu;clear hq hu;obtain⟨d0,d1,d2,d3,d4⟩:=za7 Q3.X.c;by_cases hlk:k<kv
    ·have ik:(k:Int)<(kv:Int):=by omega
     have fF:Zb (fn (l1++sp2 R vs id (k+1))=grp fine id (vs.getD (k*5) 0) (fn (l1++sp2 R vs id k)) (bpV true n zs os vs ko kv (vs.getD (k*5) 0) (zc7 R (vs.getD (k*5) 0)).ids id)):=by
      show _=_;rw[<-Hg.X,yi];rfl
     have vN:Zb (∀W,Za w.heap.size w W->W.cell? ⟨bv,ov+k*5,none⟩=some (ze zd (vs.getD (k*5) 0))):=fun W hW=>by
      obtain⟨b1,o1,e,c1⟩:=(HV.X.below hW) (k*5) (by rw[aE.X];omega);simp only[jf,qg,qt]at e;obtain⟨rfl,rfl⟩:=e;exact c1
     have mj:=y20 (ok:=gOk n fine zs os vs ko kv R) (dl:=gD n zs os vs ko kv R) (l1++sp2 R vs id k);rw[oh.X]at mj;generalize vs.getD (k*5) 0=ab at*;generalize fn (l1++sp2 R vs id k)=s at*;have U3:Zb (OU w wr #[za ra nr rc,za (some ⟨bl,ol,none⟩) ln lc] R L s o0 o1):=EI.X;have Pe:=za4 mj;clear EI mj;obtain⟨oG,lM,eg,-⟩:=z98 HR.X HI.X ab;have dj:=za4 oG;have pJ:Zb (((zc7 R ab).a=none/\(zc7 R ab).ids=[]/\(zc7 R ab).c=0)∨∃g,(zc7 R ab).a=some ⟨g,0,none⟩):=by
      rcases zv0 R ab with h|h
      ·exact .inr (DI.X _ h)
      ·rw[h];exact .inl ⟨rfl,rfl,rfl⟩
     have eO:Zb (oneT R (id,ab,0)=oneT R (id,ab,0)):=rfl;have vC:∀W,Za wr.heap.size wr W->_:=fun W hW=>z24 ra (some ⟨bl,ol,none⟩) rc ln lc R ab W (HR.X.below (Q3.X.below hW).b) (by rw[HN.X];omega)
     rw[HN.X]at vC;obtain⟨b9,vZ⟩:=nmd (bpV true n zs os vs ko kv ab (zc7 R ab).ids id);rw[vZ.X]at fF;obtain⟨rt,sQ⟩:=nmd (zc7 R ab);rw[sQ.X]at lM eg dj pJ vC vZ;obtain⟨Q_,aO,ay,bg⟩:=rt;simp only at lM eg dj pJ vC vZ;obtain⟨rl,cu⟩:=nmd ay.length;rw[cu.X]at lM eg vC;have LR:Zb _:=vC;have iN:Zb (∀W,Za wr.heap.size wr W->(fun W=>W.cell? ⟨w.heap.size+1,0,none⟩=some (za ra nr rc)/\W.cell? ⟨w.heap.size+1,1,none⟩=some (za (some ⟨bl,ol,none⟩) ln lc)/\W.cell? ⟨w.heap.size,3,none⟩=some (za (some ⟨bv,ov,none⟩) kv cv)/\W.cell? ⟨bv,ov+k*5,none⟩=some (ze zd ab)) W):=fun W hW=>by
      have q:=Q3.X.below hW;obtain⟨x0,x1⟩:=za1 q.p;obtain⟨y0,y1,y2,y3,y4⟩:=za7 q.c;exact⟨x0,x1,y3,vN.X W q.b⟩
     clear vC oG eO;go_upto_region 10 with fail;clear d0 d1 d2 d3 d4;go_cut [11]from 33 to 40 (fun wC wx=>∃rb:Nat,wC=.pointer (some ⟨rb,0,none⟩)/\Za wr.heap.size wr wx/\wx.heap[rb]? =some (zg #[ze zd ab,za aO rl bg] 80 (0,0))/\wr.heap.size<=rb)
     case first=>
      go_wp2_with fail
      refine qG (S:=(fun W=>W.cell? ⟨w.heap.size+1,0,none⟩=some (za ra nr rc)/\W.cell? ⟨w.heap.size+1,1,none⟩=some (za (some ⟨bl,ol,none⟩) ln lc)/\W.cell? ⟨w.heap.size,3,none⟩=some (za (some ⟨bv,ov,none⟩) kv cv)/\W.cell? ⟨bv,ov+k*5,none⟩=some (ze zd ab))) (by kernel_rfl) ?_ fun aa=> ?_
      ·exact iN.X _ (y5 _ _).drew
      have BD:Zb (Za wr.heap.size wr wr.drew):=(y5 _ _).drew;generalize wr.drew=wd at*;refine tkH 0 aa ?_;refine tkH 1 aa ?_;refine tkH 2 aa ?_;refine tkH 3 aa ?_;refine tkH 4 aa ?_;refine tkH 5 aa ?_;refine tkH 6 aa ?_;refine xQ (rs:=[7,8]) (by kernel_rfl) (by simp) ?_;refine xL rfl (fun K hK=> ?_) ?_
      ·skip
       go_simp;refine(LR.X wd BD.X).mono ?_;rintro e w1 ⟨rfl,hb⟩;have B1:=za4 (BD.X.trans (hb.mono BD.X.size));clear hb
       (try go_wp2_with fail)
       refine hoW hK (iN.X _ B1.X) fun aa=> ?_;clear hK K;refine rdH 8 fun K hK=> ?_;have BZ:Zb (Za wr.heap.size wr (w1.alloc (zg #[ze zd 0,za none 0 0] 80))):=B1.X.alloc B1.X.size _;have aw:=za4 (zS w1 (zg #[ze zd 0,za none 0 0] 80));have aH:Zb (wr.heap.size<=w1.heap.size):=B1.X.size;go_simp;refine hoW hK (iN.X _ BZ.X) fun aa=> ?_;clear hK K;obtain⟨rb,cA⟩:=nmd w1.heap.size;rw[cA.X]at aw aH⊢;generalize(w1.alloc _)=wz at*;obtain⟨z0,z1⟩:=za1 aw.X;have zf:=fun i=>yZ _ _ i _ _ aw.X;refine rdH 9 fun K hK=> ?_;have B5:Zb (Za wr.heap.size wr ((wz.setCell ⟨rb,0,none⟩ (ze zd ab)).setCell ⟨rb,1,none⟩ (za aO rl bg))):=(BZ.X.setCell aH.X _).setCell aH.X _;have s1:=xb wz rb 0 _ _ (ze zd ab) aw.X;have V5:Zb (((wz.setCell ⟨rb,0,none⟩ (ze zd ab)).setCell ⟨rb,1,none⟩ (za aO rl bg)).heap[rb]? =some (zg #[ze zd ab,za aO rl bg] 80 (0,0))):=by
        have s2:=xb _ rb 1 _ _ (za aO rl bg) s1;simp at s2;exact s2
       have oH:Zb (wr.heap.size<=rb):=aH.X;clear s1;go_simp;refine hoW hK (iN.X _ B5.X) fun aa=> ?_;clear hK K;generalize((wz.setCell ⟨rb,0,none⟩ _).setCell ⟨rb,1,none⟩ _)=w5 at*;refine qF (by kernel_rfl) ?_ _;clear aa
       (try go_wp2_with fail)
       go_meet;exact⟨rb,rfl,B5.X,V5.X,oH.X⟩
      refine xL rfl (fun K hK=> ?_) xP;have BZ:Zb (Za wr.heap.size wr (wd.alloc (zg #[ze zd 0,za none 0 0] 80))):=BD.X.alloc BD.X.size _;have aw:=za4 (zS wd (zg #[ze zd 0,za none 0 0] 80));have aH:Zb (wr.heap.size<=wd.heap.size):=BD.X.size;go_simp;refine hoW hK (iN.X _ BZ.X) fun aa=> ?_;clear hK K;obtain⟨rb,cA⟩:=nmd wd.heap.size;rw[cA.X]at aw aH⊢;generalize(wd.alloc _)=wz at*;obtain⟨z0,z1⟩:=za1 aw.X;have zf:=fun i=>yZ _ _ i _ _ aw.X;refine rdH 7 fun K hK=> ?_;go_simp;refine(LR.X wz BZ.X).mono ?_;rintro e w1 ⟨rfl,hb⟩;have B1:=za4 (BZ.X.trans (hb.mono BZ.X.size));have gz:=za4 (za0 hb (za2 aw.X) aw.X);obtain⟨z0,z1⟩:=za1 gz.X;have zf:=fun i=>yZ _ _ i _ _ gz.X;clear hb
      (try go_wp2_with fail)
      refine hoW hK (iN.X _ B1.X) fun aa=> ?_;clear hK K;refine rdH 9 fun K hK=> ?_;have B5:Zb (Za wr.heap.size wr ((w1.setCell ⟨rb,0,none⟩ (ze zd ab)).setCell ⟨rb,1,none⟩ (za aO rl bg))):=(B1.X.setCell aH.X _).setCell aH.X _;have s1:=xb w1 rb 0 _ _ (ze zd ab) gz.X;have V5:Zb (((w1.setCell ⟨rb,0,none⟩ (ze zd ab)).setCell ⟨rb,1,none⟩ (za aO rl bg)).heap[rb]? =some (zg #[ze zd ab,za aO rl bg] 80 (0,0))):=by
       have s2:=xb _ rb 1 _ _ (za aO rl bg) s1;simp at s2;exact s2
      have oH:Zb (wr.heap.size<=rb):=aH.X;clear s1;go_simp;refine hoW hK (iN.X _ B5.X) fun aa=> ?_;clear hK K;generalize((w1.setCell ⟨rb,0,none⟩ _).setCell ⟨rb,1,none⟩ _)=w5 at*;refine qF (by kernel_rfl) ?_ _;clear aa
      (try go_wp2_with fail)
      go_meet;exact⟨rb,rfl,B5.X,V5.X,oH.X⟩
     case rest=>
      obtain⟨rb,rfl,rS,mO,KT⟩:=hcut;obtain⟨w5,pq⟩:∃v,v=wc:=⟨_,rfl⟩;subst pq;have B5:=za4 rS;have V5:=za4 mO;have oH:=za4 KT;clear rS mO KT;clear LR iN;have Q5:=za4 (Q3.X.below B5.X);have U5:=za4 (U3.X.below B5.X);have Rb:Zb (w.heap.size+4<=rb):=xj Q3.X.size oH.X;have FS:=fun(W:zi) (hW:Za w5.heap.size w5 W)=>z93 n fine ab a ao (some ⟨bv,ov,none⟩) aO ac ko co kv cv bg zs os vs ay W (HA.X.below (Q5.X.below hW).b) (HO.X.below (Q5.X.below hW).b) (HV.X.below (Q5.X.below hW).b) (dj.X.below (Q5.X.below hW).b) aF.X aE.X (by omega) (by omega) (by rw[cu.X];omega) (by rw[cu.X];exact eg) pJ.X id b9 (by rw[cU.X];exact vZ.X)
      rw[ck.X,cu.X]at FS;have BP:Zb _:=FS;have py:Zb (∀W,Za w5.heap.size w5 W->(fun W=>W.cell? ⟨w.heap.size,0,none⟩=some (ze zd n)/\W.cell? ⟨w.heap.size,1,none⟩=some (za a zl ac)/\W.cell? ⟨w.heap.size,2,none⟩=some (za ao ko co)/\W.cell? ⟨w.heap.size,3,none⟩=some (za (some ⟨bv,ov,none⟩) kv cv)/\W.cell? ⟨w.heap.size,4,none⟩=some (ze zd fine)/\W.cell? ⟨rb,0,none⟩=some (ze zd ab)/\W.cell? ⟨rb,1,none⟩=some (za aO rl bg)/\W.cell? ⟨w.heap.size+1,1,none⟩=some (za (some ⟨bl,ol,none⟩) ln lc)/\W.cell? ⟨bl,ol+i,none⟩=some (ze zd id)) W):=fun W hW=>by
       have q:=Q5.X.below hW;obtain⟨x0,x1⟩:=za1 q.p;obtain⟨y0,y1,y2,y3,y4⟩:=za7 q.c;obtain⟨v0,v1⟩:=za1 (za0 hW (za2 V5.X) V5.X);exact⟨y0,y1,y2,y3,y4,v0,v1,x1,wF.X W q.b⟩
      clear FS B5 Q3 U3 oH;have kS:=py.X _ (y5 _ _).drew
      go_wp2_with fail
      go_region_held3 (fun W=>W.cell? ⟨w.heap.size,0,none⟩=some (ze zd n)/\W.cell? ⟨w.heap.size,1,none⟩=some (za a zl ac)/\W.cell? ⟨w.heap.size,2,none⟩=some (za ao ko co)/\W.cell? ⟨w.heap.size,3,none⟩=some (za (some ⟨bv,ov,none⟩) kv cv)/\W.cell? ⟨w.heap.size,4,none⟩=some (ze zd fine)/\W.cell? ⟨rb,0,none⟩=some (ze zd ab)/\W.cell? ⟨rb,1,none⟩=some (za aO rl bg)/\W.cell? ⟨w.heap.size+1,1,none⟩=some (za (some ⟨bl,ol,none⟩) ln lc)/\W.cell? ⟨bl,ol+i,none⟩=some (ze zd id)) (first|with_reducible exact kS|go_keep) ((first
       |(go_at_call 132
         with_reducible refine(BP.X w5.drew (y5 _ _).drew).mono ?_
         rintro e w6 ⟨rfl,hb⟩;have B6:Zb (Za w5.heap.size w5 w6):=(y5 _ _).drew.trans hb;have kS:=py.X _ B6.X;clear hb)))
      clear kS BP;have Q6:=za4 (Q5.X.below B6.X);have U6:=za4 (U5.X.below B6.X);have V6:=za4 (za0 B6.X (za2 V5.X) V5.X);have dq:Zb (∀W,Za w6.heap.size w6 W->(fun W=>W.cell? ⟨w.heap.size,0,none⟩=some (ze zd n)/\W.cell? ⟨w.heap.size,1,none⟩=some (za a zl ac)/\W.cell? ⟨w.heap.size,2,none⟩=some (za ao ko co)/\W.cell? ⟨w.heap.size,3,none⟩=some (za (some ⟨bv,ov,none⟩) kv cv)/\W.cell? ⟨w.heap.size,4,none⟩=some (ze zd fine)/\W.cell? ⟨rb,0,none⟩=some (ze zd ab)/\W.cell? ⟨rb,1,none⟩=some (za aO rl bg)/\W.cell? ⟨w.heap.size+1,1,none⟩=some (za (some ⟨bl,ol,none⟩) ln lc)/\W.cell? ⟨bl,ol+i,none⟩=some (ze zd id)) W):=fun W hW=>py.X W (B6.X.trans (hW.mono B6.X.size));clear Q5 U5 V5 B6 py;obtain⟨sf,ss,sv⟩:=s;obtain⟨bf,bi,kO⟩:=b9;simp only at Pe⊢;cases bf
      ·have bD:Zb (fn (l1++sp2 R vs id (k+1))=⟨sf,ss,sv⟩):=by show _=_;rw[fF.X];exact ye (fun h=>by cases h.1)
       clear fF dq;obtain⟨d0,d1,d2,d3,d4⟩:=za7 Q6.X.c;go_wp2;go_roundw
       case rel=>exact⟨k+1,o0,o1,by omega,by first|rfl|go_num,by rw[bD.X],by rw[bD.X],Q6.X,by rw[bD.X];exact U6.X⟩
       case measure=>simp[intOf];omega
      ·by_cases hfi:kO<=fine
       ·have Cp:¬fine<kO:=by omega
        by_cases jB:sf=false∨kO<sv
        ·have bD:Zb (fn (l1++sp2 R vs id (k+1))=⟨true,(id,ab,bi),kO⟩):=by show _=_;rw[fF.X];exact z7 ⟨rfl,hfi,jB⟩
         clear fF;have lE:sf=false∨(sf=true/\¬sv<=kO):=by cases sf;exact .inl rfl;exact .inr ⟨rfl,by rcases jB with h|h;cases h;omega⟩
         have kC:=yk8 (ok:=plB true n zs os vs ko kv ab ay id) (dl:=plD true n zs os vs ko kv ab ay id) (ay.length+1);have Jm:pst (plB true n zs os vs ko kv ab ay id) (plD true n zs os vs ko kv ab ay id) (ay.length+1)=⟨true,bi,kO⟩:=vZ.X;rw[Jm]at kC;obtain⟨lq,dR,-⟩:=kC rfl;simp only at lq dR;obtain⟨xs,oP⟩:=nmd (insL ay bi id);obtain⟨xl,aY⟩:=nmd xs.length;obtain⟨vv,et⟩:=nmd (chI true ab);have An:Zb (vv=ab):=by show _=_;rw[<-et.X];rfl
         have eL:Zb (xs≠[]/\xs.length<=13):=by
          rw[<-oP.X];refine⟨by unfold insL;simp,?_⟩;unfold insL;rw[xS,yo,yh,qj,cu.X];omega
         have Er:=fun(W:zi) (hW:Za w6.heap.size w6 W)=>ye0 n fine ab a ao (some ⟨bv,ov,none⟩) aO ac ko co kv cv bg zs os vs ay W (HA.X.below (Q6.X.below hW).b) (HO.X.below (Q6.X.below hW).b) (HV.X.below (Q6.X.below hW).b) (dj.X.below (Q6.X.below hW).b) aF.X aE.X (by omega) (by omega) (by rw[cu.X];omega) (by rw[cu.X];exact eg) pJ.X id bi true (by rw[cU.X];exact lq) kO (by have h:=dR;unfold plD at h;rw[lq]at h;exact h) xs oP.X
         rw[ck.X,cu.X]at Er;have CI:Zb _:=Er;have CJ:Zb (w.heap.size+4<=w6.heap.size):=Q6.X.size;clear Er kC Jm lq dR U6;rcases lE with h9|⟨h9,dF⟩
         ·subst h9
          obtain⟨d0,d1,d2,d3,d4⟩:=za7 Q6.X.c;go_upto_region 13 with fail;clear d0 d1 d2 d3 d4;go_cut [15,16,17]from 69 to 81 (fun p8 tN ph wx=>∃(kr:Nat) (ad:Option Zd) (cg:Nat),p8=.pointer (some ⟨kr,0,none⟩)/\tN=ze zd kO/\ph=.bool true/\Za w6.heap.size w6 wx/\wx.heap[kr]? =some (zg #[ze zd vv,za ad xl cg] 80 (0,0))/\wx.ownsRow (w.heap.size+4) 2 1 (za ad xl cg) xl (xs.map (ze zd)))
          case first=>
           go_wp2_with fail
           refine qG (S:=(fun W=>W.cell? ⟨w.heap.size,0,none⟩=some (ze zd n)/\W.cell? ⟨w.heap.size,1,none⟩=some (za a zl ac)/\W.cell? ⟨w.heap.size,2,none⟩=some (za ao ko co)/\W.cell? ⟨w.heap.size,3,none⟩=some (za (some ⟨bv,ov,none⟩) kv cv)/\W.cell? ⟨w.heap.size,4,none⟩=some (ze zd fine)/\W.cell? ⟨rb,0,none⟩=some (ze zd ab)/\W.cell? ⟨rb,1,none⟩=some (za aO rl bg)/\W.cell? ⟨w.heap.size+1,1,none⟩=some (za (some ⟨bl,ol,none⟩) ln lc)/\W.cell? ⟨bl,ol+i,none⟩=some (ze zd id))) (by kernel_rfl) ?_ fun aa=> ?_
           ·exact dq.X _ (y5 _ _).drew
           have BD:Zb (Za w6.heap.size w6 w6.drew):=(y5 _ _).drew;generalize w6.drew=wd at*;refine tkH 0 aa ?_;refine tkH 1 aa ?_;refine tkH 2 aa ?_;refine tkH 3 aa ?_;refine tkH 4 aa ?_;refine tkH 5 aa ?_;refine tkH 6 aa ?_;refine tkH 7 aa ?_;refine xQ (rs:=[8,13]) (by kernel_rfl) (by simp) ?_;refine xL rfl (fun K hK=> ?_) ?_
           ·skip
            go_simp;refine(CI.X wd BD.X).mono ?_;rintro e w1 ⟨hb,ad,cg,rfl,ho⟩;have B1:=za4 (BD.X.trans (hb.mono BD.X.size));rw[et.X,aY.X];have O1:Zb (w1.ownsRow (w.heap.size+4) 2 1 (za ad xl cg) xl (xs.map (ze zd))):=by
             rw[aY.X]at ho;exact zb5 ho (by have:=CJ.X;have:=BD.X.size;omega)
            clear ho;clear hb
            (try go_wp2_with fail)
            refine hoW hK (dq.X _ B1.X) fun aa=> ?_;clear hK K;refine tkH 9 aa ?_;refine tkH 10 aa ?_;refine tkH 11 aa ?_;refine tkH 12 aa ?_;refine rdH 13 fun K hK=> ?_;have BZ:Zb (Za w6.heap.size w6 (w1.alloc (zg #[ze zd 0,za none 0 0] 80))):=B1.X.alloc B1.X.size _;have aw:=za4 (zS w1 (zg #[ze zd 0,za none 0 0] 80));have aH:Zb (w6.heap.size<=w1.heap.size):=B1.X.size;have OZ:Zb (zk (w1.alloc (zg #[ze zd 0,za none 0 0] 80)) (w.heap.size+4) 2 1 (za ad xl cg) xl (xs.map (ze zd))):=O1.X.alloc _;go_simp;refine hoW hK (dq.X _ BZ.X) fun aa=> ?_;clear hK K;obtain⟨kr,cA⟩:=nmd w1.heap.size;rw[cA.X]at aw aH⊢;generalize(w1.alloc _)=wz at*;obtain⟨z0,z1⟩:=za1 aw.X;have zf:=fun i=>yZ _ _ i _ _ aw.X;refine rdH 14 fun K hK=> ?_;have B5:Zb (Za w6.heap.size w6 ((wz.setCell ⟨kr,0,none⟩ (ze zd vv)).setCell ⟨kr,1,none⟩ (za ad xl cg))):=(BZ.X.setCell aH.X _).setCell aH.X _;have s1:=xb wz kr 0 _ _ (ze zd vv) aw.X;have V5:Zb (((wz.setCell ⟨kr,0,none⟩ (ze zd vv)).setCell ⟨kr,1,none⟩ (za ad xl cg)).heap[kr]? =some (zg #[ze zd vv,za ad xl cg] 80 (0,0))):=by
             have s2:=xb _ kr 1 _ _ (za ad xl cg) s1;simp at s2;exact s2
            have O5:Zb (zk ((wz.setCell ⟨kr,0,none⟩ (ze zd vv)).setCell ⟨kr,1,none⟩ (za ad xl cg)) (w.heap.size+4) 2 1 (za ad xl cg) xl (xs.map (ze zd))):=zd8 (zd8 OZ.X aw.X) (xb _ kr 0 _ _ _ aw.X);have oH:Zb (w6.heap.size<=kr):=aH.X;clear s1;go_simp;refine hoW hK (dq.X _ B5.X) fun aa=> ?_;clear hK K;generalize((wz.setCell ⟨kr,0,none⟩ _).setCell ⟨kr,1,none⟩ _)=w5 at*;refine tkH 15 aa ?_;refine tkH 16 aa ?_;refine qF (by kernel_rfl) ?_ _;clear aa
            (try go_wp2_with fail)
            go_meet;exact⟨kr,ad,cg,rfl,rfl,rfl,B5.X,V5.X,O5.X⟩
           refine xL rfl (fun K hK=> ?_) xP;have BZ:Zb (Za w6.heap.size w6 (wd.alloc (zg #[ze zd 0,za none 0 0] 80))):=BD.X.alloc BD.X.size _;have aw:=za4 (zS wd (zg #[ze zd 0,za none 0 0] 80));have aH:Zb (w6.heap.size<=wd.heap.size):=BD.X.size;go_simp;refine hoW hK (dq.X _ BZ.X) fun aa=> ?_;clear hK K;obtain⟨kr,cA⟩:=nmd wd.heap.size;rw[cA.X]at aw aH⊢;generalize(wd.alloc _)=wz at*;obtain⟨z0,z1⟩:=za1 aw.X;have zf:=fun i=>yZ _ _ i _ _ aw.X;refine rdH 8 fun K hK=> ?_;go_simp;refine(CI.X wz BZ.X).mono ?_;rintro e w1 ⟨hb,ad,cg,rfl,ho⟩;have B1:=za4 (BZ.X.trans (hb.mono BZ.X.size));rw[et.X,aY.X];have O1:Zb (w1.ownsRow (w.heap.size+4) 2 1 (za ad xl cg) xl (xs.map (ze zd))):=by
            rw[aY.X]at ho;exact zb5 ho (by have:=CJ.X;have:=BZ.X.size;omega)
           clear ho;have gz:=za4 (za0 hb (za2 aw.X) aw.X);obtain⟨z0,z1⟩:=za1 gz.X;have zf:=fun i=>yZ _ _ i _ _ gz.X;clear hb
           (try go_wp2_with fail)
           refine hoW hK (dq.X _ B1.X) fun aa=> ?_;clear hK K;refine tkH 9 aa ?_;refine tkH 10 aa ?_;refine tkH 11 aa ?_;refine tkH 12 aa ?_;refine rdH 14 fun K hK=> ?_;have B5:Zb (Za w6.heap.size w6 ((w1.setCell ⟨kr,0,none⟩ (ze zd vv)).setCell ⟨kr,1,none⟩ (za ad xl cg))):=(B1.X.setCell aH.X _).setCell aH.X _;have s1:=xb w1 kr 0 _ _ (ze zd vv) gz.X;have V5:Zb (((w1.setCell ⟨kr,0,none⟩ (ze zd vv)).setCell ⟨kr,1,none⟩ (za ad xl cg)).heap[kr]? =some (zg #[ze zd vv,za ad xl cg] 80 (0,0))):=by
            have s2:=xb _ kr 1 _ _ (za ad xl cg) s1;simp at s2;exact s2
           have O5:Zb (zk ((w1.setCell ⟨kr,0,none⟩ (ze zd vv)).setCell ⟨kr,1,none⟩ (za ad xl cg)) (w.heap.size+4) 2 1 (za ad xl cg) xl (xs.map (ze zd))):=zd8 (zd8 O1.X gz.X) (xb _ kr 0 _ _ _ gz.X);have oH:Zb (w6.heap.size<=kr):=aH.X;clear s1;go_simp;refine hoW hK (dq.X _ B5.X) fun aa=> ?_;clear hK K;generalize((w1.setCell ⟨kr,0,none⟩ _).setCell ⟨kr,1,none⟩ _)=w5 at*;refine tkH 15 aa ?_;refine tkH 16 aa ?_;refine qF (by kernel_rfl) ?_ _;clear aa
           (try go_wp2_with fail)
           go_meet;exact⟨kr,ad,cg,rfl,rfl,rfl,B5.X,V5.X,O5.X⟩
          case rest=>
           obtain⟨kr,ad,cg,rfl,rfl,rfl,rS,mO,rK⟩:=hcut;obtain⟨w5,pq⟩:∃v,v=wc:=⟨_,rfl⟩;subst pq;have B5:=za4 rS;have V5:=za4 mO;have O5:=za4 rK;clear rS mO rK;clear CI dq et;have Q7:=za4 (Q6.X.below B5.X);have vK:Zb (w.heap.size+4<=w5.heap.size):=Q7.X.size;obtain⟨gx,e⟩:∃gx,ad=some ⟨gx,0,none⟩:=by
            rcases own_kinds O5.X with⟨_,h0⟩|⟨g,c,e,_,_⟩
            ·exact absurd (jg.1 (aY.X.trans h0)) eL.X.1
            ·simp only[qA]at e
             exact⟨g,e.1⟩
           subst e;have LS:=zw6 ra bl ol rc lc gx 0 cg R L vv xs w5 (HR.X.below Q7.X.b) (HL.X.below Q7.X.b) (zk7 O5.X) (by rw[HN.X];omega) (fun r hr=>⟨(HI.X r hr).1,by have:=(HI.X r hr).2.1;omega⟩) (by rw[HM.X];omega) ⟨eL.X.1,by have:=eL.X.2;omega⟩;rw[HN.X,HM.X,aY.X]at LS;obtain⟨p0,p1⟩:=za1 Q7.X.p;obtain⟨v0,v1⟩:=za1 V5.X
           go_wp2_with fail
           refine LS.mono ?_;rintro e w8 ⟨gJ,gA,i',jx,S8,rfl,iM,pn,jy⟩;obtain⟨n8,fN⟩:=nmd S8.length;rw[fN.X,HM.X];rw[fN.X,HM.X]at jy;have Q8:=za4 (Q7.X.below iM);have P8:=za4 jy;have FW:Zb (S8.map RT.key=(setL R (oneT R (id,ab,bi))).map RT.key):=by
            show _=_;rw[pn];refine ym8 HS.X eL.X.1 ?_;show(vv,xs)=(ab,insL (zc7 R ab).ids bi id);rw[An.X,sQ.X,oP.X]
           clear iM jy pn LS p0 p1 v0 v1 V5 O5 B5 Q7;obtain⟨q0,q1⟩:=za1 Q8.X.o;have qf:=fun i=>yZ _ _ i _ _ Q8.X.o;have s1:=xb w8 (w.heap.size+3) 0 _ _ (za gJ n8 gA) Q8.X.o;have s2:=xb _ (w.heap.size+3) 1 _ _ (za (some ⟨i',0,none⟩) ln jx) s1;simp at s2;have Q9:Zb (OQ w ((w8.setCell ⟨w.heap.size+3,0,none⟩ (za gJ n8 gA)).setCell ⟨w.heap.size+3,1,none⟩ (za (some ⟨i',0,none⟩) ln jx)) #[ze zd n,za a zl ac,za ao ko co,za (some ⟨bv,ov,none⟩) kv cv,ze zd fine] #[za ra nr rc,za (some ⟨bl,ol,none⟩) ln lc] (za gJ n8 gA) (za (some ⟨i',0,none⟩) ln jx)):=⟨(Q8.X.b.setCell (by simp) _).setCell (by simp) _,za8 (za8 Q8.X.c (by omega)) (by omega),za8 (za8 Q8.X.p (by omega)) (by omega),za8 (za8 Q8.X.a (by omega)) (by omega),s2⟩;have P9:Zb (PO ((w8.setCell ⟨w.heap.size+3,0,none⟩ (za gJ n8 gA)).setCell ⟨w.heap.size+3,1,none⟩ (za (some ⟨i',0,none⟩) ln jx)) (w.heap.size+4) (za gJ n8 gA) S8 (za (some ⟨i',0,none⟩) ln jx) L):=((P8.X.box Q8.X.o).box s1).base vK.X;clear s1 s2
           go_wp2_with fail
           clear q0 q1 qf Q8 P8;generalize((w8.setCell ⟨w.heap.size+3,0,none⟩ _).setCell ⟨w.heap.size+3,1,none⟩ _)=w9 at*;have uD:=fun(W:zi) (hW:Za w9.heap.size w9 W)=>zG5 (some ⟨bl,ol,none⟩) lc ln L id W (HL.X.below (Q9.X.below hW).b) HM.X (by omega)
           obtain⟨iY,jS⟩:=nmd ((zl5 L id).length);rw[jS.X]at uD;have CU:Zb _:=uD;have j9:Zb (∀W,Za w9.heap.size w9 W->(fun W=>W.cell? ⟨w.heap.size+1,1,none⟩=some (za (some ⟨bl,ol,none⟩) ln lc)/\W.cell? ⟨bl,ol+i,none⟩=some (ze zd id)) W):=fun W hW=>by
            have q:=Q9.X.below hW;exact⟨(za1 q.p).2,wF.X W q.b⟩
           clear uD;have kS:=j9.X _ (y5 _ _).drew
           go_region_held3 (fun W=>W.cell? ⟨w.heap.size+1,1,none⟩=some (za (some ⟨bl,ol,none⟩) ln lc)/\W.cell? ⟨bl,ol+i,none⟩=some (ze zd id)) (first|with_reducible exact kS|with_reducible exact kR|go_keep) ((first
            |(go_at_call 73
              with_reducible refine(CU.X w9.drew (y5 _ _).drew).mono ?_
              rintro e gQ ⟨jr,fy,rfl,hb,ho⟩;have nL:Zb (Za w9.heap.size w9 gQ):=(y5 _ _).drew.trans hb;have eY:=za4 (Q9.X.below nL.X);have wR:Zb (gQ.ownsRow (w.heap.size+4) 2 1 (za (some ⟨jr,0,none⟩) iY fy) iY ((zl5 L id).map (ze zd))):=zb5 ho Q9.X.size;have kS:=j9.X _ nL.X;have kR:(fun W=>W.cell? ⟨w.heap.size+1,1,none⟩=some (za (some ⟨bl,ol,none⟩) ln lc)/\W.cell? ⟨bl,ol+i,none⟩=some (ze zd id)) (gQ.setCell ⟨w.heap.size+3,1,none⟩ (za (some ⟨jr,0,none⟩) iY fy)):=⟨za5 kS.1 (by show w.heap.size+1≠w.heap.size+3;omega),wF.X _ (eY.X.b.setCell (by simp) _)⟩;obtain⟨q0,q1⟩:=za1 eY.X.o;have qf:=fun i=>yZ _ _ i _ _ eY.X.o;clear hb ho)))
           clear kS kR CU j9;have s1:=xb gQ (w.heap.size+3) 1 _ _ (za (some ⟨jr,0,none⟩) iY fy) eY.X.o;simp at s1;have l6:Zb (OQ w (gQ.setCell ⟨w.heap.size+3,1,none⟩ (za (some ⟨jr,0,none⟩) iY fy)) #[ze zd n,za a zl ac,za ao ko co,za (some ⟨bv,ov,none⟩) kv cv,ze zd fine] #[za ra nr rc,za (some ⟨bl,ol,none⟩) ln lc] (za gJ n8 gA) (za (some ⟨jr,0,none⟩) iY fy)):=⟨eY.X.b.setCell (by simp) _,za8 eY.X.c (by omega),za8 eY.X.p (by omega),za8 eY.X.a (by omega),s1⟩;have Ey:Zb (OU w (gQ.setCell ⟨w.heap.size+3,1,none⟩ (za (some ⟨jr,0,none⟩) iY fy)) #[za ra nr rc,za (some ⟨bl,ol,none⟩) ln lc] R L ⟨true,(id,ab,bi),kO⟩ (za gJ n8 gA) (za (some ⟨jr,0,none⟩) iY fy)):=.inr ⟨rfl,S8,⟨((P9.X.below nL.X).box eY.X.o).r,((P9.X.below nL.X).box eY.X.o).s,by show zk _ _ _ _ _ (zl5 L id).length _;rw[jS.X];exact zf8 wR.X eY.X.o (by decide)⟩,FW.X,jr,fy,by show _=za _ (zl5 L id).length _;rw[jS.X]⟩;clear s1 wR q0 q1 qf eY P9 nL Q9;go_wp2;go_roundw
           case rel=>exact⟨k+1,_,_,by omega,by first|rfl|go_num,by rw[bD.X],by rw[bD.X],l6.X,by rw[bD.X];exact Ey.X⟩
           case measure=>simp[intOf];omega
         ·subst h9
          obtain⟨d0,d1,d2,d3,d4⟩:=za7 Q6.X.c;go_upto_region 13 with fail;clear d0 d1 d2 d3 d4;go_cut [15,16,17]from 69 to 81 (fun p8 tN ph wx=>∃(kr:Nat) (ad:Option Zd) (cg:Nat),p8=.pointer (some ⟨kr,0,none⟩)/\tN=ze zd kO/\ph=.bool true/\Za w6.heap.size w6 wx/\wx.heap[kr]? =some (zg #[ze zd vv,za ad xl cg] 80 (0,0))/\wx.ownsRow (w.heap.size+4) 2 1 (za ad xl cg) xl (xs.map (ze zd)))
          case first=>
           go_wp2_with fail
           refine qG (S:=(fun W=>W.cell? ⟨w.heap.size,0,none⟩=some (ze zd n)/\W.cell? ⟨w.heap.size,1,none⟩=some (za a zl ac)/\W.cell? ⟨w.heap.size,2,none⟩=some (za ao ko co)/\W.cell? ⟨w.heap.size,3,none⟩=some (za (some ⟨bv,ov,none⟩) kv cv)/\W.cell? ⟨w.heap.size,4,none⟩=some (ze zd fine)/\W.cell? ⟨rb,0,none⟩=some (ze zd ab)/\W.cell? ⟨rb,1,none⟩=some (za aO rl bg)/\W.cell? ⟨w.heap.size+1,1,none⟩=some (za (some ⟨bl,ol,none⟩) ln lc)/\W.cell? ⟨bl,ol+i,none⟩=some (ze zd id))) (by kernel_rfl) ?_ fun aa=> ?_
           ·exact dq.X _ (y5 _ _).drew
           have BD:Zb (Za w6.heap.size w6 w6.drew):=(y5 _ _).drew;generalize w6.drew=wd at*;refine tkH 0 aa ?_;refine tkH 1 aa ?_;refine tkH 2 aa ?_;refine tkH 3 aa ?_;refine tkH 4 aa ?_;refine tkH 5 aa ?_;refine tkH 6 aa ?_;refine tkH 7 aa ?_;refine xQ (rs:=[8,13]) (by kernel_rfl) (by simp) ?_;refine xL rfl (fun K hK=> ?_) ?_
           ·skip
            go_simp;refine(CI.X wd BD.X).mono ?_;rintro e w1 ⟨hb,ad,cg,rfl,ho⟩;have B1:=za4 (BD.X.trans (hb.mono BD.X.size));rw[et.X,aY.X];have O1:Zb (w1.ownsRow (w.heap.size+4) 2 1 (za ad xl cg) xl (xs.map (ze zd))):=by
             rw[aY.X]at ho;exact zb5 ho (by have:=CJ.X;have:=BD.X.size;omega)
            clear ho;clear hb
            (try go_wp2_with fail)
            refine hoW hK (dq.X _ B1.X) fun aa=> ?_;clear hK K;refine tkH 9 aa ?_;refine tkH 10 aa ?_;refine tkH 11 aa ?_;refine tkH 12 aa ?_;refine rdH 13 fun K hK=> ?_;have BZ:Zb (Za w6.heap.size w6 (w1.alloc (zg #[ze zd 0,za none 0 0] 80))):=B1.X.alloc B1.X.size _;have aw:=za4 (zS w1 (zg #[ze zd 0,za none 0 0] 80));have aH:Zb (w6.heap.size<=w1.heap.size):=B1.X.size;have OZ:Zb (zk (w1.alloc (zg #[ze zd 0,za none 0 0] 80)) (w.heap.size+4) 2 1 (za ad xl cg) xl (xs.map (ze zd))):=O1.X.alloc _;go_simp;refine hoW hK (dq.X _ BZ.X) fun aa=> ?_;clear hK K;obtain⟨kr,cA⟩:=nmd w1.heap.size;rw[cA.X]at aw aH⊢;generalize(w1.alloc _)=wz at*;obtain⟨z0,z1⟩:=za1 aw.X;have zf:=fun i=>yZ _ _ i _ _ aw.X;refine rdH 14 fun K hK=> ?_;have B5:Zb (Za w6.heap.size w6 ((wz.setCell ⟨kr,0,none⟩ (ze zd vv)).setCell ⟨kr,1,none⟩ (za ad xl cg))):=(BZ.X.setCell aH.X _).setCell aH.X _;have s1:=xb wz kr 0 _ _ (ze zd vv) aw.X;have V5:Zb (((wz.setCell ⟨kr,0,none⟩ (ze zd vv)).setCell ⟨kr,1,none⟩ (za ad xl cg)).heap[kr]? =some (zg #[ze zd vv,za ad xl cg] 80 (0,0))):=by
             have s2:=xb _ kr 1 _ _ (za ad xl cg) s1;simp at s2;exact s2
            have O5:Zb (zk ((wz.setCell ⟨kr,0,none⟩ (ze zd vv)).setCell ⟨kr,1,none⟩ (za ad xl cg)) (w.heap.size+4) 2 1 (za ad xl cg) xl (xs.map (ze zd))):=zd8 (zd8 OZ.X aw.X) (xb _ kr 0 _ _ _ aw.X);have oH:Zb (w6.heap.size<=kr):=aH.X;clear s1;go_simp;refine hoW hK (dq.X _ B5.X) fun aa=> ?_;clear hK K;generalize((wz.setCell ⟨kr,0,none⟩ _).setCell ⟨kr,1,none⟩ _)=w5 at*;refine tkH 15 aa ?_;refine tkH 16 aa ?_;refine qF (by kernel_rfl) ?_ _;clear aa
            (try go_wp2_with fail)
            go_meet;exact⟨kr,ad,cg,rfl,rfl,rfl,B5.X,V5.X,O5.X⟩
           refine xL rfl (fun K hK=> ?_) xP;have BZ:Zb (Za w6.heap.size w6 (wd.alloc (zg #[ze zd 0,za none 0 0] 80))):=BD.X.alloc BD.X.size _;have aw:=za4 (zS wd (zg #[ze zd 0,za none 0 0] 80));have aH:Zb (w6.heap.size<=wd.heap.size):=BD.X.size;go_simp;refine hoW hK (dq.X _ BZ.X) fun aa=> ?_;clear hK K;obtain⟨kr,cA⟩:=nmd wd.heap.size;rw[cA.X]at aw aH⊢;generalize(wd.alloc _)=wz at*;obtain⟨z0,z1⟩:=za1 aw.X;have zf:=fun i=>yZ _ _ i _ _ aw.X;refine rdH 8 fun K hK=> ?_;go_simp;refine(CI.X wz BZ.X).mono ?_;rintro e w1 ⟨hb,ad,cg,rfl,ho⟩;have B1:=za4 (BZ.X.trans (hb.mono BZ.X.size));rw[et.X,aY.X];have O1:Zb (w1.ownsRow (w.heap.size+4) 2 1 (za ad xl cg) xl (xs.map (ze zd))):=by
            rw[aY.X]at ho;exact zb5 ho (by have:=CJ.X;have:=BZ.X.size;omega)
           clear ho;have gz:=za4 (za0 hb (za2 aw.X) aw.X);obtain⟨z0,z1⟩:=za1 gz.X;have zf:=fun i=>yZ _ _ i _ _ gz.X;clear hb
           (try go_wp2_with fail)
           refine hoW hK (dq.X _ B1.X) fun aa=> ?_;clear hK K;refine tkH 9 aa ?_;refine tkH 10 aa ?_;refine tkH 11 aa ?_;refine tkH 12 aa ?_;refine rdH 14 fun K hK=> ?_;have B5:Zb (Za w6.heap.size w6 ((w1.setCell ⟨kr,0,none⟩ (ze zd vv)).setCell ⟨kr,1,none⟩ (za ad xl cg))):=(B1.X.setCell aH.X _).setCell aH.X _;have s1:=xb w1 kr 0 _ _ (ze zd vv) gz.X;have V5:Zb (((w1.setCell ⟨kr,0,none⟩ (ze zd vv)).setCell ⟨kr,1,none⟩ (za ad xl cg)).heap[kr]? =some (zg #[ze zd vv,za ad xl cg] 80 (0,0))):=by
            have s2:=xb _ kr 1 _ _ (za ad xl cg) s1;simp at s2;exact s2
           have O5:Zb (zk ((w1.setCell ⟨kr,0,none⟩ (ze zd vv)).setCell ⟨kr,1,none⟩ (za ad xl cg)) (w.heap.size+4) 2 1 (za ad xl cg) xl (xs.map (ze zd))):=zd8 (zd8 O1.X gz.X) (xb _ kr 0 _ _ _ gz.X);have oH:Zb (w6.heap.size<=kr):=aH.X;clear s1;go_simp;refine hoW hK (dq.X _ B5.X) fun aa=> ?_;clear hK K;generalize((w1.setCell ⟨kr,0,none⟩ _).setCell ⟨kr,1,none⟩ _)=w5 at*;refine tkH 15 aa ?_;refine tkH 16 aa ?_;refine qF (by kernel_rfl) ?_ _;clear aa
           (try go_wp2_with fail)
           go_meet;exact⟨kr,ad,cg,rfl,rfl,rfl,B5.X,V5.X,O5.X⟩
          case rest=>
           obtain⟨kr,ad,cg,rfl,rfl,rfl,rS,mO,rK⟩:=hcut;obtain⟨w5,pq⟩:∃v,v=wc:=⟨_,rfl⟩;subst pq;have B5:=za4 rS;have V5:=za4 mO;have O5:=za4 rK;clear rS mO rK;clear CI dq et;have Q7:=za4 (Q6.X.below B5.X);have vK:Zb (w.heap.size+4<=w5.heap.size):=Q7.X.size;obtain⟨gx,e⟩:∃gx,ad=some ⟨gx,0,none⟩:=by
            rcases own_kinds O5.X with⟨_,h0⟩|⟨g,c,e,_,_⟩
            ·exact absurd (jg.1 (aY.X.trans h0)) eL.X.1
            ·simp only[qA]at e
             exact⟨g,e.1⟩
           subst e;have LS:=zw6 ra bl ol rc lc gx 0 cg R L vv xs w5 (HR.X.below Q7.X.b) (HL.X.below Q7.X.b) (zk7 O5.X) (by rw[HN.X];omega) (fun r hr=>⟨(HI.X r hr).1,by have:=(HI.X r hr).2.1;omega⟩) (by rw[HM.X];omega) ⟨eL.X.1,by have:=eL.X.2;omega⟩;rw[HN.X,HM.X,aY.X]at LS;obtain⟨p0,p1⟩:=za1 Q7.X.p;obtain⟨v0,v1⟩:=za1 V5.X
           go_wp2_with fail
           refine LS.mono ?_;rintro e w8 ⟨gJ,gA,i',jx,S8,rfl,iM,pn,jy⟩;obtain⟨n8,fN⟩:=nmd S8.length;rw[fN.X,HM.X];rw[fN.X,HM.X]at jy;have Q8:=za4 (Q7.X.below iM);have P8:=za4 jy;have FW:Zb (S8.map RT.key=(setL R (oneT R (id,ab,bi))).map RT.key):=by
            show _=_;rw[pn];refine ym8 HS.X eL.X.1 ?_;show(vv,xs)=(ab,insL (zc7 R ab).ids bi id);rw[An.X,sQ.X,oP.X]
           clear iM jy pn LS p0 p1 v0 v1 V5 O5 B5 Q7;obtain⟨q0,q1⟩:=za1 Q8.X.o;have qf:=fun i=>yZ _ _ i _ _ Q8.X.o;have s1:=xb w8 (w.heap.size+3) 0 _ _ (za gJ n8 gA) Q8.X.o;have s2:=xb _ (w.heap.size+3) 1 _ _ (za (some ⟨i',0,none⟩) ln jx) s1;simp at s2;have Q9:Zb (OQ w ((w8.setCell ⟨w.heap.size+3,0,none⟩ (za gJ n8 gA)).setCell ⟨w.heap.size+3,1,none⟩ (za (some ⟨i',0,none⟩) ln jx)) #[ze zd n,za a zl ac,za ao ko co,za (some ⟨bv,ov,none⟩) kv cv,ze zd fine] #[za ra nr rc,za (some ⟨bl,ol,none⟩) ln lc] (za gJ n8 gA) (za (some ⟨i',0,none⟩) ln jx)):=⟨(Q8.X.b.setCell (by simp) _).setCell (by simp) _,za8 (za8 Q8.X.c (by omega)) (by omega),za8 (za8 Q8.X.p (by omega)) (by omega),za8 (za8 Q8.X.a (by omega)) (by omega),s2⟩;have P9:Zb (PO ((w8.setCell ⟨w.heap.size+3,0,none⟩ (za gJ n8 gA)).setCell ⟨w.heap.size+3,1,none⟩ (za (some ⟨i',0,none⟩) ln jx)) (w.heap.size+4) (za gJ n8 gA) S8 (za (some ⟨i',0,none⟩) ln jx) L):=((P8.X.box Q8.X.o).box s1).base vK.X;clear s1 s2
           go_wp2_with fail
           clear q0 q1 qf Q8 P8;generalize((w8.setCell ⟨w.heap.size+3,0,none⟩ _).setCell ⟨w.heap.size+3,1,none⟩ _)=w9 at*;have uD:=fun(W:zi) (hW:Za w9.heap.size w9 W)=>zG5 (some ⟨bl,ol,none⟩) lc ln L id W (HL.X.below (Q9.X.below hW).b) HM.X (by omega)
           obtain⟨iY,jS⟩:=nmd ((zl5 L id).length);rw[jS.X]at uD;have CU:Zb _:=uD;have j9:Zb (∀W,Za w9.heap.size w9 W->(fun W=>W.cell? ⟨w.heap.size+1,1,none⟩=some (za (some ⟨bl,ol,none⟩) ln lc)/\W.cell? ⟨bl,ol+i,none⟩=some (ze zd id)) W):=fun W hW=>by
            have q:=Q9.X.below hW;exact⟨(za1 q.p).2,wF.X W q.b⟩
           clear uD;have kS:=j9.X _ (y5 _ _).drew
           go_region_held3 (fun W=>W.cell? ⟨w.heap.size+1,1,none⟩=some (za (some ⟨bl,ol,none⟩) ln lc)/\W.cell? ⟨bl,ol+i,none⟩=some (ze zd id)) (first|with_reducible exact kS|with_reducible exact kR|go_keep) ((first
            |(go_at_call 73
              with_reducible refine(CU.X w9.drew (y5 _ _).drew).mono ?_
              rintro e gQ ⟨jr,fy,rfl,hb,ho⟩;have nL:Zb (Za w9.heap.size w9 gQ):=(y5 _ _).drew.trans hb;have eY:=za4 (Q9.X.below nL.X);have wR:Zb (gQ.ownsRow (w.heap.size+4) 2 1 (za (some ⟨jr,0,none⟩) iY fy) iY ((zl5 L id).map (ze zd))):=zb5 ho Q9.X.size;have kS:=j9.X _ nL.X;have kR:(fun W=>W.cell? ⟨w.heap.size+1,1,none⟩=some (za (some ⟨bl,ol,none⟩) ln lc)/\W.cell? ⟨bl,ol+i,none⟩=some (ze zd id)) (gQ.setCell ⟨w.heap.size+3,1,none⟩ (za (some ⟨jr,0,none⟩) iY fy)):=⟨za5 kS.1 (by show w.heap.size+1≠w.heap.size+3;omega),wF.X _ (eY.X.b.setCell (by simp) _)⟩;obtain⟨q0,q1⟩:=za1 eY.X.o;have qf:=fun i=>yZ _ _ i _ _ eY.X.o;clear hb ho)))
           clear kS kR CU j9;have s1:=xb gQ (w.heap.size+3) 1 _ _ (za (some ⟨jr,0,none⟩) iY fy) eY.X.o;simp at s1;have l6:Zb (OQ w (gQ.setCell ⟨w.heap.size+3,1,none⟩ (za (some ⟨jr,0,none⟩) iY fy)) #[ze zd n,za a zl ac,za ao ko co,za (some ⟨bv,ov,none⟩) kv cv,ze zd fine] #[za ra nr rc,za (some ⟨bl,ol,none⟩) ln lc] (za gJ n8 gA) (za (some ⟨jr,0,none⟩) iY fy)):=⟨eY.X.b.setCell (by simp) _,za8 eY.X.c (by omega),za8 eY.X.p (by omega),za8 eY.X.a (by omega),s1⟩;have Ey:Zb (OU w (gQ.setCell ⟨w.heap.size+3,1,none⟩ (za (some ⟨jr,0,none⟩) iY fy)) #[za ra nr rc,za (some ⟨bl,ol,none⟩) ln lc] R L ⟨true,(id,ab,bi),kO⟩ (za gJ n8 gA) (za (some ⟨jr,0,none⟩) iY fy)):=.inr ⟨rfl,S8,⟨((P9.X.below nL.X).box eY.X.o).r,((P9.X.below nL.X).box eY.X.o).s,by show zk _ _ _ _ _ (zl5 L id).length _;rw[jS.X];exact zf8 wR.X eY.X.o (by decide)⟩,FW.X,jr,fy,by show _=za _ (zl5 L id).length _;rw[jS.X]⟩;clear s1 wR q0 q1 qf eY P9 nL Q9;go_wp2;go_roundw
           case rel=>exact⟨k+1,_,_,by omega,by first|rfl|go_num,by rw[bD.X],by rw[bD.X],l6.X,by rw[bD.X];exact Ey.X⟩
           case measure=>simp[intOf];omega
        ·have bD:Zb (fn (l1++sp2 R vs id (k+1))=⟨sf,ss,sv⟩):=by show _=_;rw[fF.X];exact ye (fun h=>jB h.2.2)
         clear fF dq;have nP:sf=true:=by cases sf;exact absurd (.inl rfl) jB;rfl
         subst nP;have dF:sv<=kO:=by rcases Int.lt_or_le kO sv with h|h;exact absurd (.inr h) jB;exact h
         obtain⟨d0,d1,d2,d3,d4⟩:=za7 Q6.X.c;go_wp2;go_roundw
         case rel=>exact⟨k+1,o0,o1,by omega,by first|rfl|go_num,by rw[bD.X],by rw[bD.X],Q6.X,by rw[bD.X];exact U6.X⟩
         case measure=>simp[intOf];omega
       ·have bD:Zb (fn (l1++sp2 R vs id (k+1))=⟨sf,ss,sv⟩):=by show _=_;rw[fF.X];exact ye (fun h=>hfi h.2.1)
        clear fF dq;have Cp:fine<kO:=by omega
        obtain⟨d0,d1,d2,d3,d4⟩:=za7 Q6.X.c;go_wp2;go_roundw
        case rel=>exact⟨k+1,o0,o1,by omega,by first|rfl|go_num,by rw[bD.X],by rw[bD.X],Q6.X,by rw[bD.X];exact U6.X⟩
        case measure=>simp[intOf];omega
    ·have ik:¬((k:Int)<(kv:Int)):=by omega
     have cV:k=kv:=by omega
     go_wp2;go_roundw
     case rel=>exact⟨i+1,o0,o1,by omega,by first|rfl|go_num,by rw[a8.X,cV],by rw[a8.X,cV],Q3.X,by have U9:=EI.X;rw[cV,<-a8.X]at U9;exact U9⟩
     case measure=>simp[intOf];omega
  ·have oC:¬((i:Int)<(ln:Int)):=by omega
   have oI:i=ln:=by omega
   have Mt:Zb (fn (sp3 R vs kv L i)=s9):=by show _=_;rw[oI];exact AL.X.symm
   rw[Mt.X]at U1⊢;rcases U1.X with⟨nP,fV⟩|⟨nP,S,nu,kM,g,c,e⟩
   ·simp only[Array.mk.injEq,List.cons.injEq,qt]at fV
    obtain⟨rfl,rfl⟩:=fV;have Bl:RX=R:=by rw[jG.X,nP];rfl
    have u6:LX=L:=by rw[ec.X,nP];rfl
    have CC:=zq0 ra bl ol rc lc R L wr (HR.X.below Q1.X.b) (HL.X.below Q1.X.b) (by rw[HN.X];omega) (fun r hr=>⟨(HI.X r hr).1,by have:=(HI.X r hr).2.1;omega⟩) (by rw[HM.X];omega);rw[HN.X,HM.X]at CC;have wP:=za4 Bl;have nk:=za4 u6;clear Bl u6;obtain⟨q0,q1⟩:=za1 Q1.X.o
    go_wp2_with fail
    refine CC.mono ?_;rintro e w2 ⟨ag,ai,bT,aj,S2,rfl,hb,hk,ho⟩;rw[HN.X,HM.X]at ho;rw[HN.X,HM.X];have Q2:=za4 (Q1.X.below hb);have P2:Zb (PO w2 (w.heap.size+4) (za ag nr ai) S2 (za (some ⟨bT,0,none⟩) ln aj) L):=ho.base (by have:=Q1.X.size;omega);have dV:Zb (S2.map RT.key=RX.map RT.key):=by show _=_;rw[wP.X];exact hk
    clear hb ho hk CC q0 q1;obtain⟨a0,a1⟩:=za1 Q2.X.a;have af:=fun i=>yZ _ _ i _ _ Q2.X.a;have s1:=xb w2 (w.heap.size+2) 0 _ _ (za ag nr ai) Q2.X.a;have P3:Zb (PO ((w2.setCell ⟨w.heap.size+2,0,none⟩ (za ag nr ai)).setCell ⟨w.heap.size+2,1,none⟩ (za (some ⟨bT,0,none⟩) ln aj)) (w.heap.size+4) (za ag nr ai) S2 (za (some ⟨bT,0,none⟩) ln aj) L):=(P2.X.box Q2.X.a).box s1;have B3:Zb (Za w.heap.size w ((w2.setCell ⟨w.heap.size+2,0,none⟩ (za ag nr ai)).setCell ⟨w.heap.size+2,1,none⟩ (za (some ⟨bT,0,none⟩) ln aj))):=(Q2.X.b.setCell (by simp) _).setCell (by simp) _;clear s1;go_wp2;refine xe (v:=.tuple #[.agg #[za ag nr ai,za (some ⟨bT,0,none⟩) ln aj],.bool s9.f]) (by simp[results,Tryz.results95,go_sem,a0,a1,nP]) rfl ?_;show yF0 _ _ _ _ _ _;exact⟨ag,_,ai,bT,_,aj,S2,by rw[nP],B3.X,by have:=congrArg zo dV.X;simp only[qz]at this;rw[this];rw[wP.X];exact HN.X,by rw[nk.X];exact HM.X,dV.X,by rw[nk.X];exact P3.X.base (by omega)⟩
   ·have Bl:RX=wrL R (oneT R s9.s):=by rw[jG.X,nP];rfl
    have u6:LX=zl5 L s9.s.1:=by rw[ec.X,nP];rfl
    obtain⟨sa,sc,e0⟩:=zp4 nu.r;subst e e0;have F_:(oneT R s9.s).ids≠[]/\(oneT R s9.s).ids.length<=13:=by
     have h2:=z56 (fun r hr=>(HI.X r hr).2.1) s9.s.2.1;refine⟨by unfold oneT insL;simp,?_⟩;unfold oneT insL;simp only[xS,yo,yh,qj];omega
    have lB:Zb (RX.map RT.key=S.map RT.key):=by show _=_;rw[Bl,kM,z66 HS.X F_.1]
    have EY:=zH4 L s9.s.1;rw[HM.X]at EY;obtain⟨LC,Pv⟩:=nmd (zl5 L s9.s.1);rw[Pv.X]at nu EY u6 Q1;have nk:=za4 u6;have Mb:S.length<=400:=by
     have h1:=congrArg zo kM;simp only[qz]at h1;have h2:=(zy7 R (oneT R s9.s)).2;rw[HN.X]at h2;omega
    have CC:=zq0 sa g 0 sc c S LC wr nu.at (zk7 nu.l) (by omega) (yp3 HI.X F_ kM) (by omega);obtain⟨nS,bD⟩:=nmd S.length;obtain⟨nC,DT⟩:=nmd LC.length;rw[bD.X,DT.X]at CC Q1;clear Bl u6 nu kM EY Mb F_;obtain⟨q0,q1⟩:=za1 Q1.X.o
    go_wp2_with fail
    refine CC.mono ?_;rintro e w2 ⟨ag,ai,bT,aj,S2,rfl,hb,hk,ho⟩;rw[bD.X,DT.X]at ho;rw[bD.X,DT.X];have Q2:=za4 (Q1.X.below hb);have P2:Zb (PO w2 (w.heap.size+4) (za ag nS ai) S2 (za (some ⟨bT,0,none⟩) nC aj) LC):=ho.base (by have:=Q1.X.size;omega);have dV:Zb (S2.map RT.key=RX.map RT.key):=by show _=_;rw[lB.X];exact hk
    clear hb ho hk CC q0 q1;obtain⟨a0,a1⟩:=za1 Q2.X.a;have af:=fun i=>yZ _ _ i _ _ Q2.X.a;have s1:=xb w2 (w.heap.size+2) 0 _ _ (za ag nS ai) Q2.X.a;have P3:Zb (PO ((w2.setCell ⟨w.heap.size+2,0,none⟩ (za ag nS ai)).setCell ⟨w.heap.size+2,1,none⟩ (za (some ⟨bT,0,none⟩) nC aj)) (w.heap.size+4) (za ag nS ai) S2 (za (some ⟨bT,0,none⟩) nC aj) LC):=(P2.X.box Q2.X.a).box s1;have B3:Zb (Za w.heap.size w ((w2.setCell ⟨w.heap.size+2,0,none⟩ (za ag nS ai)).setCell ⟨w.heap.size+2,1,none⟩ (za (some ⟨bT,0,none⟩) nC aj))):=(Q2.X.b.setCell (by simp) _).setCell (by simp) _;clear s1;go_wp2;refine xe (v:=.tuple #[.agg #[za ag nS ai,za (some ⟨bT,0,none⟩) nC aj],.bool s9.f]) (by simp[results,Tryz.results95,go_sem,a0,a1,nP]) rfl ?_;show yF0 _ _ _ _ _ _;exact⟨ag,_,ai,bT,_,aj,S2,by rw[nP],B3.X,by have:=congrArg zo dV.X;simp only[qz]at this;rw[this];have h2:=congrArg zo lB.X;simp only[qz]at h2;rw[h2];exact bD.X,by rw[nk.X];exact DT.X,dV.X,by rw[nk.X];exact P3.X.base (by omega)⟩
def yu7(W:zi)(k:Nat):Nat:=match W.cell? ⟨k,1,none⟩with
 |some (za _ n _)=>n
 |_=>0
theorem ye4{w:zi}{base size n rc k:Nat}{e:TypeId}{ra:Option Zd}{xs:List Value}(h:w.ownsRow base e size (za ra n rc) n xs)(hk:k<base):∀b off,ra=some ⟨b,off,none⟩->b≠k:=fun b off e9=>by
 rcases own_kinds h with⟨e1,_⟩|⟨g,c,e1,h2,_⟩
 ·simp only[qA]at e1
  rw[e1.1]at e9;cases e9
 ·simp only[qA]at e1
  rw[e1.1]at e9;simp only[jf,qg,qt]at e9;omega
theorem PO.is{w:zi}{base rn rc ln lc:Nat}{ra la:Option Zd}{S:List RT}{L:List Int}(h:PO w base (za ra rn rc) S (za la ln lc) L)(hn:S.length=rn)(hl:L.length=ln):zc3 w ra la rn ln S L:=by
 have hr:=h.r;have h2:=h.l;rw[hn]at hr;rw[hl]at h2;exact⟨hn,hl,zl9 hr (fun s hs=>(h.ints s hs).1),zk7 h2,z70 hr,z70 h2,fun r hr=>(h.ints r hr).2⟩
theorem PO.off{w:zi}{base rn rc ln lc k:Nat}{ra la:Option Zd}{S:List RT}{L:List Int}(h:PO w base (za ra rn rc) S (za la ln lc) L)(hn:S.length=rn)(hl:L.length=ln)(hk:k<base):Off k ra la S:=by
 have hr:=h.r;have h2:=h.l;rw[hn]at hr;rw[hl]at h2;exact⟨ye4 hr hk,ye4 h2 hk,fun s hs=>ye4 (h.s s hs) hk⟩
theorem PO.ad{w:zi}{base:Nat}{rs ls:Value}{S:List RT}{L:List Int}(h:PO w base rs S ls L)(hi:∀s∈S,s.ids≠[]):∀s∈S,∃g,s.a=some ⟨g,0,none⟩:=fun s hs=>by
 rcases own_kinds (h.s s hs)with⟨_,h0⟩|⟨g,c,e1,_,_⟩
 ·exact absurd (jg.1 h0) (hi s hs)
 ·simp only[qA]at e1
  exact⟨g,e1.1⟩
def yh5(w:zi)(T:List RT)(L:List Int)(e:Ending)(w':zi):Prop:=∃ra rn rc gl ln lc S,e=.returned (.agg #[za ra rn rc,za (some ⟨gl,0,none⟩) ln lc])/\Za w.heap.size w w'/\S.length=rn/\L.length=ln/\S.map RT.key=T.map RT.key/\PO w' w.heap.size (za ra rn rc) S (za (some ⟨gl,0,none⟩) ln lc) L
theorem zX8(n fine:Int)(a ao ra:Option Zd)(zl ac ko co bv ov kv cv nr rc bl ol ln lc:Nat)(zs os vs L:List Int)(R:List RT)(w:zi)(hA:za3 w a zs)(hO:za3 w ao os)(hV:za3 w (some ⟨bv,ov,none⟩) vs)(aN:zs.length=zl)(an:os.length=ko*6)(au:vs.length=kv*5)(aA:ko<=12)(aB:kv<=5)(bU:zd0 n zs os vs ko kv fine=true)(hP:zc3 w ra (some ⟨bl,ol,none⟩) nr ln R L)(hn:nr<=12)(gh:ln<=12)(hS:zf7 R)(hi:zw3 R)(l7:∀r∈R,∃g,r.a=some ⟨g,0,none⟩)(cX:∀k,w.heap.size<=k->Off k ra (some ⟨bl,ol,none⟩) R):
 Zc zh 44 #[.agg #[ze zd n,za a zl ac,za ao ko co,za (some ⟨bv,ov,none⟩) kv cv,ze zd fine],.agg #[za ra nr rc,za (some ⟨bl,ol,none⟩) ln lc]] w (yh5 w (grd n fine zs os vs ko kv L.length R L).1 (grd n fine zs os vs ko kv L.length R L).2):=by
 have HA:=za4 hA;have HO:=za4 hO;have HV:=za4 hV;have ck:=za4 aN;have aF:=za4 an;have aE:=za4 au;have cU:=za4 bU;have HP:=za4 hP;have HS:=za4 hS;have HI:=za4 hi;have DI:=za4 l7;have vQ:=za4 cX;clear hA hO hV aN an au bU hP hS hi l7 cX;obtain⟨TR,pG⟩:=nmd ((grd n fine zs os vs ko kv L.length R L).1);obtain⟨TL,dQ⟩:=nmd ((grd n fine zs os vs ko kv L.length R L).2);rw[pG.X,dQ.X];have Q0:Zb (GQ w (((w.alloc (zg #[ze zd n,za a zl ac,za ao ko co,za (some ⟨bv,ov,none⟩) kv cv,ze zd fine] 30)).alloc (zg #[za ra nr rc,za (some ⟨bl,ol,none⟩) ln lc] 33)).alloc (zg #[za none 0 0,za none 0 0] 33)) #[ze zd n,za a zl ac,za ao ko co,za (some ⟨bv,ov,none⟩) kv cv,ze zd fine] #[za ra nr rc,za (some ⟨bl,ol,none⟩) ln lc]):=by
  refine⟨((zP _).alloc (by simp) _).alloc (by simp;omega) _,?_,?_,?_⟩
  ·exact(xg _ _ (by simp;omega)).trans (xm _ _ _)
  ·exact(xg _ _ (by simp)).trans (xh _ _ _)
  ·have:=zS ((w.alloc (zg #[ze zd n,za a zl ac,za ao ko co,za (some ⟨bv,ov,none⟩) kv cv,ze zd fine] 30)).alloc (zg #[za ra nr rc,za (some ⟨bl,ol,none⟩) ln lc] 33)) (zg #[za none 0 0,za none 0 0] 33)
   simpa using this
 have kd:=za4 (HP.X.below Q0.X.b);go_enter Tryz.func44,Tryz.ntmps44
 go_wp2_with fail
 generalize((w.alloc _).alloc _).alloc _=W0 at*;go_loopw[6] (fun _ wr=>∃(aO:Option Zd) (bG bg ri rq bo dM:Nat) (R9:List RT) (L9:List Int),GQ w wr #[ze zd n,za a zl ac,za ao ko co,za (some ⟨bv,ov,none⟩) kv cv,ze zd fine] #[za aO bG bg,za (some ⟨ri,rq,none⟩) bo dM]/\zc3 wr aO (some ⟨ri,rq,none⟩) bG bo R9 L9/\Off (w.heap.size+1) aO (some ⟨ri,rq,none⟩) R9/\(∀r∈R9,∃g,r.a=some ⟨g,0,none⟩)/\bG+bo<=24/\bo<=12/\zf7 R9/\zw3 R9/\(grd n fine zs os vs ko kv L9.length R9 L9).1.map RT.key=TR.map RT.key/\(grd n fine zs os vs ko kv L9.length R9 L9).2=TL) (fun _ wr=>yu7 wr (w.heap.size+1))
 case atStart=>exact⟨ra,nr,rc,bl,ol,ln,lc,R,L,Q0.X,kd.X,vQ.X _ (by omega),DI.X,by omega,gh,HS.X,HI.X,by rw[pG.X],dQ.X⟩
 case round=>
  clear Q0 kd HP HS HI vQ DI;obtain⟨aO,bG,bg,ri,rq,bo,dM,R9,L9,hq,hp,ir,l7,Qg,bJ,hs,hi,jq,fW⟩:=hrel;have Q1:=za4 hq;have P1:=za4 hp;have S1:=za4 hs;have I1:=za4 hi;obtain⟨c0,c1,c2,c3,c4⟩:=za7 Q1.X.c;obtain⟨p0,p1⟩:=za1 Q1.X.p;have dS:Zb (yu7 wr (w.heap.size+1)=bo):=by show _=_;unfold yu7;rw[p1]
  have G1:=yv8 n fine a ao aO zl ac ko co bv ov kv cv bG bg ri rq bo dM zs os vs L9 R9 wr (HA.X.below Q1.X.b) (HO.X.below Q1.X.b) (HV.X.below Q1.X.b) ck.X aF.X aE.X aA aB cU.X P1.X.2.2.1 P1.X.1 (by omega) P1.X.2.2.2.1 P1.X.2.1 bJ S1.X I1.X l7;have eS:=ym5 n fine zs os vs ko kv (R:=R9) (L:=L9);have eU:=fun h=>zz5 n fine zs os vs ko kv (R:=R9) (L:=L9) h;have be:=yA2 (n:=n) (fine:=fine) (zs:=zs) (os:=os) (vs:=vs) (ko:=ko) (kv:=kv) (L:=L9) I1.X (by rw[P1.X.1];omega) (by rw[P1.X.2.1];omega);have j':=zV5 n fine zs os vs ko kv (L:=L9) S1.X;rw[P1.X.1]at eS;rw[P1.X.2.1]at eU;obtain⟨f,js⟩:=nmd ((zy2 n fine zs os vs ko kv R9 L9).f);obtain⟨RX,gE⟩:=nmd (zC4 n fine zs os vs ko kv R9 L9);obtain⟨LX,gF⟩:=nmd (zD4 n fine zs os vs ko kv R9 L9);have dD:Zb (f=true->(grd n fine zs os vs ko kv LX.length RX LX).1.map RT.key=TR.map RT.key/\(grd n fine zs os vs ko kv LX.length RX LX).2=TL/\LX.length<bo):=fun h=>by
   rw[yh9 n fine zs os vs ko kv (js.X.trans h),gE.X,gF.X]at jq fW;exact⟨jq,fW,by rw[<-gF.X];exact eU (js.X.trans h)⟩
  have pR:Zb (f=false->R9.map RT.key=TR.map RT.key/\L9=TL):=fun h=>by
   rw[yj3 n fine zs os vs ko kv (js.X.trans h)]at jq fW;exact⟨jq,fW⟩
  rw[js.X,gE.X,gF.X]at G1;rw[gE.X]at be j' eS;have mL:=za4 eS;have gi:Zb (∀r∈RX,r.ids≠[]/\r.ids.length<=12):=be.1;have eV:=za4 j';clear hq hp hs hi jq fW eS eU be j' l7 ir js gE gF
  go_wp2_with fail
  refine G1.mono ?_;rintro e w2 ⟨ag,eb,ai,bT,dB,aj,S2,rfl,hb,bh,dh,cN,cZ⟩;have bW:=Q1.X.size;have Q2:=za4 (Q1.X.below hb);have P2:=za4 (P1.X.below hb);have O2:=za4 cZ;have fF:=za4 bh;have fR:=za4 dh;have dV:=za4 cN;have i_:=za4 bW;clear hb cZ bh dh cN G1 c0 c1 c2 c3 c4 p0 p1 Q1 P1 bW;have QA:Zb (GQ w (w2.alloc (zg #[za ag eb ai,za (some ⟨bT,0,none⟩) dB aj] 33)) #[ze zd n,za a zl ac,za ao ko co,za (some ⟨bv,ov,none⟩) kv cv,ze zd fine] #[za aO bG bg,za (some ⟨ri,rq,none⟩) bo dM]):=Q2.X.below (zP _);have PA:Zb (zc3 (w2.alloc (zg #[za ag eb ai,za (some ⟨bT,0,none⟩) dB aj] 33)) aO (some ⟨ri,rq,none⟩) bG bo R9 L9):=P2.X.below (zP _);have OA:Zb (PO (w2.alloc (zg #[za ag eb ai,za (some ⟨bT,0,none⟩) dB aj] 33)) wr.heap.size (za ag eb ai) S2 (za (some ⟨bT,0,none⟩) dB aj) LX):=O2.X.below (zP _);have NA:=za4 (zS w2 (zg #[za ag eb ai,za (some ⟨bT,0,none⟩) dB aj] 33));obtain⟨p0,p1⟩:=za1 QA.X.p;obtain⟨n0,n1⟩:=za1 NA.X;cases f
  ·obtain⟨hk,hl⟩:=pR.X rfl
   have HK:=za4 hk;have eM:=za4 hl;clear hk hl;have CC:=zq0 aO ri rq bg dM R9 L9 (w2.alloc (zg #[za ag eb ai,za (some ⟨bT,0,none⟩) dB aj] 33)) PA.X.2.2.1 PA.X.2.2.2.1 (by rw[PA.X.1];omega) (fun r hr=>⟨(I1.X r hr).1,by have:=(I1.X r hr).2.1;omega⟩) (by rw[PA.X.2.1];omega);rw[PA.X.1,PA.X.2.1]at CC
   go_wp2_with fail
   generalize w2.alloc _=w3 at*;refine CC.mono ?_;rintro e w4 ⟨aW,bj,oa,bq,S4,rfl,hb,eK,cZ⟩;rw[PA.X.1,PA.X.2.1]at cZ;rw[PA.X.1,PA.X.2.1];have Q4:=za4 (QA.X.below hb);have P4:Zb (PO w4 (w.heap.size+3) (za aW bG bj) S4 (za (some ⟨oa,0,none⟩) bo bq) L9):=cZ.base (by have:=QA.X.size;omega);have My:=za4 (eK.trans HK.X);have Gn:Zb (S4.length=bG):=by have:=congrArg zo eK;simp only[qz]at this;exact this.trans PA.X.1
   have vg:Zb (L9.length=bo):=PA.X.2.1;clear hb eK cZ CC p0 p1 n0 n1 NA QA PA OA;obtain⟨a0,a1⟩:=za1 Q4.X.o;have af:=fun i=>yZ _ _ i _ _ Q4.X.o;have s1:=xb w4 (w.heap.size+2) 0 _ _ (za aW bG bj) Q4.X.o;have P5:Zb (PO ((w4.setCell ⟨w.heap.size+2,0,none⟩ (za aW bG bj)).setCell ⟨w.heap.size+2,1,none⟩ (za (some ⟨oa,0,none⟩) bo bq)) (w.heap.size+3) (za aW bG bj) S4 (za (some ⟨oa,0,none⟩) bo bq) L9):=(P4.X.box Q4.X.o).box s1;have B5:Zb (Za w.heap.size w ((w4.setCell ⟨w.heap.size+2,0,none⟩ (za aW bG bj)).setCell ⟨w.heap.size+2,1,none⟩ (za (some ⟨oa,0,none⟩) bo bq))):=(Q4.X.b.setCell (by simp) _).setCell (by simp) _;clear s1;go_wp2;refine xe (v:=.agg #[za aW bG bj,za (some ⟨oa,0,none⟩) bo bq]) (by simp[results,Tryz.results44,go_sem,a0,a1]) rfl ?_;show yh5 _ _ _ _ _;exact⟨aW,bG,bj,oa,bo,bq,S4,rfl,B5.X,Gn.X,by rw[<-eM.X];exact vg.X,My.X,by rw[<-eM.X];exact P5.X.base (by omega)⟩
  ·obtain⟨jq,fW,ah⟩:=dD.X rfl
   have pf:=fun i=>yZ _ _ i _ _ QA.X.p;have s1:=xb (w2.alloc (zg #[za ag eb ai,za (some ⟨bT,0,none⟩) dB aj] 33)) (w.heap.size+1) 0 _ _ (za ag eb ai) QA.X.p;have s2:=xb _ (w.heap.size+1) 1 _ _ (za (some ⟨bT,0,none⟩) dB aj) s1;simp at s2;have Q3:Zb (GQ w (((w2.alloc (zg #[za ag eb ai,za (some ⟨bT,0,none⟩) dB aj] 33)).setCell ⟨w.heap.size+1,0,none⟩ (za ag eb ai)).setCell ⟨w.heap.size+1,1,none⟩ (za (some ⟨bT,0,none⟩) dB aj)) #[ze zd n,za a zl ac,za ao ko co,za (some ⟨bv,ov,none⟩) kv cv,ze zd fine] #[za ag eb ai,za (some ⟨bT,0,none⟩) dB aj]):=⟨(QA.X.b.setCell (by simp) _).setCell (by simp) _,za8 (za8 QA.X.c (by omega)) (by omega),s2,za8 (za8 QA.X.o (by omega)) (by omega)⟩;have O3:Zb (PO (((w2.alloc (zg #[za ag eb ai,za (some ⟨bT,0,none⟩) dB aj] 33)).setCell ⟨w.heap.size+1,0,none⟩ (za ag eb ai)).setCell ⟨w.heap.size+1,1,none⟩ (za (some ⟨bT,0,none⟩) dB aj)) wr.heap.size (za ag eb ai) S2 (za (some ⟨bT,0,none⟩) dB aj) LX):=(OA.X.box QA.X.p).box s1;have mR:Zb (yu7 (((w2.alloc (zg #[za ag eb ai,za (some ⟨bT,0,none⟩) dB aj] 33)).setCell ⟨w.heap.size+1,0,none⟩ (za ag eb ai)).setCell ⟨w.heap.size+1,1,none⟩ (za (some ⟨bT,0,none⟩) dB aj)) (w.heap.size+1)=dB):=by show _=_;unfold yu7;rw[(za1 s2).2]
   have f_:eb=RX.length:=by rw[<-fF.X];have:=congrArg zo dV.X;simpa using this
   have tq:eb+dB<=24/\dB<=12/\dB<bo:=by have:=mL.X;have:=fR.X;omega
   have T1:=za4 jq;have T2:=za4 fW;obtain⟨oc,nv,m9⟩:=tq;clear s1 s2 jq fW ah f_;go_wp2;go_roundw
   case rel=>exact⟨ag,eb,ai,bT,0,dB,aj,S2,LX,Q3.X,O3.X.is fF.X fR.X,O3.X.off fF.X fR.X (by have:=i_.X;omega),O3.X.ad (fun s hs=>(z05 dV.X gi.X s hs).1),oc,nv,zZ0 dV.X eV.X,fun r hr=>⟨(z05 dV.X gi.X r hr).1,(z05 dV.X gi.X r hr).2,(O3.X.ints r hr).2⟩,(z88 n fine zs os vs ko kv LX.length LX dV.X).1.trans T1.X,(z88 n fine zs os vs ko kv LX.length LX dV.X).2.trans T2.X⟩
   case measure=>rw[dS.X,mR.X];exact m9
