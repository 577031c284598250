import Derived.Test.YtkchnomkiboihaaGreatPack40
set_option linter.unusedSimpArgs false
set_option maxHeartbeats 8000000
set_option maxRecDepth 20000
namespace Go.Proofs.YtkchnomkiboihaaGreat
open Value renaming slice→za,int→ze
open IntKind renaming i64→zd
open Obj renaming cells→zg
open Proofs.Tryz renaming prog→zh
open Go renaming World→zi
open World renaming ownsRow→zk
open List renaming length→zo
open Go.RowKit
open Q
def yc1(n fine:Int)(zs os vs:List Int)(ko kv:Nat)(S P:List Int)(last:Int)(ra:Option Addr)(nR rc:Nat)(la:Option Addr)(l lc:Nat)(R:List RT)(L:List Int)(w:zi)(e:Ending)(w':zi):Prop:=
 Below w.heap.size w w'∧
 ((zc1 n zs os vs ko kv fine (lvF S P R L P.length).1 (lvF S P R L P.length).2=0/\∃(ag:Option Addr) (n2 ai:Nat) (ak:Option Addr) (l2 aj:Nat) (R2:List RT) (L2:List Int),e=.returned (.tuple #[.agg #[za ag n2 ai,za ak l2 aj],ze zd last,.bool true])/\za9 w' ag R2/\R2.length=n2/\za3 w' ak L2/\L2.length=l2/\R2.map RT.key=(lvF S P R L P.length).1.map RT.key/\L2=(lvF S P R L P.length).2/\LvI S P L.length P.length R2 L2/\((ak=none/\l2=0)∨∃b off,ak=some ⟨b,off,none⟩)/\((ag=none/\R2.length=0)∨∃b off,ag=some ⟨b,off,none⟩)/\(∀r∈R2,r.ids.length<=r.c)/\(∀k,k<w.heap.size->zi8 k ra la R L->zi8 k ag ak R2 L2))∨
  (zc1 n zs os vs ko kv fine (lvF S P R L P.length).1 (lvF S P R L P.length).2≠0/\e=.returned (.tuple #[.agg #[za ra nR rc,za la l lc],ze zd last,.bool false])))
theorem zP5:∀(R:List RT),(∀r∈R,r.ids.length<=12)->(R.flatMap RT.ids).length<=12*R.length
 |[],_=>by simp
 |r::R,h=>by
  have h1:=h r (yB ..);have h2:=zP5 R (fun x hx=>h x (yt _ hx));rw[jc,xS,yo];omega
theorem zH6(n fine nK kk:Int)(a ao av ra la:Option Addr)(zl ac ko co kv cv nR rc l lc kb cb:Nat)(zs os vs:List Int)(R:List RT)(L S P:List Int)(N m:Nat)(K last:Int)(w:zi)(hA:za3 w a zs)(vF:zs.length=zl)(hO:za3 w ao os)(hV:za3 w av vs)(an:os.length=ko*6)(au:vs.length=kv*5)(ay:ko<=9223372036854775807)(aB:kv<=9223372036854775807)(bT:zd0 n zs os vs ko kv fine=true)
 (hR:za9 w ra R) (hn:R.length=nR) (hL:za3 w la L) (hl:L.length=l) (bF:l+N<=12) (J3:(ra=none/\R.length=0)∨∃b off,ra=some ⟨b,off,none⟩) (js:(la=none/\l=0)∨∃b off,la=some ⟨b,off,none⟩) (hc:∀r∈R,r.ids.length<=r.c)
 (hS:zr5 (zb0 R R.length)=S) (hN:S.length=N) (hK:min kk (N:Int)=K) (hP:zs4 nK N K=P) (hm:P.length=m) (lg:z86 nK N K=last) (hI:LvI S P L.length 0 R L) (hd:∀i j,i<j->j<P.length->pkd S P i≠pkd S P j) (hp:∀i,i<m->0<=P.getD i 0/\P.getD i 0<N) (Qo:m<=N)
 (gQ:∀x∈(lvF S P R L m).2,(Lit.int zd x).wf=true) (dB:w.cell? ⟨kb,0,none⟩=some (ze zd kk)) (iT:w.heap[cb]? =some (zg #[ze zd n,za a zl ac,za ao ko co,za av kv cv,ze zd fine] 30 (0,0))):
 Calls zh 112 #[.agg #[za ra nR rc,za la l lc],ze zd nK,.pointer (some ⟨kb,0,none⟩),.pointer (some ⟨cb,0,none⟩)] w (yc1 n fine zs os vs ko kv S P last ra nR rc la l lc R L w):=by
 have B0:Hid (Below w.heap.size w ((w.alloc (zg #[za ra nR rc,za la l lc] 33)).alloc (zg #[za none 0 0,za none 0 0] 33))):=(zP _).alloc (by simp) _;have P0:Hid (((w.alloc (zg #[za ra nR rc,za la l lc] 33)).alloc (zg #[za none 0 0,za none 0 0] 33)).heap[w.heap.size]? =some (zg #[za ra nR rc,za la l lc] 33 (0,0))):=xm _ _ _;have Q0:Hid (((w.alloc (zg #[za ra nR rc,za la l lc] 33)).alloc (zg #[za none 0 0,za none 0 0] 33)).heap[w.heap.size+1]? =some (zg #[za none 0 0,za none 0 0] 33 (0,0))):=xh _ _ _;have HA:=za4 hA;have HO:=za4 hO;have HV:=za4 hV;have HR:=za4 hR;have HL:=za4 hL;have HI:=za4 hI;have HD:=za4 hd;have HP:=za4 hp;have HC:=za4 hc;have fe:=za4 J3;have fd:=za4 js;have iB:=za4 gQ;have HM:=za4 hm;have oL:=za4 hN;have iy:=za4 hn;have dW:=za4 hl;have fw:=za4 dB;have cZ:=za4 iT;have SB:Hid (∀W,Below w.heap.size w W->Calls zh 113 #[.agg #[za ra nR rc,za la l lc]] W fun e w'=>∃sl,e=.returned sl/\Below W.heap.size W w'/\w'.ownsRow W.heap.size 2 1 sl N (S.map (ze zd))):=fun W hW=>by
  have aL:(zb0 R R.length).length<=12:=by rw[<-zn9,hS,hN];omega
  have h:=z99 ra la rc l lc R W (HR.X.below hW) (by have:=HI.X.ln;omega) (fun j hj=>HI.X.ne _ (zh2 hj)) HI.X.nd aL;rw[hS,hN,hn]at h;exact h
 have PK:Hid (∀W,Calls zh 114 #[ze zd nK,ze zd N,ze zd K] W fun e w'=>∃sl,e=.returned (.tuple #[sl,ze zd last])/\Below W.heap.size W w'/\w'.ownsRow W.heap.size 2 1 sl m (P.map (ze zd))):=fun W=>by
  have h:=zK3 nK N K W;rw[lg,hP,hm]at h;refine h.mono ?_;rintro e w' ⟨sl,he,hb,_,ho⟩;exact⟨sl,he,hb,ho⟩
 have Ci:Hid (∀W (ag ak:Option Addr) (n2 ai l2 aj:Nat) (R2:List RT) (L2:List Int),Below w.heap.size w W->za9 W ag R2->R2.length=n2->za3 W ak L2->L2.length=l2->LvI S P L.length m R2 L2->R2.map RT.key=(lvF S P R L m).1.map RT.key->L2=(lvF S P R L m).2->(∀r∈R2,r.ids.length<=r.c)->Calls zh 47 #[.agg #[ze zd n,za a zl ac,za ao ko co,za av kv cv,ze zd fine],.agg #[za ag n2 ai,za ak l2 aj]] W fun e w'=>e=.returned (ze zd (zc1 n zs os vs ko kv fine (lvF S P R L m).1 (lvF S P R L m).2))/\Below W.heap.size W w'):=fun W ag ak n2 ai l2 aj R2 L2 hW h1 h2 h3 h4 h5 h6 h7 h8=>by
  have cT:(zb0 R2 R2.length).length<=1048576:=by
   rw[zb8];have:=zP5 R2 h5.sm;have:=h5.ln;omega
  have h:=zA1 n fine a ao av ag ak ac ko co kv cv ai aj zs os vs L2 R2 W (HA.X.below hW) (HO.X.below hW) (HV.X.below hW) h1 h3 an au ay aB (by have:=h5.ln;omega) (fun r hr=>by have:=h5.sm r hr;omega) h8 (by rw[h5.ll];omega) cT (by rw[h7];exact iB.X) bT;rw[vF,h2,h4,zd6 L2 h6]at h;rw[<-h7];exact h
 clear hA hO hV an au ay aB bT hR hn hL hl J3 js hc hS hN hP hm lg hI hd hp gQ dB iT vF;generalize hF:lvF S P R L m=F at Ci iB;have HF:=za4 hF;clear hF iB;obtain⟨pv,cJ⟩:=nmd (zc1 n zs os vs ko kv fine F.1 F.2);rw[cJ.X]at Ci;obtain⟨p1,p2⟩:=za1 P0.X;go_enter Tryz.func112,Tryz.ntmps112
 go_wp2_with fail
 clear p1 p2;generalize(w.alloc _).alloc _=W0 at*;obtain⟨q,HQ⟩:=nmd w.heap.size;obtain⟨q1,gI⟩:=nmd (w.heap.size+1);rw[gI.X]at Q0⊢;rw[HQ.X]at P0
 try rw[HQ.X]
 refine(SB.X W0 B0.X).mono ?_;rintro e w1 ⟨sl,rfl,hb,ho⟩;obtain⟨sa,sc,bg⟩:=zh0 ho;subst bg;have B1:=za4 (B0.X.trans (hb.mono B0.X.size));have P1:=za4 (za0 hb (za2 P0.X) P0.X);have Q1:=za4 (za0 hb (za2 Q0.X) Q0.X);have S1:Hid (za3 w1 sa S):=ze8 ho;clear hb ho B0 P0 Q0 SB;have kc:=keepL fw.X B1.X
 go_wp2_with fail
 clear kc;refine(PK.X w1).mono ?_;rintro e w2 ⟨Qn,rfl,hb,ho⟩;obtain⟨pa,pc,bg⟩:=zh0 ho;subst bg;have B2:=za4 (B1.X.trans (hb.mono B1.X.size));have P2:=za4 (za0 hb (za2 P1.X) P1.X);have Q2:=za4 (za0 hb (za2 Q1.X) Q1.X);have S2:=za4 (S1.X.below hb);have O2:Hid (za3 w2 pa P):=ze8 ho;clear hb ho B1 P1 Q1 S1 PK;have D3:Hid (DL w2 (w2.alloc (zg #[za ra nR rc,za la l lc] 33)) S P R L ra la 0 ra nR rc la l lc R L):=by
  have h2:Below w2.heap.size w2 (w2.alloc (zg #[za ra nR rc,za la l lc] 33)):=zP _;have hw:=B2.X.trans (h2.mono B2.X.size);exact⟨h2,zS _ _,HR.X.below hw,iy.X,HL.X.below hw,dW.X,HI.X,rfl,rfl,fe.X,fd.X,HC.X,fun _ _ h=>h⟩
 obtain⟨p1,p2⟩:=za1 P2.X
 go_wp2_with fail
 clear p1 p2;generalize w2.alloc _=W3 at*;go_loopw[32] (fun t wr=>∃(i:Nat) (ag:Option Addr) (n2 ai:Nat) (ak:Option Addr) (l2 aj:Nat) (R2:List RT) (L2:List Int),i<=m/\t=ze zd i/\DL w2 wr S P R L ra la i ag n2 ai ak l2 aj R2 L2) (fun t _=>m - (intOf t).toNat)
 case atStart=>exact⟨0,ra,nR,rc,la,l,lc,R,L,xi _,rfl,D3.X⟩
 case round=>
  clear D3;obtain⟨i,ag,n2,ai,ak,l2,aj,R2,L2,hi,rfl,hD⟩:=hrel;have DR:=za4 hD;clear hD;by_cases ah:i<m
  ·have ek:(i:Int)<(m:Int):=by omega
   obtain⟨pk,BF⟩:=xp (HP.X i ah).1;have wJ:=za4 BF;have FS:pk<N:=by have:=(HP.X i ah).2;omega
   clear BF;obtain⟨bp,op,Fp,jG⟩:=(O2.X.below DR.X.b) i (by rw[HM.X];exact ah);obtain⟨bs,Od,G9,cw⟩:=(S2.X.below DR.X.b) pk (by rw[oL.X];exact FS);subst Fp;subst G9;rw[wJ.X]at jG;have HX:Hid (S.getD pk 0=pkd S P i):=by show _=_;unfold pkd;rw[wJ.X];rfl
   rw[HX.X]at cw;obtain⟨k,at_,hk,aZ,h_,bd,cB⟩:=DR.X.iv.at (DR.X.iv.mm i (zT _) (by rw[HM.X];exact ah));have LV:Hid (∀W,Below wr.heap.size wr W->Calls zh 115 #[.agg #[za ag n2 ai,za ak l2 aj],ze zd (pkd S P i)] W (zI0 W R2 L2 (pkd S P i) (R2.getD k rt0) at_)):=fun W hW=>by
    have D:=DR.X.below hW;have dm:=D.iv.ll;rw[dW.X]at dm;have gu:=D.ln;exact yf1 ag ak n2 ai l2 aj k R2 L2 (pkd S P i) W D.r D.rn (by have:=D.iv.ln;have:=D.rn;omega) D.iv.rs D.fr D.s D.ln (by omega) (yg0 D.iv.up) D.fl (fun j hj=>D.iv.sm _ (zh2 hj)) hk aZ at_ h_ bd
   have En:Hid (∀W e w1,Below wr.heap.size wr W->zI0 W R2 L2 (pkd S P i) (R2.getD k rt0) at_ e w1->∃(bL:Option Addr) (n3 bV:Nat) (fT:Option Addr) (l3 bX:Nat) (R3:List RT) (L3:List Int),e=.returned (.agg #[za bL n3 bV,za fT l3 bX])/\Below W.heap.size W w1/\DL w2 ((w1.setCell ⟨w2.heap.size,0,none⟩ (za bL n3 bV)).setCell ⟨w2.heap.size,1,none⟩ (za fT l3 bX)) S P R L ra la (i+1) bL n3 bV fT l3 bX R3 L3):=fun W e w1 hW ht=>(DR.X.below hW).step HD.X (by rw[HM.X];exact ah) hk bd cB ht
   clear hk aZ h_ bd cB;obtain⟨x,g_⟩:=nmd (pkd S P i);rw[g_.X]at cw LV En;obtain⟨y0,y1⟩:=za1 DR.X.x;have z0:=fun s:Kin wr=>s.cell y0;have z1:=fun s:Kin wr=>s.cell y1;have z2:=fun s:Kin wr=>s.cell cw;have aV:=Kin.there wr
   go_wp2_with fail
   refine zm4 5 (by kernel_rfl) (by kernel_rfl) ?_;simp only[List.take_succ_cons,qM,List.drop_succ_cons,List.drop_zero]
   repeat(go_big_quiet_step (fail))
   refine xA ?_;rintro _ ⟨s,rfl⟩;clear z0 z1 z2 aV y0 y1 jG cw;have BS:=za4 (s.below);generalize s.w=w5 at*
   go_wp2_with fail
   refine(LV.X w5 BS.X).mono ?_;intro e w6 ht;obtain⟨bL,n3,bV,fT,l3,bX,R3,L3,rfl,ir,vq⟩:=En.X w5 e w6 BS.X ht;have D6:=za4 vq;have X6:Hid (w6.heap[w2.heap.size]? =some (zg #[za ag n2 ai,za ak l2 aj] 33 (0,0))):=by
    have h5:=za0 BS.X (za2 DR.X.x) DR.X.x;exact za0 ir (za2 h5) h5
   clear ht ir vq LV En BS DR;obtain⟨y0,y1⟩:=za1 X6.X;have yf:=fun i=>yZ _ _ i _ _ X6.X;go_wp2
   first
    |exact⟨⟨i+1,bL,n3,bV,fT,l3,bX,R3,L3,by omega,by go_num,D6.X⟩,by simp[intOf];omega⟩
    |(go_roundw
      case rel=>exact⟨i+1,bL,n3,bV,fT,l3,bX,R3,L3,by omega,by go_num,D6.X⟩
      case measure=>simp[intOf];omega)
  ·have oK:i=m:=by omega
   subst oK;have aW:¬((i:Int)<(i:Int)):=by omega
   clear ah;have B5:=za4 (B2.X.trans (DR.X.b.mono B2.X.size));obtain⟨c0,c1,c2,c3,c4⟩:=za7 (za0 B5.X (za2 cZ.X) cZ.X);obtain⟨y0,y1⟩:=za1 DR.X.x;have PC:=Ci.X wr ag ak n2 ai l2 aj R2 L2 B5.X DR.X.r DR.X.rn DR.X.s DR.X.ln DR.X.iv (by rw[<-HF.X];exact DR.X.kr) (by rw[<-HF.X];exact DR.X.kl) DR.X.c
   go_wp2_with fail
   clear c0 c1 c2 c3 c4 y0 y1;refine PC.mono ?_;rintro e w7 ⟨rfl,jE⟩;have D7:=za4 (DR.X.below jE);have B7:=za4 (B2.X.trans (D7.X.b.mono B2.X.size));have P7:=za4 (za0 D7.X.b (za2 P2.X) P2.X);have Q7:=za4 (za0 D7.X.b (za2 Q2.X) Q2.X);have oW:w.heap.size<=q1:=by have:=gI.X;omega
   clear jE PC Ci DR B5 P2 Q2 S2 O2;obtain⟨v0,v1⟩:=za1 Q7.X;have vf:=fun i=>yZ _ _ i _ _ Q7.X;by_cases hz:pv=0
   ·have ba:(pv !=0)=false:=by rw[hz];rfl
    have bD:((w7.setCell ⟨q1,0,none⟩ (za ag n2 ai)).setCell ⟨q1,1,none⟩ (za ak l2 aj)).heap[q1]? =some (zg #[za ag n2 ai,za ak l2 aj] 33 (0,0)):=by
     have:=xb _ q1 1 _ _ (za ak l2 aj) (xb w7 q1 0 _ _ (za ag n2 ai) Q7.X);simpa using this
    have mU:Hid (yc1 n fine zs os vs ko kv S P last ra nR rc la l lc R L w (.returned (.tuple #[.agg #[za ag n2 ai,za ak l2 aj],ze zd last,.bool true])) ((w7.setCell ⟨q1,0,none⟩ (za ag n2 ai)).setCell ⟨q1,1,none⟩ (za ak l2 aj))):=by
     have ci:(w7.setCell ⟨q1,0,none⟩ (za ag n2 ai)).heap[q1]? =some (zg #[za ag n2 ai,za none 0 0] 33 (0,0)):=by
      have:=xb w7 q1 0 _ _ (za ag n2 ai) Q7.X;simpa using this
     refine⟨(B7.X.setCell oW _).setCell oW _,.inl ⟨by rw[HM.X,HF.X];exact cJ.X.trans hz,ag,n2,ai,ak,l2,aj,R2,L2,rfl,ze7 (ze7 D7.X.r Q7.X 0 _) ci 1 _,D7.X.rn,zj2 (zj2 D7.X.s Q7.X 0 _) ci 1 _,D7.X.ln,by rw[HM.X];exact D7.X.kr,by rw[HM.X];exact D7.X.kl,by rw[HM.X];exact D7.X.iv,D7.X.fl,D7.X.fr,D7.X.c,fun k hk=>D7.X.o k (by have:=B2.X.size;omega)⟩⟩
    obtain⟨r0,r1⟩:=za1 bD;obtain⟨y0,y1⟩:=za1 D7.X.x;clear D7 B7 P7 Q7 bD;go_wp2;exact xe (v:=.tuple #[.agg #[za ag n2 ai,za ak l2 aj],ze zd last,.bool true]) (by simp[results,Tryz.results112,go_sem,r0,r1]) rfl mU.X
   ·have ba:(pv !=0)=true:=by simp[hz]
    have bD:((w7.setCell ⟨q1,0,none⟩ (za ra nR rc)).setCell ⟨q1,1,none⟩ (za la l lc)).heap[q1]? =some (zg #[za ra nR rc,za la l lc] 33 (0,0)):=by
     have:=xb _ q1 1 _ _ (za la l lc) (xb w7 q1 0 _ _ (za ra nR rc) Q7.X);simpa using this
    have mU:Hid (yc1 n fine zs os vs ko kv S P last ra nR rc la l lc R L w (.returned (.tuple #[.agg #[za ra nR rc,za la l lc],ze zd last,.bool false])) ((w7.setCell ⟨q1,0,none⟩ (za ra nR rc)).setCell ⟨q1,1,none⟩ (za la l lc))):=
     ⟨(B7.X.setCell oW _).setCell oW _,.inr ⟨by rw[HM.X,HF.X,cJ.X];exact hz,rfl⟩⟩
    obtain⟨r0,r1⟩:=za1 bD;obtain⟨y0,y1⟩:=za1 P7.X;clear D7 B7 P7 Q7 bD;go_wp2;exact xe (v:=.tuple #[.agg #[za ra nR rc,za la l lc],ze zd last,.bool false]) (by simp[results,Tryz.results112,go_sem,r0,r1]) rfl mU.X
def z20(w:zi)(v:Int)(f:Bool)(T:List RT)(L:List Int)(e:Ending)(w':zi):Prop:=∃ra rn rc la ln lc S,e=.returned (.tuple #[.agg #[za ra rn rc,za la ln lc],ze zd v,.bool f])/\Below w.heap.size w w'/\S.length=rn/\L.length=ln/\S.map RT.key=T.map RT.key/\PO w' w.heap.size (za ra rn rc) S (za la ln lc) L/\(f=true->∃g,la=some ⟨g,0,none⟩)
theorem y41{sd kk n fine:Int}{zs os vs:List Int}{ko kv:Nat}{R:List RT}{L:List Int}(h:deB sd kk n fine zs os vs ko kv R L=true):deN sd kk n fine zs os vs ko kv R L=z86 sd (deS R).length (min kk ((deS R).length:Int))/\(deW sd kk n fine zs os vs ko kv R L=0->deF sd kk n fine zs os vs ko kv R L=true/\deR sd kk n fine zs os vs ko kv R L=(deQ sd kk R L).1/\deL sd kk n fine zs os vs ko kv R L=(deQ sd kk R L).2)/\(deW sd kk n fine zs os vs ko kv R L≠0->deF sd kk n fine zs os vs ko kv R L=false/\deR sd kk n fine zs os vs ko kv R L=R/\deL sd kk n fine zs os vs ko kv R L=L):=by
 unfold deN deF deR deL;rw[h];refine⟨rfl,fun hw=> ?_,fun hw=> ?_⟩
 ·simp[hw]
 ·simp[hw]
theorem zC2(sd kk n fine:Int)(a ao av ra la:Option Addr)(zl ac ko co kv cv nr rc ln lc:Nat)(zs os vs L:List Int)(R:List RT)(w:zi)(hA:za3 w a zs)(hO:za3 w ao os)(hV:za3 w av vs)(aO:zs.length=zl)(an:os.length=ko*6)(au:vs.length=kv*5)(ay:ko<=9223372036854775807)(aB:kv<=9223372036854775807)(hP:zc3 w ra (la) nr ln R L)(hn:nr<=1048576)(hi:∀r∈R,r.ids.length<=1048576)(dm:ln<=1048576)(cT:(zb0 R R.length).length<=1048576):
 Calls zh 42 #[.agg #[ze zd n,za a zl ac,za ao ko co,za av kv cv,ze zd fine],.agg #[za ra nr rc,za (la) ln lc],ze zd sd,ze zd kk] w (z20 w (deN sd kk n fine zs os vs ko kv R L) (deF sd kk n fine zs os vs ko kv R L) (deR sd kk n fine zs os vs ko kv R L) (deL sd kk n fine zs os vs ko kv R L)):=by
 have HA:=za4 hA;have HO:=za4 hO;have HV:=za4 hV;have cm:=za4 aO;have aF:=za4 an;have aD:=za4 au;have HP:=za4 hP;have HN:Hid (R.length=nr):=hP.1;have HM:Hid (L.length=ln):=hP.2.1;have HI:=za4 hi;clear hA hO hV aO an au hP hi;obtain⟨pv,cJ⟩:=nmd (zc1 n zs os vs ko kv fine R L);obtain⟨k1,dh⟩:=nmd (inB kk 0 12);obtain⟨s1,eb⟩:=nmd (inB sd 0 2147483647);have d7:Hid (deB sd kk n fine zs os vs ko kv R L=(decide (pv=0)&&(k1&&s1))):=by show _=_;unfold deB;rw[cJ.X,dh.X,eb.X]
 have bz:Hid (deB sd kk n fine zs os vs ko kv R L=false->deN sd kk n fine zs os vs ko kv R L= -1/\deF sd kk n fine zs os vs ko kv R L=false/\deR sd kk n fine zs os vs ko kv R L=[]/\deL sd kk n fine zs os vs ko kv R L=[]):=fun h=>by
  unfold deN deF deR deL;rw[h];exact⟨rfl,rfl,rfl,rfl⟩
 have gH:Hid (deB sd kk n fine zs os vs ko kv R L=true->_):=fun h=>y41 h;obtain⟨GN,tC⟩:=nmd (deN sd kk n fine zs os vs ko kv R L);obtain⟨GF,Fm⟩:=nmd (deF sd kk n fine zs os vs ko kv R L);obtain⟨GR,cE⟩:=nmd (deR sd kk n fine zs os vs ko kv R L);obtain⟨GL,db⟩:=nmd (deL sd kk n fine zs os vs ko kv R L);rw[tC.X,Fm.X,cE.X,db.X]at bz gH;rw[tC.X,Fm.X,cE.X,db.X];clear tC Fm cE db;have Q0:Hid (GQ w (((w.alloc (zg #[ze zd n,za a zl ac,za ao ko co,za av kv cv,ze zd fine] 30)).alloc (zg #[za ra nr rc,za (la) ln lc] 33)).alloc (zg #[za none 0 0,za none 0 0] 33)) #[ze zd n,za a zl ac,za ao ko co,za av kv cv,ze zd fine] #[za ra nr rc,za (la) ln lc]):=by
  refine⟨((zP _).alloc (by simp) _).alloc (by simp;omega) _,?_,?_,?_⟩
  ·exact(xg _ _ (by simp;omega)).trans (xm _ _ _)
  ·exact(xg _ _ (by simp)).trans (xh _ _ _)
  ·have:=zS ((w.alloc (zg #[ze zd n,za a zl ac,za ao ko co,za av kv cv,ze zd fine] 30)).alloc (zg #[za ra nr rc,za (la) ln lc] 33)) (zg #[za none 0 0,za none 0 0] 33)
   simpa using this
 have pC:Hid (∀W,Below w.heap.size w W->Calls zh 38 #[.agg #[ze zd n,za a zl ac,za ao ko co,za av kv cv,ze zd fine],.agg #[za ra nr rc,za (la) ln lc]] W fun e w'=>e=.returned (ze zd pv)/\Below W.heap.size W w'):=fun W hW=>by
  have PC:=zj3 n fine a ao av ra (la) ac ko co kv cv rc lc zs os vs L R W (HA.X.below hW) (HO.X.below hW) (HV.X.below hW) (HP.X.2.2.1.below hW) (HP.X.2.2.2.1.below hW) aF.X aD.X ay aB (by rw[HN.X];exact hn) HI.X HP.X.2.2.2.2.2.2 (by rw[HM.X];exact dm) cT;rw[HN.X,HM.X,cm.X,cJ.X]at PC;exact PC
 obtain⟨c0,c1,c2,c3,c4⟩:=za7 Q0.X.c;obtain⟨p0,p1⟩:=za1 Q0.X.p;go_enter Tryz.func42,Tryz.ntmps42
 go_wp2_with fail
 generalize((w.alloc _).alloc _).alloc _=W0 at*;refine(pC.X W0 Q0.X.b).mono ?_;rintro e w1 ⟨rfl,hb⟩;have Q1:=za4 (Q0.X.below hb);clear hb c0 c1 c2 c3 c4 p0 p1 Q0;obtain⟨a0,a1⟩:=za1 Q1.X.o;have af:=fun i=>yZ _ _ i _ _ Q1.X.o;by_cases du:pv=0
 ·rw[zW du,ji]at d7
  have tI:(pv !=0)=false:=by simp[du]
  cases k1
  ·have B5:Hid (Below w.heap.size w ((w1.setCell ⟨w.heap.size+2,0,none⟩ (za none 0 0)).setCell ⟨w.heap.size+2,1,none⟩ (za none 0 0))):=(Q1.X.b.setCell (by simp) _).setCell (by simp) _
   obtain⟨g1,g2,g3,g4⟩:=bz.X (by rw[d7.X];try rfl);subst g1 g2 g3 g4;clear bz
   go_wp2_with((go_at_call 39;refine(zc0 _ _ _ _).mono ?_;rintro e w' ⟨rfl,dx⟩;subst w';first|rw[dh.X]|rw[eb.X]))
   refine xe (v:=.tuple #[.agg #[za none 0 0,za none 0 0],ze zd (-1),.bool false]) (by simp[results,Tryz.results42,go_sem,a0,a1]) rfl ?_;show z20 _ _ _ _ _ _ _;exact⟨none,0,0,none,0,0,[],rfl,B5.X,rfl,rfl,rfl,⟨xZ _ _ _ _,(fun s hs=>by cases hs),xZ _ _ _ _⟩,fun h=>by cases h⟩
  ·cases s1
   ·have B5:Hid (Below w.heap.size w ((w1.setCell ⟨w.heap.size+2,0,none⟩ (za none 0 0)).setCell ⟨w.heap.size+2,1,none⟩ (za none 0 0))):=(Q1.X.b.setCell (by simp) _).setCell (by simp) _
    obtain⟨g1,g2,g3,g4⟩:=bz.X (by rw[d7.X];try rfl);subst g1 g2 g3 g4;clear bz
    go_wp2_with((go_at_call 39;refine(zc0 _ _ _ _).mono ?_;rintro e w' ⟨rfl,dx⟩;subst w';first|rw[dh.X]|rw[eb.X]))
    refine xe (v:=.tuple #[.agg #[za none 0 0,za none 0 0],ze zd (-1),.bool false]) (by simp[results,Tryz.results42,go_sem,a0,a1]) rfl ?_;show z20 _ _ _ _ _ _ _;exact⟨none,0,0,none,0,0,[],rfl,B5.X,rfl,rfl,rfl,⟨xZ _ _ _ _,(fun s hs=>by cases hs),xZ _ _ _ _⟩,fun h=>by cases h⟩
   ·have D0:=zT0 (sd:=sd) (kk:=kk) (cJ.X.trans du) dh.X eb.X
    have Eb:∀W,Below w.heap.size w W->_:=fun W hW=>zs2 n fine a ao av ra (la) ac ko co kv cv rc lc zs os vs L R W (HP.X.2.2.1.below hW) (by rw[HN.X];exact hn) HP.X.2.2.2.2.2.2 pv cJ.X (fun X hX=>by rw[cm.X,HN.X,HM.X];exact pC.X X (hW.trans (hX.mono hW.size)))
    have mh:zi7 n zs os vs ko kv fine R L=deS R:=by unfold zi7;rw[z7 (cJ.X.trans du)];rfl
    have fq:=gH.X d7.X;have IF:∀W (ag ak:Option Addr) (n2 ai l2 aj:Nat) (R2:List RT) (L2:List Int),Below w.heap.size w W->za9 W ag R2->R2.length=n2->za3 W ak L2->L2.length=l2->(∀r∈R2,r.ids.length<=12/\r.ids.length<=r.c)->n2<=100->l2<=100->(zb0 R2 R2.length).length<=1048576->R2.map RT.key=(deQ sd kk R L).1.map RT.key->L2=(deQ sd kk R L).2->Calls zh 38 #[.agg #[ze zd n,za a zl ac,za ao ko co,za av kv cv,ze zd fine],.agg #[za ag n2 ai,za ak l2 aj]] W fun e w'=>e=.returned (ze zd (deW sd kk n fine zs os vs ko kv R L))/\Below W.heap.size W w':=fun W ag ak n2 ai l2 aj R2 L2 hW h1 h2 h3 h4 h5 h6 h7 h8 h9 Gg=>by
     have PC:=zj3 n fine a ao av ag ak ac ko co kv cv ai aj zs os vs L2 R2 W (HA.X.below hW) (HO.X.below hW) (HV.X.below hW) h1 h3 aF.X aD.X ay aB (by omega) (fun r hr=>by have:=(h5 r hr).1;omega) (fun r hr=>(h5 r hr).2) (by omega) h8;rw[h2,h4,cm.X,zd6 L2 h9,Gg]at PC;exact PC
    clear bz gH d7 pC a0 a1 af;have hQ:deQ sd kk R L=lvF (deS R) (deP sd kk R) R L (deP sd kk R).length:=rfl;have Jo:deP sd kk R=zs4 sd (deS R).length (min kk ((deS R).length:Int)):=rfl;obtain⟨i1,i2,i3,i4,i5,i6,-⟩:=D0;rw[mh]at Eb;generalize deW sd kk n fine zs os vs ko kv R L=pw at*;generalize deQ sd kk R L=Q at*;generalize deP sd kk R=P at*;generalize deS R=S at*;have SV:Hid (∀W,Below w.heap.size w W->Calls zh 90 #[.agg #[ze zd n,za a zl ac,za ao ko co,za av kv cv,ze zd fine],.agg #[za ra nr rc,za (la) ln lc]] W fun e w'=>∃sl,e=.returned sl/\Below W.heap.size W w'/\w'.ownsRow W.heap.size 2 1 sl S.length (S.map (ze zd))):=fun W hW=>by
     have:=Eb W hW;rw[cm.X,HN.X,HM.X]at this;exact this
    have PK:Hid (∀W,Calls zh 91 #[ze zd sd,ze zd S.length,ze zd (min kk (S.length:Int))] W fun e w'=>∃sl,e=.returned (.tuple #[sl,ze zd GN])/\Below W.heap.size W w'/\w'.ownsRow W.heap.size 2 1 sl P.length (P.map (ze zd))):=fun W=>by
     have h:=zJ7 sd S.length (min kk (S.length:Int)) W;rw[<-Jo,<-fq.1]at h;exact h
    have ME:=za4 (fq.2.1);have Ea:Hid (pw≠0->GF=false/\GR=R/\GL=L):=fq.2.2;have vj:Hid (∀W,Below w.heap.size w W->Calls zh 40 #[.agg #[za ra nr rc,za (la) ln lc]] W (yv8 W R L)):=fun W hW=>by
     have:=zz3 ra la rc lc R L W (HP.X.2.2.1.below hW) (HP.X.2.2.2.1.below hW) (by rw[HM.X];exact HP.X.2.2.2.2.2.1) (by omega) (fun r hr=>⟨i1.ne r hr,by have:=i1.sm r hr;omega⟩) (by omega);rw[HN.X,HM.X]at this;exact this
    have J2:Hid _:=IF;have IV:=za4 i1;have ID:=za4 i2;have HQ:=za4 hQ;have mj:=za4 i3;clear Eb IF mh fq hQ Jo i1 i2 i3;obtain⟨N,eD⟩:=nmd S.length;obtain⟨m,Aa⟩:=nmd P.length;rw[eD.X]at SV PK mj i4 i5;rw[Aa.X]at PK ID HQ mj i4;rw[HM.X]at i5;rw[HN.X]at i6;have Mg:min kk (N:Int)=min kk (N:Int):=rfl;obtain⟨K,pB⟩:∃v,min kk (N:Int)=v:=⟨_,rfl⟩;clear Mg;rw[pB]at PK;obtain⟨c0,c1,c2,c3,c4⟩:=za7 Q1.X.c;obtain⟨p0,p1⟩:=za1 Q1.X.p
    go_wp2_with(go_at_call 39;refine(zc0 _ _ _ _).mono ?_;rintro e w' ⟨rfl,dx⟩;subst w';first|rw[dh.X]|rw[eb.X])
    refine(SV.X w1 Q1.X.b).mono ?_;rintro e w2 ⟨sl,rfl,hb,ho⟩;obtain⟨sa,sc,bg⟩:=zh0 ho;subst bg;have Q2:=za4 (Q1.X.below hb);have S2:Hid (za3 w2 sa S):=ze8 ho;clear hb ho Q1 SV c0 c1 c2 c3 c4 p0 p1
    go_wp2_with fail
    refine(PK.X w2).mono ?_;rintro e w3 ⟨sl,rfl,hb,ho⟩;obtain⟨pa,pc,bg⟩:=zh0 ho;subst bg;have Q3:=za4 (Q2.X.below hb);have S3:=za4 (S2.X.below hb);have O3:Hid (za3 w3 pa P):=ze8 ho;clear hb ho Q2 S2 PK;obtain⟨p0,p1⟩:=za1 Q3.X.p
    go_wp2_with fail
    refine(vj.X w3 Q3.X.b).mono ?_;rintro e w4 ⟨bk,bI,oB,bQ,R4,rfl,hb,eM,ho⟩;rw[HN.X,HM.X]at ho⊢;have Q4:=za4 (Q3.X.below hb);have S4:=za4 (S3.X.below hb);have O4:=za4 (O3.X.below hb);have D4:Hid (DS w4 (w4.alloc (zg #[za bk nr bI,za (some ⟨oB,0,none⟩) ln bQ] 33)) (w.heap.size+3) S P R L 0 bk nr bI oB ln bQ R4 L):=by
     have h2:Below w4.heap.size w4 (w4.alloc (zg #[za bk nr bI,za (some ⟨oB,0,none⟩) ln bQ] 33)):=zP _;refine⟨h2,zS _ _,(ho.base (by have:=Q3.X.size;omega)).below h2,by rw[<-HN.X];have:=congrArg zo eM;simpa using this,HM.X,IV.X.key eM,eM,rfl⟩
    clear hb ho eM Q3 S3 O3 p0 p1
    go_wp2_with fail
    have aU:Hid (w.heap.size+3<=w4.heap.size):=Q4.X.size;generalize w4.alloc _=W5 at*;obtain⟨kb,fw⟩:=nmd w4.heap.size;rw[fw.X];go_loopw[15] (fun t wr=>∃(i:Nat) (ag:Option Addr) (n2 ai ck l2 aj:Nat) (R2:List RT) (L2:List Int),i<=m/\t=ze zd i/\DS w4 wr (w.heap.size+3) S P R L i ag n2 ai ck l2 aj R2 L2) (fun t _=>m - (intOf t).toNat)
    case atStart=>exact⟨0,bk,nr,bI,oB,ln,bQ,R4,L,xi _,rfl,D4.X⟩
    case round=>
     clear D4;obtain⟨i,ag,n2,ai,ck,l2,aj,R2,L2,hi,rfl,hD⟩:=hrel;obtain⟨wo,Lx⟩:∃v,v=wr:=⟨_,rfl⟩;subst Lx;have DR:=za4 hD;clear hD;by_cases ah:i<m
     ·have ek:(i:Int)<(m:Int):=by omega
      obtain⟨pk,BF⟩:=xp (mj.X i ah).1;have wJ:=za4 BF;have FS:pk<N:=by have:=(mj.X i ah).2;omega
      clear BF;obtain⟨bp,op,Fp,jG⟩:=(O4.X.below DR.X.b) i (by rw[Aa.X];exact ah);obtain⟨bs,Od,G9,cw⟩:=(S4.X.below DR.X.b) pk (by rw[eD.X];exact FS);subst Fp;subst G9;rw[wJ.X]at jG;have HX:Hid (S.getD pk 0=pkd S P i):=by show _=_;unfold pkd;rw[wJ.X];rfl
      rw[HX.X]at cw;obtain⟨k,hk,bd,aZ⟩:=zI8 (DR.X.iv.mm i (zT _) (by rw[Aa.X];exact ah));obtain⟨x,g_⟩:=nmd (pkd S P i);rw[g_.X]at cw bd aZ;have f':=za4 bd;have bz:=za4 aZ;have iy:Hid (R2.length=n2):=DR.X.rn;have cM:k<n2:=by rw[<-iy.X];exact hk
      have Ol:n2<=100:=by have:=DR.X.iv.ln;have:=iy.X;omega
      have gu:l2<=50:=by have h1:=DR.X.ln;have h2:=DR.X.iv.ll;have h3:=HM.X;omega
      clear bd aZ hk
      go_wp2_with fail
      clear jG cw;go_loopw[17] (fun t wx=>∃j:Nat,j<=k/\t=ze zd j/\Below wo.heap.size wo wx) (fun t _=>k+1 - (intOf t).toNat)
      case atStart=>exact⟨0,xi _,rfl,y5 _ _⟩
      case round=>
       obtain⟨j,hj,rfl,il⟩:=hrel;obtain⟨wx,GH⟩:∃v,v=wr:=⟨_,rfl⟩;subst GH;have DX:=za4 (DR.X.below il);have BX:=za4 il;clear il;have Cw:(j:Int)<(n2:Int):=by omega
       obtain⟨b,off,e,r1,r2,r3⟩:=(zG2 DX.X.o iy.X) j (by rw[iy.X];omega);subst e;have R3:=za4 r3;obtain⟨d0,d1⟩:=za1 DX.X.x;rw[fw.X]at d0 d1;have fW:Hid ((R2.getD j rt0).ids.length<=12):=DX.X.iv.sm _ (zh2 (by rw[iy.X];omega));have tk:=zt4 (R2.getD j rt0).ids x;have L3:=zx6 (R2.getD j rt0).a (R2.getD j rt0).ids.length (R2.getD j rt0).c x (R2.getD j rt0).ids wx r3 (zT _) (by have:=fW.X;omega);rw[tk]at L3;by_cases EE:j<k
       ·have aZ:=bz.X j EE
        rw[zX aZ]at L3;clear R3;obtain⟨rt,dj⟩:=nmd (R2.getD j rt0);rw[dj.X]at r1 r2 L3;clear dj r3 fW tk aZ;obtain⟨rl,cu⟩:=nmd rt.ids.length;rw[cu.X]at r2 L3
        go_wp2_with(go_at_call 87;refine L3.mono ?_;rintro e w' ⟨rfl,dx⟩;subst w')
        go_roundw
        case rel=>exact⟨j+1,by omega,by first|rfl|go_num,BX.X⟩
        case measure=>simp[intOf];omega
       ·have LU:j=k:=by omega
        subst LU;rw[zW f'.X]at L3;have aq:(R2.getD j rt0).ids≠[]:=fun h9=>by have h8:=f'.X;rw[h9]at h8;cases h8
        obtain⟨br,r',er,-⟩:=r3 0 (xV.2 aq);have gZ:∀W,Below wx.heap.size wx W->_:=fun W hW=>z95 br r' (R2.getD j rt0).c (R2.getD j rt0).ids x W (by have:=R3.X.below hW;rw[er]at this;exact this) (by have:=fW.X;omega)
        have bH:R2.getD j rt0∈R2:=zh2 (by rw[iy.X];exact cM);have im:∀W (g cg:Nat),Below wx.heap.size wx W->za3 W (some ⟨g,0,none⟩) (cutP (R2.getD j rt0).ids x)->_:=fun W g cg hW hX=>yp8 (some ⟨b,off,none⟩) n2 ai ck l2 aj g cg (cutP (R2.getD j rt0).ids x).length j R2 L2 x W DX.X.iv (by have:=DX.X.ln;omega) DX.X.ln iy.X (zG2 (DX.X.below hW).o iy.X) (yA1 (DX.X.below hW).o DX.X.ln) (by rw[iy.X];exact cM) f'.X rfl hX
        rw[er]at r2 L3;clear R3 r3 tk aq bH bz er;obtain⟨rt,dj⟩:=nmd (R2.getD j rt0);rw[dj.X]at r1 r2 L3 gZ im;obtain⟨cl,jD⟩:=nmd ((cutP rt.ids x).length);obtain⟨rl,cu⟩:=nmd rt.ids.length;obtain⟨rv,bB⟩:=nmd rt.v;obtain⟨vU,bA⟩:=nmd rt.c;rw[cu.X,bA.X]at r2 L3;rw[bB.X]at r1;rw[cu.X,bA.X,jD.X]at gZ;rw[bB.X,jD.X]at im;have AQ:Hid _:=gZ;have A3:Hid _:=im;clear gZ im fW dj;have oF:Hid (∀W,Below wx.heap.size wx W->(fun W=>W.cell? ⟨kb,0,none⟩=some (za (some ⟨b,off,none⟩) n2 ai)/\W.cell? ⟨kb,1,none⟩=some (za (some ⟨ck,0,none⟩) l2 aj)/\W.cell? ⟨b,off+j*2,none⟩=some (ze zd rv)/\W.cell? ⟨b,off+j*2+1,none⟩=some (za (some ⟨br,r',none⟩) rl vU)) W):=fun W hW=>⟨keepL d0 hW,keepL d1 hW,keepL r1 hW,keepL r2 hW⟩;go_upto_region 14 with(go_at_call 87;refine L3.mono ?_;rintro e w' ⟨rfl,dx⟩;subst w')
        go_wp2_with fail
        refine ze4 (S:=(fun W=>W.cell? ⟨kb,0,none⟩=some (za (some ⟨b,off,none⟩) n2 ai)/\W.cell? ⟨kb,1,none⟩=some (za (some ⟨ck,0,none⟩) l2 aj)/\W.cell? ⟨b,off+j*2,none⟩=some (ze zd rv)/\W.cell? ⟨b,off+j*2+1,none⟩=some (za (some ⟨br,r',none⟩) rl vU))) 17 (by kernel_rfl) ?_ fun aa=> ?_
        ·exact oF.X _ (y5 _ _).drew
        have BD:Hid (Below wx.heap.size wx wx.drew):=(y5 _ _).drew;generalize wx.drew=wd at*;refine tkZ 0 aa ?_;refine tkZ 1 aa ?_;refine tkZ 2 aa ?_;refine tkZ 3 aa ?_;refine tkZ 4 aa ?_;refine tkZ 5 aa ?_;refine tkZ 6 aa ?_;refine tkZ 7 aa ?_;refine tkZ 8 aa ?_;refine tkZ 9 aa ?_;refine tkZ 10 aa ?_;refine tkZ 11 aa ?_;refine tkZ 12 aa ?_;refine tkZ 13 aa ?_;refine rdZ 14 fun K hK=> ?_;go_simp;refine(AQ.X wd BD.X).mono ?_;rintro e w6 ⟨g,cg,rfl,hb,ho⟩;have B6:=za4 (BD.X.trans (hb.mono BD.X.size));have X6:=za4 (ze8 ho);clear hb ho
        try rw[jD.X]
        (try go_wp2_with fail)
        refine hoW hK (oF.X _ B6.X) fun aa=> ?_;clear hK K;refine tkZ 15 aa ?_;refine rdZ 16 fun K hK=> ?_;go_simp;refine(A3.X w6 g cg B6.X X6.X).mono ?_;rintro e w7 ht;obtain⟨kj,n7,kt,g7,jl,R7,rfl,jE,hM⟩:=DX.X.mid aU.X B6.X ht;rw[fw.X]at hM;have M7:=za4 hM;have B7:=za4 jE;have F7:=fun i=>yZ _ _ i _ _ (za0 jE (by have:=za2 DX.X.x;rw[fw.X]at this;exact this) (by have:=DX.X.x;rw[fw.X]at this;exact this))
        obtain⟨f0,f1,-⟩:=oF.X w7 jE;clear ht hM jE
        (try go_wp2_with fail)
        refine hoW hK (oF.X _ B7.X) fun aa=> ?_;clear hK K;refine rdL 17 fun K hK=> ?_;go_simp;refine hK.out _ _ ?_;clear hK K;clear F7 f0 f1;generalize((w7.setCell ⟨kb,0,none⟩ _).setCell ⟨kb,1,none⟩ _)=w8 at*;refine zh3 (by kernel_rfl) ?_ _;clear aa AQ A3 oF L3 r1 r2 d0 d1;have tK:l2<=jl:=by have h9:=M7.X.o.l;rw[M7.X.ln]at h9;exact zy5 h9
        have Ef:=zW9 g7 0 jl L2 x w8 (yA1 M7.X.o M7.X.ln) (by have:=M7.X.ln;omega) (by rw[M7.X.ln];exact tK);rw[M7.X.ln]at Ef;have M8:=M7.X.x;rw[fw.X]at M8;obtain⟨m0,m1⟩:=za1 M8
        go_wp2_with fail
        refine Ef.mono ?_;rintro e w9 ⟨g9,c9,rfl,mo,iN⟩;have D9:Hid (DS w4 (w9.setCell ⟨kb,1,none⟩ (za (some ⟨g9,0,none⟩) (l2+1) c9)) (w.heap.size+3) S P R L (i+1) kj n7 kt g9 (l2+1) c9 R7 (zz1 L2 (pkd S P i))):=by
         have hM:=M7.X;rw[<-g_.X]at hM iN;have:=hM.put aU.X (by rw[Aa.X];exact ID.X) (by rw[Aa.X];exact ah) DX.X.iv DX.X.kr DX.X.kl mo iN;rw[fw.X]at this;exact this
        have X9:=za0 mo (za2 M8) M8;obtain⟨x0,x1⟩:=za1 X9;have xf:=fun i=>yZ _ _ i _ _ X9;clear mo iN Ef m0 m1 M8 X9;go_wp2;go_roundw
        case rel=>exact⟨i+1,kj,n7,kt,g9,l2+1,c9,R7,zz1 L2 (pkd S P i),by omega,by first|rfl|go_num,D9.X⟩
        case measure=>simp[intOf];omega
     ·have ek:¬((i:Int)<(m:Int)):=by omega
      have uJ:i=m:=by omega
      subst uJ;have QW:=za4 (Q4.X.below DR.X.b);have Jf:=J2.X wo ag (some ⟨ck,0,none⟩) n2 ai l2 aj R2 L2 QW.X.b (zG2 DR.X.o DR.X.rn) DR.X.rn (yA1 DR.X.o DR.X.ln) DR.X.ln (fun r hr=>⟨DR.X.iv.sm r hr,(DR.X.o.ints r hr).2⟩) (by have:=DR.X.iv.ln;have:=DR.X.rn;omega) (by have:=DR.X.ln;have:=DR.X.iv.ll;have:=HM.X;omega) (by rw[zb8];have:=zP5 R2 DR.X.iv.sm;have:=DR.X.iv.ln;omega) (by rw[HQ.X];exact DR.X.kr) (by rw[HQ.X];exact DR.X.kl);obtain⟨c0,c1,c2,c3,c4⟩:=za7 QW.X.c;obtain⟨d0,d1⟩:=za1 DR.X.x;rw[fw.X]at d0 d1
      go_wp2_with fail
      refine Jf.mono ?_;rintro e w6 ⟨rfl,hb⟩;have Q6:=za4 (QW.X.below hb);have D6:=za4 (DR.X.below hb);clear hb Jf c0 c1 c2 c3 c4 d0 d1 QW DR J2;by_cases fI:pw=0
      ·obtain⟨g1,g2,g3⟩:=ME.X fI
       have FF:(pw !=0)=false:=by simp[fI]
       obtain⟨d0,d1⟩:=za1 D6.X.x;rw[fw.X]at d0 d1;obtain⟨a0,a1⟩:=za1 Q6.X.o;have af:=fun i=>yZ _ _ i _ _ Q6.X.o;have s1:=xb w6 (w.heap.size+2) 0 _ _ (za ag n2 ai) Q6.X.o;have P7:Hid (PO ((w6.setCell ⟨w.heap.size+2,0,none⟩ (za ag n2 ai)).setCell ⟨w.heap.size+2,1,none⟩ (za (some ⟨ck,0,none⟩) l2 aj)) (w.heap.size+3) (za ag n2 ai) R2 (za (some ⟨ck,0,none⟩) l2 aj) L2):=(D6.X.o.box Q6.X.o).box s1;have B7:Hid (Below w.heap.size w ((w6.setCell ⟨w.heap.size+2,0,none⟩ (za ag n2 ai)).setCell ⟨w.heap.size+2,1,none⟩ (za (some ⟨ck,0,none⟩) l2 aj))):=(Q6.X.b.setCell (by simp) _).setCell (by simp) _;have nG:Hid (R2.map RT.key=GR.map RT.key):=by show _=_;rw[g2,HQ.X];exact D6.X.kr
       have eh:Hid (L2=GL):=by show _=_;rw[g3,HQ.X];exact D6.X.kl
       clear s1;subst g1;clear g2 g3;go_wp2;refine xe (v:=.tuple #[.agg #[za ag n2 ai,za (some ⟨ck,0,none⟩) l2 aj],ze zd GN,.bool true]) (by simp[results,Tryz.results42,go_sem,a0,a1]) rfl ?_;show z20 _ _ _ _ _ _ _;rw[<-eh.X];exact⟨ag,n2,ai,_,l2,aj,R2,rfl,B7.X,D6.X.rn,D6.X.ln,nG.X,P7.X.base (by omega),fun _=>⟨_,rfl⟩⟩
      ·obtain⟨g1,g2,g3⟩:=Ea.X fI
       have FF:(pw !=0)=true:=by simp[fI]
       subst g1 g2 g3;obtain⟨p0,p1⟩:=za1 Q6.X.p
       go_wp2_with fail
       refine(vj.X w6 Q6.X.b).mono ?_;rintro e w7 ⟨kj,kt,Du,jl,R7,rfl,hb,uX,ho⟩;rw[HN.X,HM.X]at ho⊢;have Q7:=za4 (Q6.X.below hb);have Nw:=za4 (ho.base (by have:=Q6.X.size;omega));have MS:=za4 uX;have Ot:Hid (R7.length=nr):=by have:=congrArg zo uX;simp only[qz]at this;exact this.trans HN.X
       clear hb ho uX p0 p1;obtain⟨a0,a1⟩:=za1 Q7.X.o;have af:=fun i=>yZ _ _ i _ _ Q7.X.o;have s1:=xb w7 (w.heap.size+2) 0 _ _ (za kj nr kt) Q7.X.o;have P7:Hid (PO ((w7.setCell ⟨w.heap.size+2,0,none⟩ (za kj nr kt)).setCell ⟨w.heap.size+2,1,none⟩ (za (some ⟨Du,0,none⟩) ln jl)) (w.heap.size+3) (za kj nr kt) R7 (za (some ⟨Du,0,none⟩) ln jl) GL):=(Nw.X.box Q7.X.o).box s1;have B7:Hid (Below w.heap.size w ((w7.setCell ⟨w.heap.size+2,0,none⟩ (za kj nr kt)).setCell ⟨w.heap.size+2,1,none⟩ (za (some ⟨Du,0,none⟩) ln jl))):=(Q7.X.b.setCell (by simp) _).setCell (by simp) _;clear s1;go_wp2;refine xe (v:=.tuple #[.agg #[za kj nr kt,za (some ⟨Du,0,none⟩) ln jl],ze zd GN,.bool false]) (by simp[results,Tryz.results42,go_sem,a0,a1]) rfl ?_;show z20 _ _ _ _ _ _ _;exact⟨kj,nr,kt,_,ln,jl,R7,rfl,B7.X,Ot.X,HM.X,MS.X,P7.X.base (by omega),fun _=>⟨_,rfl⟩⟩
 ·have tI:(pv !=0)=true:=by simp[du]
  have B5:Hid (Below w.heap.size w ((w1.setCell ⟨w.heap.size+2,0,none⟩ (za none 0 0)).setCell ⟨w.heap.size+2,1,none⟩ (za none 0 0))):=(Q1.X.b.setCell (by simp) _).setCell (by simp) _;rw[zX du,jj]at d7;obtain⟨g1,g2,g3,g4⟩:=bz.X (by rw[d7.X];try rfl);subst g1 g2 g3 g4;clear bz
  go_wp2_with((go_at_call 39;refine(zc0 _ _ _ _).mono ?_;rintro e w' ⟨rfl,dx⟩;subst w';first|rw[dh.X]|rw[eb.X]))
  refine xe (v:=.tuple #[.agg #[za none 0 0,za none 0 0],ze zd (-1),.bool false]) (by simp[results,Tryz.results42,go_sem,a0,a1]) rfl ?_;show z20 _ _ _ _ _ _ _;exact⟨none,0,0,none,0,0,[],rfl,B5.X,rfl,rfl,rfl,⟨xZ _ _ _ _,(fun s hs=>by cases hs),xZ _ _ _ _⟩,fun h=>by cases h⟩
theorem z96(n fine ab:Int)(a ao av:Option Addr)(bi:Option Addr)(ac ko co kv cv c2:Nat)(zs os vs ids:List Int)(w:zi)(hA:za3 w a zs)(hO:za3 w ao os)(hV:za3 w av vs)(hI:za3 w bi ids)(an:os.length=ko*6)(au:vs.length=kv*5)(ay:ko<=9223372036854775807)(aB:kv<=9223372036854775807)(fh:ids.length<=1048576)(cw:ids.length<=c2)(mT:(bi=none/\ids=[]/\c2=0)∨∃g,bi=some ⟨g,0,none⟩)(id:Int)(s0:PS)(kA:bpV (zd0 n zs os vs ko kv fine) n zs os vs ko kv ab ids id=s0):
 Calls zh 132 #[.agg #[ze zd n,za a zs.length ac,za ao ko co,za av kv cv,ze zd fine],.agg #[ze zd ab,za bi ids.length c2],ze zd id] w fun e w'=>e=.returned (.tuple #[ze zd (s0.i:Int),ze zd s0.v,.bool s0.f])/\Below w.heap.size w w':=by
 have HA:=za4 hA;have HO:=za4 hO;have HV:=za4 hV;have HI:=za4 hI;have aF:Hid _:=an;have aD:Hid _:=au;have oQ:=za4 mT;clear hA hO hV hI an au mT;have gE:=za4 kA;clear kA;have C0:Hid (CR w ((w.alloc (zg #[ze zd n,za a zs.length ac,za ao ko co,za av kv cv,ze zd fine] 30)).alloc (zg #[ze zd ab,za bi ids.length c2] 80)) _ _):=CR.new w _ _;obtain⟨ok,tU⟩:=nmd (plB (zd0 n zs os vs ko kv fine) n zs os vs ko kv ab ids id);obtain⟨dl,AZ⟩:=nmd (plD (zd0 n zs os vs ko kv fine) n zs os vs ko kv ab ids id);have HF:Hid (pst ok dl (ids.length+1)=s0):=by
  show pst ok dl (ids.length+1)=s0;rw[<-gE.X,<-tU.X,<-AZ.X];rfl
 clear gE;go_enter Tryz.func132,Tryz.ntmps132
 go_wp2_with fail
 go_loopw[9,10,11,12] (fun ta tv tf t wr=>∃i:Nat,i<=ids.length+1/\t=ze zd i/\ta=ze zd ((pst ok dl i).i:Int)/\tv=ze zd (pst ok dl i).v/\tf=.bool (pst ok dl i).f/\CR w wr #[ze zd n,za a zs.length ac,za ao ko co,za av kv cv,ze zd fine] #[ze zd ab,za bi ids.length c2]) (fun _ _ _ t _=>ids.length+1 - (intOf t).toNat)
 case atStart=>exact⟨0,xi _,rfl,rfl,rfl,rfl,C0.X⟩
 case round=>
  clear C0;obtain⟨i,hi,rfl,rfl,rfl,rfl,hC⟩:=hrel;have C1:=za4 hC;clear hC;obtain⟨d0,d1⟩:=za1 C1.X.2.2;by_cases ah:i<=ids.length
  ·have h1:(i:Int)<=(ids.length:Int):=by omega
   have Bh:IntKind.i64.wrap ((i:Int)+1)=((i+1:Nat):Int):=by rw[xz _ (by omega)];omega
   have HN:Hid (pst ok dl (i+1)=zO3 ok dl (pst ok dl i) i):=rfl;obtain⟨s,HS⟩:=nmd (pst ok dl i);rw[HS.X]at HN⊢;obtain⟨sf,si,sv⟩:=s;simp only at HN⊢;obtain⟨ch,bJ⟩:=nmd (ok i);obtain⟨D,bh⟩:=nmd (dl i);obtain⟨c0,c1,bY,c3,c4⟩:=za7 C1.X.2.1;obtain⟨xs,l7⟩:=nmd (chL ch (insL ids i id))
   go_wp2_with fail
   clear c0 c1 bY c3 c4 d0 d1;refine(zB8 n fine ab a ao av bi ac ko co kv cv c2 zs os vs ids wr (HA.X.below C1.X.1) (HO.X.below C1.X.1) (HV.X.below C1.X.1) (HI.X.below C1.X.1) aF.X aD.X ay aB (by omega) cw oQ.X id (i:Int) ch (by rw[<-bJ.X,<-tU.X];rfl) D (by rw[<-bh.X,<-AZ.X,<-bJ.X,<-tU.X];rfl) xs l7.X).mono ?_;rintro e w2 ⟨hb,ad,c,rfl,_⟩;obtain⟨vv,et⟩:=nmd (chI ch ab);rw[et.X];have C3:Hid (CR w (w2.alloc (zg #[ze zd vv,za ad xs.length c] 80)) _ _):=(C1.X.below hb).alloc _;clear hb;cases ch
   ·have kC:Hid (pst ok dl (i+1)=⟨sf,si,sv⟩):=HN.X.trans (zX8 bJ.X)
    go_wp2;go_roundw
    case rel=>exact⟨i+1,by omega,by first|rfl|go_num,by rw[kC.X],by rw[kC.X],by rw[kC.X],C3.X⟩
    case measure=>simp[intOf];omega
   ·cases sf
    ·have kC:Hid (pst ok dl (i+1)=⟨true,i,D⟩):=HN.X.trans (by rw[<-bh.X];exact y07 bJ.X rfl)
     go_wp2;go_roundw
     case rel=>exact⟨i+1,by omega,by first|rfl|go_num,by rw[kC.X],by rw[kC.X],by rw[kC.X],C3.X⟩
     case measure=>simp[intOf];omega
    ·by_cases kE:D<sv
     ·have kC:Hid (pst ok dl (i+1)=⟨true,i,D⟩):=HN.X.trans (by rw[<-bh.X];exact y24 bJ.X (by rw[bh.X];exact kE))
      go_wp2;go_roundw
      case rel=>exact⟨i+1,by omega,by first|rfl|go_num,by rw[kC.X],by rw[kC.X],by rw[kC.X],C3.X⟩
      case measure=>simp[intOf];omega
     ·have kC:Hid (pst ok dl (i+1)=⟨true,si,sv⟩):=HN.X.trans (yt7 rfl (by rw[bh.X];exact kE))
      go_wp2;go_roundw
      case rel=>exact⟨i+1,by omega,by first|rfl|go_num,by rw[kC.X],by rw[kC.X],by rw[kC.X],C3.X⟩
      case measure=>simp[intOf];omega
  ·have oK:i=ids.length+1:=by omega
   have h1:¬((i:Int)<=(ids.length:Int)):=by omega
   have JR:Hid (pst ok dl i=s0):=by
    show pst ok dl i=s0;rw[oK];exact HF.X
   rw[JR.X];clear oK JR;go_wp2
   go_ret3
   exact⟨rfl,C1.X.1⟩
structure OQ(w W:zi)(cs ps:Array Value)(o0 o1:Value):Prop where
 b:Below w.heap.size w W
 c:W.heap[w.heap.size]? =some (.cells cs 30 (0,0))
 p:W.heap[w.heap.size+1]? =some (.cells ps 33 (0,0))
 a:W.heap[w.heap.size+2]? =some (zg #[za none 0 0,za none 0 0] 33 (0,0))
 o:W.heap[w.heap.size+3]? =some (zg #[o0,o1] 33 (0,0))
theorem OQ.below{w W W':zi}{cs ps:Array Value}{o0 o1:Value}(h:OQ w W cs ps o0 o1)(hb:Below W.heap.size W W'):OQ w W' cs ps o0 o1:=
 ⟨h.b.trans (hb.mono h.b.size),za0 hb (za2 h.c) h.c,za0 hb (za2 h.p) h.p,za0 hb (za2 h.a) h.a,za0 hb (za2 h.o) h.o⟩
theorem OQ.size{w W:zi}{cs ps:Array Value}{o0 o1:Value}(h:OQ w W cs ps o0 o1):w.heap.size+4<=W.heap.size:=za2 h.o
def OU(w W:zi)(ps:Array Value)(R:List RT)(L:List Int)(s:QS)(o0 o1:Value):Prop:=(s.f=false/\ #[o0,o1]=ps)∨(s.f=true/\∃S,PO W (w.heap.size+4) o0 S o1 (zm9 L s.s.1)/\S.map RT.key=(setL R (oneT R s.s)).map RT.key/\∃g c,o1=za (some ⟨g,0,none⟩) (zm9 L s.s.1).length c)
theorem OU.below{w W W':zi}{ps:Array Value}{R:List RT}{L:List Int}{s:QS}{o0 o1:Value}(h:OU w W ps R L s o0 o1)(hb:Below W.heap.size W W'):OU w W' ps R L s o0 o1:=by
 rcases h with h|⟨h1,S,h2,h3⟩
 ·exact .inl h
 ·exact .inr ⟨h1,S,h2.below hb,h3⟩
theorem y05{ok:zg2->Bool}{dl:zg2->Int}(l:List zg2):(qst ok dl l).f=false->(qst ok dl l).v=0:=by
 suffices h:∀(m:List zg2) (s:QS),(s.f=false->s.v=0)->(m.foldl (zl7 ok dl) s).f=false->(m.foldl (zl7 ok dl) s).v=0 from h l qs0 (fun _=>rfl)
 intro m
 induction m with
 |nil=>intro s hs hf;exact hs hf
 |cons p m ih=>
  intro s hs hf;rw[yM]at hf⊢;refine ih _ (fun h9=> ?_) hf;unfold zl7 at h9⊢;split
  ·rename_i hc
   rw[z7 hc]at h9;cases h9
  ·rename_i hc
   rw[ye hc]at h9;exact hs h9
theorem yh5(n fine ab:Int)(a ao av bi:Option Addr)(ac ko co kv cv c2:Nat)(zs os vs ids:List Int)(w:zi)(hA:za3 w a zs)(hO:za3 w ao os)(hV:za3 w av vs)(hI:za3 w bi ids)(an:os.length=ko*6)(au:vs.length=kv*5)(ay:ko<=9223372036854775807)(aB:kv<=9223372036854775807)(fh:ids.length<=9223372036854775807)(cw:ids.length<=c2)(mT:(bi=none/\ids=[]/\c2=0)∨∃g,bi=some ⟨g,0,none⟩)(id:Int)(k:Nat)(ch:Bool)(gA:chB (zd0 n zs os vs ko kv fine) n zs os vs ko kv ab ids (inB (k:Int) 0 (ids.length:Int)) (insL ids k id)=ch)(D:Int)(hD:chD ch n zs os vs ko kv ab ids (insL ids k id)=D)(xs:List Int)(jt:chL ch (insL ids k id)=xs):
 Calls zh 71 #[.agg #[ze zd n,za a zs.length ac,za ao ko co,za av kv cv,ze zd fine],.agg #[ze zd ab,za bi ids.length c2],ze zd id,ze zd (k:Int)] w (yf8 w ch ab D xs):=by
 rcases mT with⟨rfl,rfl,rfl⟩|⟨g,rfl⟩
 ·exact zo9 n fine ab a ao av ac ko co kv cv zs os vs w hA hO hV an au ay aB id (k:Int) ch (by simpa using gA) D (by simpa using hD) xs (by simpa using jt)
 ·exact zo8 n fine ab a ao av g 0 ac ko co kv cv c2 zs os vs ids w hA hO hV hI an au ay aB fh cw id (k:Int) ch (by simpa using gA) D (by simpa using hD) xs (by simpa using jt)
theorem yl8{R:List RT}{r s:RT}(hS:zf7 R)(hr:r.ids≠[])(h:r.key=s.key):(setL R r).map RT.key=(setL R s).map RT.key:=by
 have hi:r.ids=s.ids:=congrArg Prod.snd h;rw[z53 hS hr,z53 hS (by rw[<-hi];exact hr)];exact z80 rfl h
def yE3(w:zi)(f:Bool)(T:List RT)(L:List Int)(e:Ending)(w':zi):Prop:=∃ra rn rc gl ln lc S,e=.returned (.tuple #[.agg #[za ra rn rc,za (some ⟨gl,0,none⟩) ln lc],.bool f])/\Below w.heap.size w w'/\S.length=rn/\L.length=ln/\S.map RT.key=T.map RT.key/\PO w' w.heap.size (za ra rn rc) S (za (some ⟨gl,0,none⟩) ln lc) L
theorem yq0{R S:List RT}{r:RT}(hi:zw3 R)(hr:r.ids≠[]/\r.ids.length<=13)(h:S.map RT.key=(setL R r).map RT.key):∀x∈S,x.ids≠[]/\x.ids.length<=500:=fun x hx=>by
 have h1:x.key∈(setL R r).map RT.key:=by rw[<-h];exact List.mem_map_of_mem hx
 obtain⟨y,hy,e⟩:=yF.1 h1;have e2:y.ids=x.ids:=congrArg Prod.snd e;rw[<-e2];rcases(zz0 R r).1 y hy with h2|h2
 ·have:=hi y h2
  exact⟨this.1,by omega⟩
 ·rw[h2];exact⟨hr.1,by omega⟩
theorem yv0(n fine:Int)(a ao ra:Option Addr)(zl ac ko co bv ov kv cv nr rc bl ol ln lc:Nat)(zs os vs L:List Int)(R:List RT)(w:zi)(hA:za3 w a zs)(hO:za3 w ao os)(hV:za3 w (some ⟨bv,ov,none⟩) vs)(aO:zs.length=zl)(an:os.length=ko*6)(au:vs.length=kv*5)(ay:ko<=12)(aB:kv<=5)(bT:zd0 n zs os vs ko kv fine=true)(hR:za9 w ra R)(na:R.length=nr)(hn:nr<=100)(hL:za3 w (some ⟨bl,ol,none⟩) L)(K_:L.length=ln)(gz:ln<=12)(hS:zf7 R)(hi:zw3 R)(mq:∀r∈R,∃g,r.a=some ⟨g,0,none⟩):
 Calls zh 95 #[.agg #[ze zd n,za a zl ac,za ao ko co,za (some ⟨bv,ov,none⟩) kv cv,ze zd fine],.agg #[za ra nr rc,za (some ⟨bl,ol,none⟩) ln lc]] w (yE3 w (zx5 n fine zs os vs ko kv R L).f (zB5 n fine zs os vs ko kv R L) (zD5 n fine zs os vs ko kv R L)):=by
 have HA:=za4 hA;have HO:=za4 hO;have HV:=za4 hV;have cm:=za4 aO;have aF:=za4 an;have aD:=za4 au;have cZ:=za4 bT;have HR:=za4 hR;have HN:=za4 na;have HL:=za4 hL;have HM:=za4 K_;have HS:=za4 hS;have HI:=za4 hi;have CY:=za4 mq;clear hA hO hV aO an au bT hR na hL K_ hS hi mq;obtain⟨fn,oe⟩:=nmd (qst (gOk n fine zs os vs ko kv R) (gD n zs os vs ko kv R));have vY:Hid (zx5 n fine zs os vs ko kv R L=fn (sp3 R vs kv L ln)):=by show _=_;rw[<-oe.X,<-HM.X];rfl
 obtain⟨s9,ut⟩:=nmd (zx5 n fine zs os vs ko kv R L);obtain⟨RX,gF⟩:=nmd (zB5 n fine zs os vs ko kv R L);obtain⟨LX,gG⟩:=nmd (zD5 n fine zs os vs ko kv R L);have jM:Hid (RX=if s9.f then wrL R (oneT R s9.s)else R):=by show _=_;rw[<-gF.X];unfold zB5;rw[ut.X]
 have eh:Hid (LX=if s9.f then zm9 L s9.s.1 else L):=by show _=_;rw[<-gG.X];unfold zD5;rw[ut.X]
 rw[ut.X,gF.X,gG.X];rw[ut.X]at vY;clear ut gF gG;have FJ:Hid (∀l id ab,fn (l++sp1 id ab ((zc7 R ab).ids.length+1))=grp fine id ab (fn l) (bpV true n zs os vs ko kv ab (zc7 R ab).ids id)):=fun l id ab=>by rw[<-oe.X];exact yF1 n fine zs os vs ko kv R l id ab
 have Gw:Hid (fn []=qs0):=by show _=_;rw[<-oe.X];rfl
 have Q0:Hid (OQ w ((((w.alloc (zg #[ze zd n,za a zl ac,za ao ko co,za (some ⟨bv,ov,none⟩) kv cv,ze zd fine] 30)).alloc (zg #[za ra nr rc,za (some ⟨bl,ol,none⟩) ln lc] 33)).alloc (zg #[za none 0 0,za none 0 0] 33)).alloc (zg #[za ra nr rc,za (some ⟨bl,ol,none⟩) ln lc] 33)) #[ze zd n,za a zl ac,za ao ko co,za (some ⟨bv,ov,none⟩) kv cv,ze zd fine] #[za ra nr rc,za (some ⟨bl,ol,none⟩) ln lc] (za ra nr rc) (za (some ⟨bl,ol,none⟩) ln lc)):=by
  refine⟨(((zP _).alloc (by simp) _).alloc (by simp;omega) _).alloc (by simp;omega) _,?_,?_,?_,?_⟩
  ·exact(xg _ _ (by simp;omega)).trans ((xg _ _ (by simp;omega)).trans (xm _ _ _))
  ·exact(xg _ _ (by simp<;>omega)).trans ((xg _ _ (by simp)).trans (xh _ _ _))
  ·have:=xm ((w.alloc (zg #[ze zd n,za a zl ac,za ao ko co,za (some ⟨bv,ov,none⟩) kv cv,ze zd fine] 30)).alloc (zg #[za ra nr rc,za (some ⟨bl,ol,none⟩) ln lc] 33)) (zg #[za none 0 0,za none 0 0] 33) (zg #[za ra nr rc,za (some ⟨bl,ol,none⟩) ln lc] 33)
   simpa using this
  ·have:=xh ((w.alloc (zg #[ze zd n,za a zl ac,za ao ko co,za (some ⟨bv,ov,none⟩) kv cv,ze zd fine] 30)).alloc (zg #[za ra nr rc,za (some ⟨bl,ol,none⟩) ln lc] 33)) (zg #[za none 0 0,za none 0 0] 33) (zg #[za ra nr rc,za (some ⟨bl,ol,none⟩) ln lc] 33)
   simpa using this
 have IQ:Hid ((((w.alloc (zg #[ze zd n,za a zl ac,za ao ko co,za (some ⟨bv,ov,none⟩) kv cv,ze zd fine] 30)).alloc (zg #[za ra nr rc,za (some ⟨bl,ol,none⟩) ln lc] 33)).alloc (zg #[za none 0 0,za none 0 0] 33)).heap[w.heap.size+1]? =some (zg #[za ra nr rc,za (some ⟨bl,ol,none⟩) ln lc] 33 (0,0))):=(xg _ _ (by simp)).trans (xh _ _ _);obtain⟨e0,e1⟩:=za1 IQ.X;go_enter Tryz.func95,Tryz.ntmps95
 go_wp2_with fail
 clear e0 e1 IQ;generalize(((w.alloc _).alloc _).alloc _).alloc _=W0 at*;go_loopw[6,7,9] (fun tb tf t wr=>∃(i:Nat) (o0 o1:Value),i<=ln/\t=ze zd i/\tb=ze zd (fn (sp3 R vs kv L i)).v/\tf=.bool (fn (sp3 R vs kv L i)).f/\OQ w wr #[ze zd n,za a zl ac,za ao ko co,za (some ⟨bv,ov,none⟩) kv cv,ze zd fine] #[za ra nr rc,za (some ⟨bl,ol,none⟩) ln lc] o0 o1/\OU w wr #[za ra nr rc,za (some ⟨bl,ol,none⟩) ln lc] R L (fn (sp3 R vs kv L i)) o0 o1) (fun _ _ t _=>ln - (intOf t).toNat)
 case atStart=>exact⟨0,_,_,xi _,rfl,by show _=ze zd (fn []).v;rw[Gw.X];first|done|rfl,by show _=Value.bool (fn []).f;rw[Gw.X];first|done|rfl,Q0.X,.inl ⟨by show(fn []).f=false;rw[Gw.X];rfl,rfl⟩⟩
 case round=>
  clear Q0;obtain⟨i,o0,o1,hi,rfl,rfl,rfl,hq,hu⟩:=hrel;have Q1:=za4 hq;have U1:=za4 hu;clear hq hu;obtain⟨p0,p1⟩:=za1 Q1.X.p;by_cases ah:i<ln
  ·have oU:(i:Int)<(ln:Int):=by omega
   have aY:Hid (sp3 R vs kv L (i+1)=sp3 R vs kv L i++sp2 R vs (L.getD i 0) kv):=rfl;have Ap:Hid (∀W,Below w.heap.size w W->W.cell? ⟨bl,ol+i,none⟩=some (ze zd (L.getD i 0))):=fun W hW=>by
    obtain⟨b1,o1,e,c1⟩:=(HL.X.below hW) i (by rw[HM.X];exact ah);simp only[xT,qg,qt]at e;obtain⟨rfl,rfl⟩:=e;exact c1
   generalize L.getD i 0=id at*;generalize sp3 R vs kv L i=l1 at*
   go_wp2_with fail
   clear p0 p1;go_loopw[6,7,10] (fun tb tf t wr=>∃(k:Nat) (o0 o1:Value),k<=kv/\t=ze zd k/\tb=ze zd (fn (l1++sp2 R vs id k)).v/\tf=.bool (fn (l1++sp2 R vs id k)).f/\OQ w wr #[ze zd n,za a zl ac,za ao ko co,za (some ⟨bv,ov,none⟩) kv cv,ze zd fine] #[za ra nr rc,za (some ⟨bl,ol,none⟩) ln lc] o0 o1/\OU w wr #[za ra nr rc,za (some ⟨bl,ol,none⟩) ln lc] R L (fn (l1++sp2 R vs id k)) o0 o1) (fun _ _ t _=>kv - (intOf t).toNat)
   case atStart=>exact⟨0,o0,o1,xi _,rfl,by show _=ze zd (fn (l1++[])).v;rw[qe],by show _=Value.bool (fn (l1++[])).f;rw[qe],Q1.X,by show OU _ _ _ _ _ (fn (l1++[])) _ _;rw[qe];exact U1.X⟩
   case round=>
    clear Q1 U1;obtain⟨k,o0,o1,hk,rfl,rfl,rfl,hq,hu⟩:=hrel;have Q3:=za4 hq;have FZ:=za4 hu;clear hq hu;obtain⟨d0,d1,d2,d3,d4⟩:=za7 Q3.X.c;by_cases hlk:k<kv
    ·have gV:(k:Int)<(kv:Int):=by omega
     have fL:Hid (fn (l1++sp2 R vs id (k+1))=grp fine id (vs.getD (k*5) 0) (fn (l1++sp2 R vs id k)) (bpV true n zs os vs ko kv (vs.getD (k*5) 0) (zc7 R (vs.getD (k*5) 0)).ids id)):=by
      show _=_;rw[<-FJ.X,yi];rfl
     have vr:Hid (∀W,Below w.heap.size w W->W.cell? ⟨bv,ov+k*5,none⟩=some (ze zd (vs.getD (k*5) 0))):=fun W hW=>by
      obtain⟨b1,o1,e,c1⟩:=(HV.X.below hW) (k*5) (by rw[aD.X];omega);simp only[xT,qg,qt]at e;obtain⟨rfl,rfl⟩:=e;exact c1
     have mh:=y05 (ok:=gOk n fine zs os vs ko kv R) (dl:=gD n zs os vs ko kv R) (l1++sp2 R vs id k);rw[oe.X]at mh;generalize vs.getD (k*5) 0=ab at*;generalize fn (l1++sp2 R vs id k)=s at*;have U3:=za4 (FZ.X);have Lz:=za4 mh;clear FZ mh;obtain⟨oJ,lV,eg,-⟩:=z70 HR.X HI.X ab;have dj:=za4 oJ;have pH:Hid (((zc7 R ab).a=none/\(zc7 R ab).ids=[]/\(zc7 R ab).c=0)∨∃g,(zc7 R ab).a=some ⟨g,0,none⟩):=by
      rcases zu1 R ab with h|h
      ·exact .inr (CY.X _ h)
      ·rw[h];exact .inl ⟨rfl,rfl,rfl⟩
     have eQ:Hid (oneT R (id,ab,0)=oneT R (id,ab,0)):=rfl;have u6:∀W,Below wr.heap.size wr W->_:=fun W hW=>z28 ra (some ⟨bl,ol,none⟩) rc ln lc R ab W (HR.X.below (Q3.X.below hW).b) (by rw[HN.X];omega)
     rw[HN.X]at u6;obtain⟨b9,wK⟩:=nmd (bpV true n zs os vs ko kv ab (zc7 R ab).ids id);rw[wK.X]at fL;obtain⟨rt,tF⟩:=nmd (zc7 R ab);rw[tF.X]at lV eg dj pH u6 wK;obtain⟨QH,aN,aA,be⟩:=rt;simp only at lV eg dj pH u6 wK;obtain⟨rl,cu⟩:=nmd aA.length;rw[cu.X]at lV eg u6;have LR:Hid _:=u6;have jn:Hid (∀W,Below wr.heap.size wr W->(fun W=>W.cell? ⟨w.heap.size+1,0,none⟩=some (za ra nr rc)/\W.cell? ⟨w.heap.size+1,1,none⟩=some (za (some ⟨bl,ol,none⟩) ln lc)/\W.cell? ⟨w.heap.size,3,none⟩=some (za (some ⟨bv,ov,none⟩) kv cv)/\W.cell? ⟨bv,ov+k*5,none⟩=some (ze zd ab)) W):=fun W hW=>by
      have q:=Q3.X.below hW;obtain⟨x0,x1⟩:=za1 q.p;obtain⟨y0,y1,y2,y3,y4⟩:=za7 q.c;exact⟨x0,x1,y3,vr.X W q.b⟩
     clear u6 oJ eQ;go_upto_region 10 with fail;clear d0 d1 d2 d3 d4;go_cut [11]from 33 to 40 (fun wH wx=>∃rb:Nat,wH=.pointer (some ⟨rb,0,none⟩)/\Below wr.heap.size wr wx/\wx.heap[rb]? =some (zg #[ze zd ab,za aN rl be] 80 (0,0))/\wr.heap.size<=rb)
     case first=>
      go_wp2_with fail
      refine qG (S:=(fun W=>W.cell? ⟨w.heap.size+1,0,none⟩=some (za ra nr rc)/\W.cell? ⟨w.heap.size+1,1,none⟩=some (za (some ⟨bl,ol,none⟩) ln lc)/\W.cell? ⟨w.heap.size,3,none⟩=some (za (some ⟨bv,ov,none⟩) kv cv)/\W.cell? ⟨bv,ov+k*5,none⟩=some (ze zd ab))) (by kernel_rfl) ?_ fun aa=> ?_
      ·exact jn.X _ (y5 _ _).drew
      have BD:Hid (Below wr.heap.size wr wr.drew):=(y5 _ _).drew;generalize wr.drew=wd at*;refine tkH 0 aa ?_;refine tkH 1 aa ?_;refine tkH 2 aa ?_;refine tkH 3 aa ?_;refine tkH 4 aa ?_;refine tkH 5 aa ?_;refine tkH 6 aa ?_;refine xQ (rs:=[7,8]) (by kernel_rfl) (by simp) ?_;refine xL rfl (fun K hK=> ?_) ?_
      ·skip
       go_simp;refine(LR.X wd BD.X).mono ?_;rintro e w1 ⟨rfl,hb⟩;have B1:=za4 (BD.X.trans (hb.mono BD.X.size));clear hb
       (try go_wp2_with fail)
       refine hoW hK (jn.X _ B1.X) fun aa=> ?_;clear hK K;refine rdH 8 fun K hK=> ?_;have BZ:Hid (Below wr.heap.size wr (w1.alloc (zg #[ze zd 0,za none 0 0] 80))):=B1.X.alloc B1.X.size _;have aw:=za4 (zS w1 (zg #[ze zd 0,za none 0 0] 80));have aH:Hid (wr.heap.size<=w1.heap.size):=B1.X.size;go_simp;refine hoW hK (jn.X _ BZ.X) fun aa=> ?_;clear hK K;obtain⟨rb,cC⟩:=nmd w1.heap.size;rw[cC.X]at aw aH⊢;generalize(w1.alloc _)=wz at*;obtain⟨z0,z1⟩:=za1 aw.X;have zf:=fun i=>yZ _ _ i _ _ aw.X;refine rdH 9 fun K hK=> ?_;have B5:Hid (Below wr.heap.size wr ((wz.setCell ⟨rb,0,none⟩ (ze zd ab)).setCell ⟨rb,1,none⟩ (za aN rl be))):=(BZ.X.setCell aH.X _).setCell aH.X _;have s1:=xb wz rb 0 _ _ (ze zd ab) aw.X;have V5:Hid (((wz.setCell ⟨rb,0,none⟩ (ze zd ab)).setCell ⟨rb,1,none⟩ (za aN rl be)).heap[rb]? =some (zg #[ze zd ab,za aN rl be] 80 (0,0))):=by
        have s2:=xb _ rb 1 _ _ (za aN rl be) s1;simp at s2;exact s2
       have oy:Hid (wr.heap.size<=rb):=aH.X;clear s1;go_simp;refine hoW hK (jn.X _ B5.X) fun aa=> ?_;clear hK K;generalize((wz.setCell ⟨rb,0,none⟩ _).setCell ⟨rb,1,none⟩ _)=w5 at*;refine qF (by kernel_rfl) ?_ _;clear aa
       (try go_wp2_with fail)
       go_meet;exact⟨rb,rfl,B5.X,V5.X,oy.X⟩
      refine xL rfl (fun K hK=> ?_) xP;have BZ:Hid (Below wr.heap.size wr (wd.alloc (zg #[ze zd 0,za none 0 0] 80))):=BD.X.alloc BD.X.size _;have aw:=za4 (zS wd (zg #[ze zd 0,za none 0 0] 80));have aH:Hid (wr.heap.size<=wd.heap.size):=BD.X.size;go_simp;refine hoW hK (jn.X _ BZ.X) fun aa=> ?_;clear hK K;obtain⟨rb,cC⟩:=nmd wd.heap.size;rw[cC.X]at aw aH⊢;generalize(wd.alloc _)=wz at*;obtain⟨z0,z1⟩:=za1 aw.X;have zf:=fun i=>yZ _ _ i _ _ aw.X;refine rdH 7 fun K hK=> ?_;go_simp;refine(LR.X wz BZ.X).mono ?_;rintro e w1 ⟨rfl,hb⟩;have B1:=za4 (BZ.X.trans (hb.mono BZ.X.size));have fY:=za4 (za0 hb (za2 aw.X) aw.X);obtain⟨z0,z1⟩:=za1 fY.X;have zf:=fun i=>yZ _ _ i _ _ fY.X;clear hb
      (try go_wp2_with fail)
      refine hoW hK (jn.X _ B1.X) fun aa=> ?_;clear hK K;refine rdH 9 fun K hK=> ?_;have B5:Hid (Below wr.heap.size wr ((w1.setCell ⟨rb,0,none⟩ (ze zd ab)).setCell ⟨rb,1,none⟩ (za aN rl be))):=(B1.X.setCell aH.X _).setCell aH.X _;have s1:=xb w1 rb 0 _ _ (ze zd ab) fY.X;have V5:Hid (((w1.setCell ⟨rb,0,none⟩ (ze zd ab)).setCell ⟨rb,1,none⟩ (za aN rl be)).heap[rb]? =some (zg #[ze zd ab,za aN rl be] 80 (0,0))):=by
       have s2:=xb _ rb 1 _ _ (za aN rl be) s1;simp at s2;exact s2
      have oy:Hid (wr.heap.size<=rb):=aH.X;clear s1;go_simp;refine hoW hK (jn.X _ B5.X) fun aa=> ?_;clear hK K;generalize((w1.setCell ⟨rb,0,none⟩ _).setCell ⟨rb,1,none⟩ _)=w5 at*;refine qF (by kernel_rfl) ?_ _;clear aa
      (try go_wp2_with fail)
      go_meet;exact⟨rb,rfl,B5.X,V5.X,oy.X⟩
     case rest=>
      obtain⟨rb,rfl,rW,m_,IY⟩:=hcut;obtain⟨w5,pY⟩:∃v,v=wc:=⟨_,rfl⟩;subst pY;have B5:=za4 rW;have V5:=za4 m_;have oy:=za4 IY;clear rW m_ IY;clear LR jn;have Q5:=za4 (Q3.X.below B5.X);have U5:=za4 (U3.X.below B5.X);have Rl:Hid (w.heap.size+4<=rb):=xj Q3.X.size oy.X;have Hm:=fun(W:zi) (hW:Below w5.heap.size w5 W)=>z96 n fine ab a ao (some ⟨bv,ov,none⟩) aN ac ko co kv cv be zs os vs aA W (HA.X.below (Q5.X.below hW).b) (HO.X.below (Q5.X.below hW).b) (HV.X.below (Q5.X.below hW).b) (dj.X.below (Q5.X.below hW).b) aF.X aD.X (by omega) (by omega) (by rw[cu.X];omega) (by rw[cu.X];exact eg) pH.X id b9 (by rw[cZ.X];exact wK.X)
      rw[cm.X,cu.X]at Hm;have BP:Hid _:=Hm;have pN:Hid (∀W,Below w5.heap.size w5 W->(fun W=>W.cell? ⟨w.heap.size,0,none⟩=some (ze zd n)/\W.cell? ⟨w.heap.size,1,none⟩=some (za a zl ac)/\W.cell? ⟨w.heap.size,2,none⟩=some (za ao ko co)/\W.cell? ⟨w.heap.size,3,none⟩=some (za (some ⟨bv,ov,none⟩) kv cv)/\W.cell? ⟨w.heap.size,4,none⟩=some (ze zd fine)/\W.cell? ⟨rb,0,none⟩=some (ze zd ab)/\W.cell? ⟨rb,1,none⟩=some (za aN rl be)/\W.cell? ⟨w.heap.size+1,1,none⟩=some (za (some ⟨bl,ol,none⟩) ln lc)/\W.cell? ⟨bl,ol+i,none⟩=some (ze zd id)) W):=fun W hW=>by
       have q:=Q5.X.below hW;obtain⟨x0,x1⟩:=za1 q.p;obtain⟨y0,y1,y2,y3,y4⟩:=za7 q.c;obtain⟨v0,v1⟩:=za1 (za0 hW (za2 V5.X) V5.X);exact⟨y0,y1,y2,y3,y4,v0,v1,x1,Ap.X W q.b⟩
      clear Hm B5 Q3 U3 oy;have kS:=pN.X _ (y5 _ _).drew
      go_wp2_with fail
      go_region_held3 (fun W=>W.cell? ⟨w.heap.size,0,none⟩=some (ze zd n)/\W.cell? ⟨w.heap.size,1,none⟩=some (za a zl ac)/\W.cell? ⟨w.heap.size,2,none⟩=some (za ao ko co)/\W.cell? ⟨w.heap.size,3,none⟩=some (za (some ⟨bv,ov,none⟩) kv cv)/\W.cell? ⟨w.heap.size,4,none⟩=some (ze zd fine)/\W.cell? ⟨rb,0,none⟩=some (ze zd ab)/\W.cell? ⟨rb,1,none⟩=some (za aN rl be)/\W.cell? ⟨w.heap.size+1,1,none⟩=some (za (some ⟨bl,ol,none⟩) ln lc)/\W.cell? ⟨bl,ol+i,none⟩=some (ze zd id)) (first|with_reducible exact kS|go_keep) ((first
       |(go_at_call 132
         with_reducible refine(BP.X w5.drew (y5 _ _).drew).mono ?_
         rintro e w6 ⟨rfl,hb⟩;have B6:Hid (Below w5.heap.size w5 w6):=(y5 _ _).drew.trans hb;have kS:=pN.X _ B6.X;clear hb)))
      clear kS BP;have Q6:=za4 (Q5.X.below B6.X);have U6:=za4 (U5.X.below B6.X);have V6:=za4 (za0 B6.X (za2 V5.X) V5.X);have dq:Hid (∀W,Below w6.heap.size w6 W->(fun W=>W.cell? ⟨w.heap.size,0,none⟩=some (ze zd n)/\W.cell? ⟨w.heap.size,1,none⟩=some (za a zl ac)/\W.cell? ⟨w.heap.size,2,none⟩=some (za ao ko co)/\W.cell? ⟨w.heap.size,3,none⟩=some (za (some ⟨bv,ov,none⟩) kv cv)/\W.cell? ⟨w.heap.size,4,none⟩=some (ze zd fine)/\W.cell? ⟨rb,0,none⟩=some (ze zd ab)/\W.cell? ⟨rb,1,none⟩=some (za aN rl be)/\W.cell? ⟨w.heap.size+1,1,none⟩=some (za (some ⟨bl,ol,none⟩) ln lc)/\W.cell? ⟨bl,ol+i,none⟩=some (ze zd id)) W):=fun W hW=>pN.X W (B6.X.trans (hW.mono B6.X.size));clear Q5 U5 V5 B6 pN;obtain⟨sf,ss,sv⟩:=s;obtain⟨bf,bi,kZ⟩:=b9;simp only at Lz⊢;cases bf
      ·have bC:Hid (fn (l1++sp2 R vs id (k+1))=⟨sf,ss,sv⟩):=by show _=_;rw[fL.X];exact ye (fun h=>by cases h.1)
       clear fL dq;obtain⟨d0,d1,d2,d3,d4⟩:=za7 Q6.X.c;go_wp2;go_roundw
       case rel=>exact⟨k+1,o0,o1,by omega,by first|rfl|go_num,by rw[bC.X],by rw[bC.X],Q6.X,by rw[bC.X];exact U6.X⟩
       case measure=>simp[intOf];omega
      ·by_cases hfi:kZ<=fine
       ·have Ck:¬fine<kZ:=by omega
        by_cases jC:sf=false∨kZ<sv
        ·have bC:Hid (fn (l1++sp2 R vs id (k+1))=⟨true,(id,ab,bi),kZ⟩):=by show _=_;rw[fL.X];exact z7 ⟨rfl,hfi,jC⟩
         clear fL;have lZ:sf=false∨(sf=true/\¬sv<=kZ):=by cases sf;exact .inl rfl;exact .inr ⟨rfl,by rcases jC with h|h;cases h;omega⟩
         have kI:=ym6 (ok:=plB true n zs os vs ko kv ab aA id) (dl:=plD true n zs os vs ko kv ab aA id) (aA.length+1);have J':pst (plB true n zs os vs ko kv ab aA id) (plD true n zs os vs ko kv ab aA id) (aA.length+1)=⟨true,bi,kZ⟩:=wK.X;rw[J']at kI;obtain⟨lU,dS,-⟩:=kI rfl;simp only at lU dS;obtain⟨xs,oD⟩:=nmd (insL aA bi id);obtain⟨xl,aX⟩:=nmd xs.length;obtain⟨vv,et⟩:=nmd (chI true ab);have Ak:Hid (vv=ab):=by show _=_;rw[<-et.X];rfl
         have eL:Hid (xs≠[]/\xs.length<=13):=by
          rw[<-oD.X];refine⟨by unfold insL;simp,?_⟩;unfold insL;rw[xS,yo,yh,qj,cu.X];omega
         have Iv:=fun(W:zi) (hW:Below w6.heap.size w6 W)=>yh5 n fine ab a ao (some ⟨bv,ov,none⟩) aN ac ko co kv cv be zs os vs aA W (HA.X.below (Q6.X.below hW).b) (HO.X.below (Q6.X.below hW).b) (HV.X.below (Q6.X.below hW).b) (dj.X.below (Q6.X.below hW).b) aF.X aD.X (by omega) (by omega) (by rw[cu.X];omega) (by rw[cu.X];exact eg) pH.X id bi true (by rw[cZ.X];exact lU) kZ (by have h:=dS;unfold plD at h;rw[lU]at h;exact h) xs oD.X
         rw[cm.X,cu.X]at Iv;have CI:Hid _:=Iv;have DG:Hid (w.heap.size+4<=w6.heap.size):=Q6.X.size;clear Iv kI J' lU dS U6;rcases lZ with h9|⟨h9,dF⟩
         ·subst h9
          obtain⟨d0,d1,d2,d3,d4⟩:=za7 Q6.X.c;go_upto_region 13 with fail;clear d0 d1 d2 d3 d4;go_cut [15,16,17]from 69 to 81 (fun pW sE pO wx=>∃(kr:Nat) (ad:Option Addr) (cg:Nat),pW=.pointer (some ⟨kr,0,none⟩)/\sE=ze zd kZ/\pO=.bool true/\Below w6.heap.size w6 wx/\wx.heap[kr]? =some (zg #[ze zd vv,za ad xl cg] 80 (0,0))/\wx.ownsRow (w.heap.size+4) 2 1 (za ad xl cg) xl (xs.map (ze zd)))
          case first=>
           go_wp2_with fail
           refine qG (S:=(fun W=>W.cell? ⟨w.heap.size,0,none⟩=some (ze zd n)/\W.cell? ⟨w.heap.size,1,none⟩=some (za a zl ac)/\W.cell? ⟨w.heap.size,2,none⟩=some (za ao ko co)/\W.cell? ⟨w.heap.size,3,none⟩=some (za (some ⟨bv,ov,none⟩) kv cv)/\W.cell? ⟨w.heap.size,4,none⟩=some (ze zd fine)/\W.cell? ⟨rb,0,none⟩=some (ze zd ab)/\W.cell? ⟨rb,1,none⟩=some (za aN rl be)/\W.cell? ⟨w.heap.size+1,1,none⟩=some (za (some ⟨bl,ol,none⟩) ln lc)/\W.cell? ⟨bl,ol+i,none⟩=some (ze zd id))) (by kernel_rfl) ?_ fun aa=> ?_
           ·exact dq.X _ (y5 _ _).drew
           have BD:Hid (Below w6.heap.size w6 w6.drew):=(y5 _ _).drew;generalize w6.drew=wd at*;refine tkH 0 aa ?_;refine tkH 1 aa ?_;refine tkH 2 aa ?_;refine tkH 3 aa ?_;refine tkH 4 aa ?_;refine tkH 5 aa ?_;refine tkH 6 aa ?_;refine tkH 7 aa ?_;refine xQ (rs:=[8,13]) (by kernel_rfl) (by simp) ?_;refine xL rfl (fun K hK=> ?_) ?_
           ·skip
            go_simp;refine(CI.X wd BD.X).mono ?_;rintro e w1 ⟨hb,ad,cg,rfl,ho⟩;have B1:=za4 (BD.X.trans (hb.mono BD.X.size));rw[et.X,aX.X];have O1:Hid (w1.ownsRow (w.heap.size+4) 2 1 (za ad xl cg) xl (xs.map (ze zd))):=by
             rw[aX.X]at ho;exact zb5 ho (by have:=DG.X;have:=BD.X.size;omega)
            clear ho;clear hb
            (try go_wp2_with fail)
            refine hoW hK (dq.X _ B1.X) fun aa=> ?_;clear hK K;refine tkH 9 aa ?_;refine tkH 10 aa ?_;refine tkH 11 aa ?_;refine tkH 12 aa ?_;refine rdH 13 fun K hK=> ?_;have BZ:Hid (Below w6.heap.size w6 (w1.alloc (zg #[ze zd 0,za none 0 0] 80))):=B1.X.alloc B1.X.size _;have aw:=za4 (zS w1 (zg #[ze zd 0,za none 0 0] 80));have aH:Hid (w6.heap.size<=w1.heap.size):=B1.X.size;have OZ:Hid (zk (w1.alloc (zg #[ze zd 0,za none 0 0] 80)) (w.heap.size+4) 2 1 (za ad xl cg) xl (xs.map (ze zd))):=O1.X.alloc _;go_simp;refine hoW hK (dq.X _ BZ.X) fun aa=> ?_;clear hK K;obtain⟨kr,cC⟩:=nmd w1.heap.size;rw[cC.X]at aw aH⊢;generalize(w1.alloc _)=wz at*;obtain⟨z0,z1⟩:=za1 aw.X;have zf:=fun i=>yZ _ _ i _ _ aw.X;refine rdH 14 fun K hK=> ?_;have B5:Hid (Below w6.heap.size w6 ((wz.setCell ⟨kr,0,none⟩ (ze zd vv)).setCell ⟨kr,1,none⟩ (za ad xl cg))):=(BZ.X.setCell aH.X _).setCell aH.X _;have s1:=xb wz kr 0 _ _ (ze zd vv) aw.X;have V5:Hid (((wz.setCell ⟨kr,0,none⟩ (ze zd vv)).setCell ⟨kr,1,none⟩ (za ad xl cg)).heap[kr]? =some (zg #[ze zd vv,za ad xl cg] 80 (0,0))):=by
             have s2:=xb _ kr 1 _ _ (za ad xl cg) s1;simp at s2;exact s2
            have O5:Hid (zk ((wz.setCell ⟨kr,0,none⟩ (ze zd vv)).setCell ⟨kr,1,none⟩ (za ad xl cg)) (w.heap.size+4) 2 1 (za ad xl cg) xl (xs.map (ze zd))):=zd9 (zd9 OZ.X aw.X) (xb _ kr 0 _ _ _ aw.X);have oy:Hid (w6.heap.size<=kr):=aH.X;clear s1;go_simp;refine hoW hK (dq.X _ B5.X) fun aa=> ?_;clear hK K;generalize((wz.setCell ⟨kr,0,none⟩ _).setCell ⟨kr,1,none⟩ _)=w5 at*;refine tkH 15 aa ?_;refine tkH 16 aa ?_;refine qF (by kernel_rfl) ?_ _;clear aa
            (try go_wp2_with fail)
            go_meet;exact⟨kr,ad,cg,rfl,rfl,rfl,B5.X,V5.X,O5.X⟩
           refine xL rfl (fun K hK=> ?_) xP;have BZ:Hid (Below w6.heap.size w6 (wd.alloc (zg #[ze zd 0,za none 0 0] 80))):=BD.X.alloc BD.X.size _;have aw:=za4 (zS wd (zg #[ze zd 0,za none 0 0] 80));have aH:Hid (w6.heap.size<=wd.heap.size):=BD.X.size;go_simp;refine hoW hK (dq.X _ BZ.X) fun aa=> ?_;clear hK K;obtain⟨kr,cC⟩:=nmd wd.heap.size;rw[cC.X]at aw aH⊢;generalize(wd.alloc _)=wz at*;obtain⟨z0,z1⟩:=za1 aw.X;have zf:=fun i=>yZ _ _ i _ _ aw.X;refine rdH 8 fun K hK=> ?_;go_simp;refine(CI.X wz BZ.X).mono ?_;rintro e w1 ⟨hb,ad,cg,rfl,ho⟩;have B1:=za4 (BZ.X.trans (hb.mono BZ.X.size));rw[et.X,aX.X];have O1:Hid (w1.ownsRow (w.heap.size+4) 2 1 (za ad xl cg) xl (xs.map (ze zd))):=by
            rw[aX.X]at ho;exact zb5 ho (by have:=DG.X;have:=BZ.X.size;omega)
           clear ho;have fY:=za4 (za0 hb (za2 aw.X) aw.X);obtain⟨z0,z1⟩:=za1 fY.X;have zf:=fun i=>yZ _ _ i _ _ fY.X;clear hb
           (try go_wp2_with fail)
           refine hoW hK (dq.X _ B1.X) fun aa=> ?_;clear hK K;refine tkH 9 aa ?_;refine tkH 10 aa ?_;refine tkH 11 aa ?_;refine tkH 12 aa ?_;refine rdH 14 fun K hK=> ?_;have B5:Hid (Below w6.heap.size w6 ((w1.setCell ⟨kr,0,none⟩ (ze zd vv)).setCell ⟨kr,1,none⟩ (za ad xl cg))):=(B1.X.setCell aH.X _).setCell aH.X _;have s1:=xb w1 kr 0 _ _ (ze zd vv) fY.X;have V5:Hid (((w1.setCell ⟨kr,0,none⟩ (ze zd vv)).setCell ⟨kr,1,none⟩ (za ad xl cg)).heap[kr]? =some (zg #[ze zd vv,za ad xl cg] 80 (0,0))):=by
            have s2:=xb _ kr 1 _ _ (za ad xl cg) s1;simp at s2;exact s2
           have O5:Hid (zk ((w1.setCell ⟨kr,0,none⟩ (ze zd vv)).setCell ⟨kr,1,none⟩ (za ad xl cg)) (w.heap.size+4) 2 1 (za ad xl cg) xl (xs.map (ze zd))):=zd9 (zd9 O1.X fY.X) (xb _ kr 0 _ _ _ fY.X);have oy:Hid (w6.heap.size<=kr):=aH.X;clear s1;go_simp;refine hoW hK (dq.X _ B5.X) fun aa=> ?_;clear hK K;generalize((w1.setCell ⟨kr,0,none⟩ _).setCell ⟨kr,1,none⟩ _)=w5 at*;refine tkH 15 aa ?_;refine tkH 16 aa ?_;refine qF (by kernel_rfl) ?_ _;clear aa
           (try go_wp2_with fail)
           go_meet;exact⟨kr,ad,cg,rfl,rfl,rfl,B5.X,V5.X,O5.X⟩
          case rest=>
           obtain⟨kr,ad,cg,rfl,rfl,rfl,rW,m_,rX⟩:=hcut;obtain⟨w5,pY⟩:∃v,v=wc:=⟨_,rfl⟩;subst pY;have B5:=za4 rW;have V5:=za4 m_;have O5:=za4 rX;clear rW m_ rX;clear CI dq et;have Q7:=za4 (Q6.X.below B5.X);have vu:Hid (w.heap.size+4<=w5.heap.size):=Q7.X.size;obtain⟨gx,e⟩:∃gx,ad=some ⟨gx,0,none⟩:=by
            rcases own_kinds O5.X with⟨_,h0⟩|⟨g,c,e,_,_⟩
            ·exact absurd (jg.1 (aX.X.trans h0)) eL.X.1
            ·simp only[qA]at e
             exact⟨g,e.1⟩
           subst e;have LS:=zw5 ra bl ol rc lc gx 0 cg R L vv xs w5 (HR.X.below Q7.X.b) (HL.X.below Q7.X.b) (zl1 O5.X) (by rw[HN.X];omega) (fun r hr=>⟨(HI.X r hr).1,by have:=(HI.X r hr).2.1;omega⟩) (by rw[HM.X];omega) ⟨eL.X.1,by have:=eL.X.2;omega⟩;rw[HN.X,HM.X,aX.X]at LS;obtain⟨p0,p1⟩:=za1 Q7.X.p;obtain⟨v0,v1⟩:=za1 V5.X
           go_wp2_with fail
           refine LS.mono ?_;rintro e w8 ⟨iC,ix,jS,jY,S8,rfl,iE,ph,jK⟩;obtain⟨n8,fM⟩:=nmd S8.length;rw[fM.X,HM.X];rw[fM.X,HM.X]at jK;have Q8:=za4 (Q7.X.below iE);have P8:=za4 jK;have Ie:Hid (S8.map RT.key=(setL R (oneT R (id,ab,bi))).map RT.key):=by
            show _=_;rw[ph];refine yl8 HS.X eL.X.1 ?_;show(vv,xs)=(ab,insL (zc7 R ab).ids bi id);rw[Ak.X,tF.X,oD.X]
           clear iE jK ph LS p0 p1 v0 v1 V5 O5 B5 Q7;obtain⟨q0,q1⟩:=za1 Q8.X.o;have qf:=fun i=>yZ _ _ i _ _ Q8.X.o;have s1:=xb w8 (w.heap.size+3) 0 _ _ (za iC n8 ix) Q8.X.o;have s2:=xb _ (w.heap.size+3) 1 _ _ (za (some ⟨jS,0,none⟩) ln jY) s1;simp at s2;have Q9:Hid (OQ w ((w8.setCell ⟨w.heap.size+3,0,none⟩ (za iC n8 ix)).setCell ⟨w.heap.size+3,1,none⟩ (za (some ⟨jS,0,none⟩) ln jY)) #[ze zd n,za a zl ac,za ao ko co,za (some ⟨bv,ov,none⟩) kv cv,ze zd fine] #[za ra nr rc,za (some ⟨bl,ol,none⟩) ln lc] (za iC n8 ix) (za (some ⟨jS,0,none⟩) ln jY)):=⟨(Q8.X.b.setCell (by simp) _).setCell (by simp) _,za8 (za8 Q8.X.c (by omega)) (by omega),za8 (za8 Q8.X.p (by omega)) (by omega),za8 (za8 Q8.X.a (by omega)) (by omega),s2⟩;have P9:Hid (PO ((w8.setCell ⟨w.heap.size+3,0,none⟩ (za iC n8 ix)).setCell ⟨w.heap.size+3,1,none⟩ (za (some ⟨jS,0,none⟩) ln jY)) (w.heap.size+4) (za iC n8 ix) S8 (za (some ⟨jS,0,none⟩) ln jY) L):=((P8.X.box Q8.X.o).box s1).base vu.X;clear s1 s2
           go_wp2_with fail
           clear q0 q1 qf Q8 P8;generalize((w8.setCell ⟨w.heap.size+3,0,none⟩ _).setCell ⟨w.heap.size+3,1,none⟩ _)=w9 at*;have uc:=fun(W:zi) (hW:Below w9.heap.size w9 W)=>zF1 (some ⟨bl,ol,none⟩) lc ln L id W (HL.X.below (Q9.X.below hW).b) HM.X (by omega)
           obtain⟨lx,jP⟩:=nmd ((zm9 L id).length);rw[jP.X]at uc;have CU:Hid _:=uc;have jX:Hid (∀W,Below w9.heap.size w9 W->(fun W=>W.cell? ⟨w.heap.size+1,1,none⟩=some (za (some ⟨bl,ol,none⟩) ln lc)/\W.cell? ⟨bl,ol+i,none⟩=some (ze zd id)) W):=fun W hW=>by
            have q:=Q9.X.below hW;exact⟨(za1 q.p).2,Ap.X W q.b⟩
           clear uc;have kS:=jX.X _ (y5 _ _).drew
           go_region_held3 (fun W=>W.cell? ⟨w.heap.size+1,1,none⟩=some (za (some ⟨bl,ol,none⟩) ln lc)/\W.cell? ⟨bl,ol+i,none⟩=some (ze zd id)) (first|with_reducible exact kS|with_reducible exact lh|go_keep) ((first
            |(go_at_call 73
              with_reducible refine(CU.X w9.drew (y5 _ _).drew).mono ?_
              rintro e iK ⟨kG,fV,rfl,hb,ho⟩;have ng:Hid (Below w9.heap.size w9 iK):=(y5 _ _).drew.trans hb;have fj:=za4 (Q9.X.below ng.X);have At:=za4 (zb5 ho Q9.X.size);have kS:=jX.X _ ng.X;have lh:(fun W=>W.cell? ⟨w.heap.size+1,1,none⟩=some (za (some ⟨bl,ol,none⟩) ln lc)/\W.cell? ⟨bl,ol+i,none⟩=some (ze zd id)) (iK.setCell ⟨w.heap.size+3,1,none⟩ (za (some ⟨kG,0,none⟩) lx fV)):=⟨za5 kS.1 (by show w.heap.size+1≠w.heap.size+3;omega),Ap.X _ (fj.X.b.setCell (by simp) _)⟩;obtain⟨q0,q1⟩:=za1 fj.X.o;have qf:=fun i=>yZ _ _ i _ _ fj.X.o;clear hb ho)))
           clear kS lh CU jX;have s1:=xb iK (w.heap.size+3) 1 _ _ (za (some ⟨kG,0,none⟩) lx fV) fj.X.o;simp at s1;have l5:Hid (OQ w (iK.setCell ⟨w.heap.size+3,1,none⟩ (za (some ⟨kG,0,none⟩) lx fV)) #[ze zd n,za a zl ac,za ao ko co,za (some ⟨bv,ov,none⟩) kv cv,ze zd fine] #[za ra nr rc,za (some ⟨bl,ol,none⟩) ln lc] (za iC n8 ix) (za (some ⟨kG,0,none⟩) lx fV)):=⟨fj.X.b.setCell (by simp) _,za8 fj.X.c (by omega),za8 fj.X.p (by omega),za8 fj.X.a (by omega),s1⟩;have GC:Hid (OU w (iK.setCell ⟨w.heap.size+3,1,none⟩ (za (some ⟨kG,0,none⟩) lx fV)) #[za ra nr rc,za (some ⟨bl,ol,none⟩) ln lc] R L ⟨true,(id,ab,bi),kZ⟩ (za iC n8 ix) (za (some ⟨kG,0,none⟩) lx fV)):=.inr ⟨rfl,S8,⟨((P9.X.below ng.X).box fj.X.o).r,((P9.X.below ng.X).box fj.X.o).s,by show zk _ _ _ _ _ (zm9 L id).length _;rw[jP.X];exact zf8 At.X fj.X.o (by decide)⟩,Ie.X,kG,fV,by show _=za _ (zm9 L id).length _;rw[jP.X]⟩;clear s1 At q0 q1 qf fj P9 ng Q9;go_wp2;go_roundw
           case rel=>exact⟨k+1,_,_,by omega,by first|rfl|go_num,by rw[bC.X],by rw[bC.X],l5.X,by rw[bC.X];exact GC.X⟩
           case measure=>simp[intOf];omega
         ·subst h9
          obtain⟨d0,d1,d2,d3,d4⟩:=za7 Q6.X.c;go_upto_region 13 with fail;clear d0 d1 d2 d3 d4;go_cut [15,16,17]from 69 to 81 (fun pW sE pO wx=>∃(kr:Nat) (ad:Option Addr) (cg:Nat),pW=.pointer (some ⟨kr,0,none⟩)/\sE=ze zd kZ/\pO=.bool true/\Below w6.heap.size w6 wx/\wx.heap[kr]? =some (zg #[ze zd vv,za ad xl cg] 80 (0,0))/\wx.ownsRow (w.heap.size+4) 2 1 (za ad xl cg) xl (xs.map (ze zd)))
          case first=>
           go_wp2_with fail
           refine qG (S:=(fun W=>W.cell? ⟨w.heap.size,0,none⟩=some (ze zd n)/\W.cell? ⟨w.heap.size,1,none⟩=some (za a zl ac)/\W.cell? ⟨w.heap.size,2,none⟩=some (za ao ko co)/\W.cell? ⟨w.heap.size,3,none⟩=some (za (some ⟨bv,ov,none⟩) kv cv)/\W.cell? ⟨w.heap.size,4,none⟩=some (ze zd fine)/\W.cell? ⟨rb,0,none⟩=some (ze zd ab)/\W.cell? ⟨rb,1,none⟩=some (za aN rl be)/\W.cell? ⟨w.heap.size+1,1,none⟩=some (za (some ⟨bl,ol,none⟩) ln lc)/\W.cell? ⟨bl,ol+i,none⟩=some (ze zd id))) (by kernel_rfl) ?_ fun aa=> ?_
           ·exact dq.X _ (y5 _ _).drew
           have BD:Hid (Below w6.heap.size w6 w6.drew):=(y5 _ _).drew;generalize w6.drew=wd at*;refine tkH 0 aa ?_;refine tkH 1 aa ?_;refine tkH 2 aa ?_;refine tkH 3 aa ?_;refine tkH 4 aa ?_;refine tkH 5 aa ?_;refine tkH 6 aa ?_;refine tkH 7 aa ?_;refine xQ (rs:=[8,13]) (by kernel_rfl) (by simp) ?_;refine xL rfl (fun K hK=> ?_) ?_
           ·skip
            go_simp;refine(CI.X wd BD.X).mono ?_;rintro e w1 ⟨hb,ad,cg,rfl,ho⟩;have B1:=za4 (BD.X.trans (hb.mono BD.X.size));rw[et.X,aX.X];have O1:Hid (w1.ownsRow (w.heap.size+4) 2 1 (za ad xl cg) xl (xs.map (ze zd))):=by
             rw[aX.X]at ho;exact zb5 ho (by have:=DG.X;have:=BD.X.size;omega)
            clear ho;clear hb
            (try go_wp2_with fail)
            refine hoW hK (dq.X _ B1.X) fun aa=> ?_;clear hK K;refine tkH 9 aa ?_;refine tkH 10 aa ?_;refine tkH 11 aa ?_;refine tkH 12 aa ?_;refine rdH 13 fun K hK=> ?_;have BZ:Hid (Below w6.heap.size w6 (w1.alloc (zg #[ze zd 0,za none 0 0] 80))):=B1.X.alloc B1.X.size _;have aw:=za4 (zS w1 (zg #[ze zd 0,za none 0 0] 80));have aH:Hid (w6.heap.size<=w1.heap.size):=B1.X.size;have OZ:Hid (zk (w1.alloc (zg #[ze zd 0,za none 0 0] 80)) (w.heap.size+4) 2 1 (za ad xl cg) xl (xs.map (ze zd))):=O1.X.alloc _;go_simp;refine hoW hK (dq.X _ BZ.X) fun aa=> ?_;clear hK K;obtain⟨kr,cC⟩:=nmd w1.heap.size;rw[cC.X]at aw aH⊢;generalize(w1.alloc _)=wz at*;obtain⟨z0,z1⟩:=za1 aw.X;have zf:=fun i=>yZ _ _ i _ _ aw.X;refine rdH 14 fun K hK=> ?_;have B5:Hid (Below w6.heap.size w6 ((wz.setCell ⟨kr,0,none⟩ (ze zd vv)).setCell ⟨kr,1,none⟩ (za ad xl cg))):=(BZ.X.setCell aH.X _).setCell aH.X _;have s1:=xb wz kr 0 _ _ (ze zd vv) aw.X;have V5:Hid (((wz.setCell ⟨kr,0,none⟩ (ze zd vv)).setCell ⟨kr,1,none⟩ (za ad xl cg)).heap[kr]? =some (zg #[ze zd vv,za ad xl cg] 80 (0,0))):=by
             have s2:=xb _ kr 1 _ _ (za ad xl cg) s1;simp at s2;exact s2
            have O5:Hid (zk ((wz.setCell ⟨kr,0,none⟩ (ze zd vv)).setCell ⟨kr,1,none⟩ (za ad xl cg)) (w.heap.size+4) 2 1 (za ad xl cg) xl (xs.map (ze zd))):=zd9 (zd9 OZ.X aw.X) (xb _ kr 0 _ _ _ aw.X);have oy:Hid (w6.heap.size<=kr):=aH.X;clear s1;go_simp;refine hoW hK (dq.X _ B5.X) fun aa=> ?_;clear hK K;generalize((wz.setCell ⟨kr,0,none⟩ _).setCell ⟨kr,1,none⟩ _)=w5 at*;refine tkH 15 aa ?_;refine tkH 16 aa ?_;refine qF (by kernel_rfl) ?_ _;clear aa
            (try go_wp2_with fail)
            go_meet;exact⟨kr,ad,cg,rfl,rfl,rfl,B5.X,V5.X,O5.X⟩
           refine xL rfl (fun K hK=> ?_) xP;have BZ:Hid (Below w6.heap.size w6 (wd.alloc (zg #[ze zd 0,za none 0 0] 80))):=BD.X.alloc BD.X.size _;have aw:=za4 (zS wd (zg #[ze zd 0,za none 0 0] 80));have aH:Hid (w6.heap.size<=wd.heap.size):=BD.X.size;go_simp;refine hoW hK (dq.X _ BZ.X) fun aa=> ?_;clear hK K;obtain⟨kr,cC⟩:=nmd wd.heap.size;rw[cC.X]at aw aH⊢;generalize(wd.alloc _)=wz at*;obtain⟨z0,z1⟩:=za1 aw.X;have zf:=fun i=>yZ _ _ i _ _ aw.X;refine rdH 8 fun K hK=> ?_;go_simp;refine(CI.X wz BZ.X).mono ?_;rintro e w1 ⟨hb,ad,cg,rfl,ho⟩;have B1:=za4 (BZ.X.trans (hb.mono BZ.X.size));rw[et.X,aX.X];have O1:Hid (w1.ownsRow (w.heap.size+4) 2 1 (za ad xl cg) xl (xs.map (ze zd))):=by
            rw[aX.X]at ho;exact zb5 ho (by have:=DG.X;have:=BZ.X.size;omega)
           clear ho;have fY:=za4 (za0 hb (za2 aw.X) aw.X);obtain⟨z0,z1⟩:=za1 fY.X;have zf:=fun i=>yZ _ _ i _ _ fY.X;clear hb
           (try go_wp2_with fail)
           refine hoW hK (dq.X _ B1.X) fun aa=> ?_;clear hK K;refine tkH 9 aa ?_;refine tkH 10 aa ?_;refine tkH 11 aa ?_;refine tkH 12 aa ?_;refine rdH 14 fun K hK=> ?_;have B5:Hid (Below w6.heap.size w6 ((w1.setCell ⟨kr,0,none⟩ (ze zd vv)).setCell ⟨kr,1,none⟩ (za ad xl cg))):=(B1.X.setCell aH.X _).setCell aH.X _;have s1:=xb w1 kr 0 _ _ (ze zd vv) fY.X;have V5:Hid (((w1.setCell ⟨kr,0,none⟩ (ze zd vv)).setCell ⟨kr,1,none⟩ (za ad xl cg)).heap[kr]? =some (zg #[ze zd vv,za ad xl cg] 80 (0,0))):=by
            have s2:=xb _ kr 1 _ _ (za ad xl cg) s1;simp at s2;exact s2
           have O5:Hid (zk ((w1.setCell ⟨kr,0,none⟩ (ze zd vv)).setCell ⟨kr,1,none⟩ (za ad xl cg)) (w.heap.size+4) 2 1 (za ad xl cg) xl (xs.map (ze zd))):=zd9 (zd9 O1.X fY.X) (xb _ kr 0 _ _ _ fY.X);have oy:Hid (w6.heap.size<=kr):=aH.X;clear s1;go_simp;refine hoW hK (dq.X _ B5.X) fun aa=> ?_;clear hK K;generalize((w1.setCell ⟨kr,0,none⟩ _).setCell ⟨kr,1,none⟩ _)=w5 at*;refine tkH 15 aa ?_;refine tkH 16 aa ?_;refine qF (by kernel_rfl) ?_ _;clear aa
           (try go_wp2_with fail)
           go_meet;exact⟨kr,ad,cg,rfl,rfl,rfl,B5.X,V5.X,O5.X⟩
          case rest=>
           obtain⟨kr,ad,cg,rfl,rfl,rfl,rW,m_,rX⟩:=hcut;obtain⟨w5,pY⟩:∃v,v=wc:=⟨_,rfl⟩;subst pY;have B5:=za4 rW;have V5:=za4 m_;have O5:=za4 rX;clear rW m_ rX;clear CI dq et;have Q7:=za4 (Q6.X.below B5.X);have vu:Hid (w.heap.size+4<=w5.heap.size):=Q7.X.size;obtain⟨gx,e⟩:∃gx,ad=some ⟨gx,0,none⟩:=by
            rcases own_kinds O5.X with⟨_,h0⟩|⟨g,c,e,_,_⟩
            ·exact absurd (jg.1 (aX.X.trans h0)) eL.X.1
            ·simp only[qA]at e
             exact⟨g,e.1⟩
           subst e;have LS:=zw5 ra bl ol rc lc gx 0 cg R L vv xs w5 (HR.X.below Q7.X.b) (HL.X.below Q7.X.b) (zl1 O5.X) (by rw[HN.X];omega) (fun r hr=>⟨(HI.X r hr).1,by have:=(HI.X r hr).2.1;omega⟩) (by rw[HM.X];omega) ⟨eL.X.1,by have:=eL.X.2;omega⟩;rw[HN.X,HM.X,aX.X]at LS;obtain⟨p0,p1⟩:=za1 Q7.X.p;obtain⟨v0,v1⟩:=za1 V5.X
           go_wp2_with fail
           refine LS.mono ?_;rintro e w8 ⟨iC,ix,jS,jY,S8,rfl,iE,ph,jK⟩;obtain⟨n8,fM⟩:=nmd S8.length;rw[fM.X,HM.X];rw[fM.X,HM.X]at jK;have Q8:=za4 (Q7.X.below iE);have P8:=za4 jK;have Ie:Hid (S8.map RT.key=(setL R (oneT R (id,ab,bi))).map RT.key):=by
            show _=_;rw[ph];refine yl8 HS.X eL.X.1 ?_;show(vv,xs)=(ab,insL (zc7 R ab).ids bi id);rw[Ak.X,tF.X,oD.X]
           clear iE jK ph LS p0 p1 v0 v1 V5 O5 B5 Q7;obtain⟨q0,q1⟩:=za1 Q8.X.o;have qf:=fun i=>yZ _ _ i _ _ Q8.X.o;have s1:=xb w8 (w.heap.size+3) 0 _ _ (za iC n8 ix) Q8.X.o;have s2:=xb _ (w.heap.size+3) 1 _ _ (za (some ⟨jS,0,none⟩) ln jY) s1;simp at s2;have Q9:Hid (OQ w ((w8.setCell ⟨w.heap.size+3,0,none⟩ (za iC n8 ix)).setCell ⟨w.heap.size+3,1,none⟩ (za (some ⟨jS,0,none⟩) ln jY)) #[ze zd n,za a zl ac,za ao ko co,za (some ⟨bv,ov,none⟩) kv cv,ze zd fine] #[za ra nr rc,za (some ⟨bl,ol,none⟩) ln lc] (za iC n8 ix) (za (some ⟨jS,0,none⟩) ln jY)):=⟨(Q8.X.b.setCell (by simp) _).setCell (by simp) _,za8 (za8 Q8.X.c (by omega)) (by omega),za8 (za8 Q8.X.p (by omega)) (by omega),za8 (za8 Q8.X.a (by omega)) (by omega),s2⟩;have P9:Hid (PO ((w8.setCell ⟨w.heap.size+3,0,none⟩ (za iC n8 ix)).setCell ⟨w.heap.size+3,1,none⟩ (za (some ⟨jS,0,none⟩) ln jY)) (w.heap.size+4) (za iC n8 ix) S8 (za (some ⟨jS,0,none⟩) ln jY) L):=((P8.X.box Q8.X.o).box s1).base vu.X;clear s1 s2
           go_wp2_with fail
           clear q0 q1 qf Q8 P8;generalize((w8.setCell ⟨w.heap.size+3,0,none⟩ _).setCell ⟨w.heap.size+3,1,none⟩ _)=w9 at*;have uc:=fun(W:zi) (hW:Below w9.heap.size w9 W)=>zF1 (some ⟨bl,ol,none⟩) lc ln L id W (HL.X.below (Q9.X.below hW).b) HM.X (by omega)
           obtain⟨lx,jP⟩:=nmd ((zm9 L id).length);rw[jP.X]at uc;have CU:Hid _:=uc;have jX:Hid (∀W,Below w9.heap.size w9 W->(fun W=>W.cell? ⟨w.heap.size+1,1,none⟩=some (za (some ⟨bl,ol,none⟩) ln lc)/\W.cell? ⟨bl,ol+i,none⟩=some (ze zd id)) W):=fun W hW=>by
            have q:=Q9.X.below hW;exact⟨(za1 q.p).2,Ap.X W q.b⟩
           clear uc;have kS:=jX.X _ (y5 _ _).drew
           go_region_held3 (fun W=>W.cell? ⟨w.heap.size+1,1,none⟩=some (za (some ⟨bl,ol,none⟩) ln lc)/\W.cell? ⟨bl,ol+i,none⟩=some (ze zd id)) (first|with_reducible exact kS|with_reducible exact lh|go_keep) ((first
            |(go_at_call 73
              with_reducible refine(CU.X w9.drew (y5 _ _).drew).mono ?_
              rintro e iK ⟨kG,fV,rfl,hb,ho⟩;have ng:Hid (Below w9.heap.size w9 iK):=(y5 _ _).drew.trans hb;have fj:=za4 (Q9.X.below ng.X);have At:=za4 (zb5 ho Q9.X.size);have kS:=jX.X _ ng.X;have lh:(fun W=>W.cell? ⟨w.heap.size+1,1,none⟩=some (za (some ⟨bl,ol,none⟩) ln lc)/\W.cell? ⟨bl,ol+i,none⟩=some (ze zd id)) (iK.setCell ⟨w.heap.size+3,1,none⟩ (za (some ⟨kG,0,none⟩) lx fV)):=⟨za5 kS.1 (by show w.heap.size+1≠w.heap.size+3;omega),Ap.X _ (fj.X.b.setCell (by simp) _)⟩;obtain⟨q0,q1⟩:=za1 fj.X.o;have qf:=fun i=>yZ _ _ i _ _ fj.X.o;clear hb ho)))
           clear kS lh CU jX;have s1:=xb iK (w.heap.size+3) 1 _ _ (za (some ⟨kG,0,none⟩) lx fV) fj.X.o;simp at s1;have l5:Hid (OQ w (iK.setCell ⟨w.heap.size+3,1,none⟩ (za (some ⟨kG,0,none⟩) lx fV)) #[ze zd n,za a zl ac,za ao ko co,za (some ⟨bv,ov,none⟩) kv cv,ze zd fine] #[za ra nr rc,za (some ⟨bl,ol,none⟩) ln lc] (za iC n8 ix) (za (some ⟨kG,0,none⟩) lx fV)):=⟨fj.X.b.setCell (by simp) _,za8 fj.X.c (by omega),za8 fj.X.p (by omega),za8 fj.X.a (by omega),s1⟩;have GC:Hid (OU w (iK.setCell ⟨w.heap.size+3,1,none⟩ (za (some ⟨kG,0,none⟩) lx fV)) #[za ra nr rc,za (some ⟨bl,ol,none⟩) ln lc] R L ⟨true,(id,ab,bi),kZ⟩ (za iC n8 ix) (za (some ⟨kG,0,none⟩) lx fV)):=.inr ⟨rfl,S8,⟨((P9.X.below ng.X).box fj.X.o).r,((P9.X.below ng.X).box fj.X.o).s,by show zk _ _ _ _ _ (zm9 L id).length _;rw[jP.X];exact zf8 At.X fj.X.o (by decide)⟩,Ie.X,kG,fV,by show _=za _ (zm9 L id).length _;rw[jP.X]⟩;clear s1 At q0 q1 qf fj P9 ng Q9;go_wp2;go_roundw
           case rel=>exact⟨k+1,_,_,by omega,by first|rfl|go_num,by rw[bC.X],by rw[bC.X],l5.X,by rw[bC.X];exact GC.X⟩
           case measure=>simp[intOf];omega
        ·have bC:Hid (fn (l1++sp2 R vs id (k+1))=⟨sf,ss,sv⟩):=by show _=_;rw[fL.X];exact ye (fun h=>jC h.2.2)
         clear fL dq;have nc:sf=true:=by cases sf;exact absurd (.inl rfl) jC;rfl
         subst nc;have dF:sv<=kZ:=by rcases Int.lt_or_le kZ sv with h|h;exact absurd (.inr h) jC;exact h
         obtain⟨d0,d1,d2,d3,d4⟩:=za7 Q6.X.c;go_wp2;go_roundw
         case rel=>exact⟨k+1,o0,o1,by omega,by first|rfl|go_num,by rw[bC.X],by rw[bC.X],Q6.X,by rw[bC.X];exact U6.X⟩
         case measure=>simp[intOf];omega
       ·have bC:Hid (fn (l1++sp2 R vs id (k+1))=⟨sf,ss,sv⟩):=by show _=_;rw[fL.X];exact ye (fun h=>hfi h.2.1)
        clear fL dq;have Ck:fine<kZ:=by omega
        obtain⟨d0,d1,d2,d3,d4⟩:=za7 Q6.X.c;go_wp2;go_roundw
        case rel=>exact⟨k+1,o0,o1,by omega,by first|rfl|go_num,by rw[bC.X],by rw[bC.X],Q6.X,by rw[bC.X];exact U6.X⟩
        case measure=>simp[intOf];omega
    ·have gV:¬((k:Int)<(kv:Int)):=by omega
     have cW:k=kv:=by omega
     go_wp2;go_roundw
     case rel=>exact⟨i+1,o0,o1,by omega,by first|rfl|go_num,by rw[aY.X,cW],by rw[aY.X,cW],Q3.X,by have U9:=FZ.X;rw[cW,<-aY.X]at U9;exact U9⟩
     case measure=>simp[intOf];omega
  ·have oU:¬((i:Int)<(ln:Int)):=by omega
   have oK:i=ln:=by omega
   have PG:Hid (fn (sp3 R vs kv L i)=s9):=by show _=_;rw[oK];exact vY.X.symm
   rw[PG.X]at U1⊢;rcases U1.X with⟨nc,fU⟩|⟨nc,S,mX,k_,g,c,e⟩
   ·simp only[Array.mk.injEq,List.cons.injEq,qt]at fU
    obtain⟨rfl,rfl⟩:=fU;have wB:RX=R:=by rw[jM.X,nc];rfl
    have vH:LX=L:=by rw[eh.X,nc];rfl
    have CC:=zq0 ra bl ol rc lc R L wr (HR.X.below Q1.X.b) (HL.X.below Q1.X.b) (by rw[HN.X];omega) (fun r hr=>⟨(HI.X r hr).1,by have:=(HI.X r hr).2.1;omega⟩) (by rw[HM.X];omega);rw[HN.X,HM.X]at CC;have Ao:=za4 wB;have m5:=za4 vH;clear wB vH;obtain⟨q0,q1⟩:=za1 Q1.X.o
    go_wp2_with fail
    refine CC.mono ?_;rintro e w2 ⟨ag,ai,ck,aj,S2,rfl,hb,hk,ho⟩;rw[HN.X,HM.X]at ho;rw[HN.X,HM.X];have Q2:=za4 (Q1.X.below hb);have P2:=za4 (ho.base (by have:=Q1.X.size;omega));have dZ:Hid (S2.map RT.key=RX.map RT.key):=by show _=_;rw[Ao.X];exact hk
    clear hb ho hk CC q0 q1;obtain⟨a0,a1⟩:=za1 Q2.X.a;have af:=fun i=>yZ _ _ i _ _ Q2.X.a;have s1:=xb w2 (w.heap.size+2) 0 _ _ (za ag nr ai) Q2.X.a;have P3:Hid (PO ((w2.setCell ⟨w.heap.size+2,0,none⟩ (za ag nr ai)).setCell ⟨w.heap.size+2,1,none⟩ (za (some ⟨ck,0,none⟩) ln aj)) (w.heap.size+4) (za ag nr ai) S2 (za (some ⟨ck,0,none⟩) ln aj) L):=(P2.X.box Q2.X.a).box s1;have B3:Hid (Below w.heap.size w ((w2.setCell ⟨w.heap.size+2,0,none⟩ (za ag nr ai)).setCell ⟨w.heap.size+2,1,none⟩ (za (some ⟨ck,0,none⟩) ln aj))):=(Q2.X.b.setCell (by simp) _).setCell (by simp) _;clear s1;go_wp2;refine xe (v:=.tuple #[.agg #[za ag nr ai,za (some ⟨ck,0,none⟩) ln aj],.bool s9.f]) (by simp[results,Tryz.results95,go_sem,a0,a1,nc]) rfl ?_;show yE3 _ _ _ _ _ _;exact⟨ag,_,ai,ck,_,aj,S2,by rw[nc],B3.X,by have:=congrArg zo dZ.X;simp only[qz]at this;rw[this];rw[Ao.X];exact HN.X,by rw[m5.X];exact HM.X,dZ.X,by rw[m5.X];exact P3.X.base (by omega)⟩
   ·have wB:RX=wrL R (oneT R s9.s):=by rw[jM.X,nc];rfl
    have vH:LX=zm9 L s9.s.1:=by rw[eh.X,nc];rfl
    obtain⟨sa,sc,e0⟩:=zp8 mX.r;subst e e0;have Gb:(oneT R s9.s).ids≠[]/\(oneT R s9.s).ids.length<=13:=by
     have h2:=z38 (fun r hr=>(HI.X r hr).2.1) s9.s.2.1;refine⟨by unfold oneT insL;simp,?_⟩;unfold oneT insL;simp only[xS,yo,yh,qj];omega
    have lA:Hid (RX.map RT.key=S.map RT.key):=by show _=_;rw[wB,k_,z53 HS.X Gb.1]
    have FU:=zG0 L s9.s.1;rw[HM.X]at FU;obtain⟨LC,Oz⟩:=nmd (zm9 L s9.s.1);rw[Oz.X]at mX FU vH Q1;have m5:=za4 vH;have MC:S.length<=400:=by
     have h1:=congrArg zo k_;simp only[qz]at h1;have h2:=(zz0 R (oneT R s9.s)).2;rw[HN.X]at h2;omega
    have CC:=zq0 sa g 0 sc c S LC wr mX.at (zl1 mX.l) (by omega) (yq0 HI.X Gb k_) (by omega);obtain⟨nS,bC⟩:=nmd S.length;obtain⟨nC,Cu⟩:=nmd LC.length;rw[bC.X,Cu.X]at CC Q1;clear wB vH mX k_ FU MC Gb;obtain⟨q0,q1⟩:=za1 Q1.X.o
    go_wp2_with fail
    refine CC.mono ?_;rintro e w2 ⟨ag,ai,ck,aj,S2,rfl,hb,hk,ho⟩;rw[bC.X,Cu.X]at ho;rw[bC.X,Cu.X];have Q2:=za4 (Q1.X.below hb);have P2:=za4 (ho.base (by have:=Q1.X.size;omega));have dZ:Hid (S2.map RT.key=RX.map RT.key):=by show _=_;rw[lA.X];exact hk
    clear hb ho hk CC q0 q1;obtain⟨a0,a1⟩:=za1 Q2.X.a;have af:=fun i=>yZ _ _ i _ _ Q2.X.a;have s1:=xb w2 (w.heap.size+2) 0 _ _ (za ag nS ai) Q2.X.a;have P3:Hid (PO ((w2.setCell ⟨w.heap.size+2,0,none⟩ (za ag nS ai)).setCell ⟨w.heap.size+2,1,none⟩ (za (some ⟨ck,0,none⟩) nC aj)) (w.heap.size+4) (za ag nS ai) S2 (za (some ⟨ck,0,none⟩) nC aj) LC):=(P2.X.box Q2.X.a).box s1;have B3:Hid (Below w.heap.size w ((w2.setCell ⟨w.heap.size+2,0,none⟩ (za ag nS ai)).setCell ⟨w.heap.size+2,1,none⟩ (za (some ⟨ck,0,none⟩) nC aj))):=(Q2.X.b.setCell (by simp) _).setCell (by simp) _;clear s1;go_wp2;refine xe (v:=.tuple #[.agg #[za ag nS ai,za (some ⟨ck,0,none⟩) nC aj],.bool s9.f]) (by simp[results,Tryz.results95,go_sem,a0,a1,nc]) rfl ?_;show yE3 _ _ _ _ _ _;exact⟨ag,_,ai,ck,_,aj,S2,by rw[nc],B3.X,by have:=congrArg zo dZ.X;simp only[qz]at this;rw[this];have h2:=congrArg zo lA.X;simp only[qz]at h2;rw[h2];exact bC.X,by rw[m5.X];exact Cu.X,dZ.X,by rw[m5.X];exact P3.X.base (by omega)⟩
def yy7(W:zi)(k:Nat):Nat:=match W.cell? ⟨k,1,none⟩with
 |some (za _ n _)=>n
 |_=>0
theorem yg1{w:zi}{base size n rc k:Nat}{e:TypeId}{ra:Option Addr}{xs:List Value}(h:w.ownsRow base e size (za ra n rc) n xs)(hk:k<base):∀b off,ra=some ⟨b,off,none⟩->b≠k:=fun b off e9=>by
 rcases own_kinds h with⟨e1,_⟩|⟨g,c,e1,h2,_⟩
 ·simp only[qA]at e1
  rw[e1.1]at e9;cases e9
 ·simp only[qA]at e1
  rw[e1.1]at e9;simp only[xT,qg,qt]at e9;omega
theorem PO.is{w:zi}{base rn rc ln lc:Nat}{ra la:Option Addr}{S:List RT}{L:List Int}(h:PO w base (za ra rn rc) S (za la ln lc) L)(hn:S.length=rn)(hl:L.length=ln):zc3 w ra la rn ln S L:=by
 have hr:=h.r;have h2:=h.l;rw[hn]at hr;rw[hl]at h2;exact⟨hn,hl,zl8 hr (fun s hs=>(h.ints s hs).1),zl1 h2,z88 hr,z88 h2,fun r hr=>(h.ints r hr).2⟩
theorem PO.off{w:zi}{base rn rc ln lc k:Nat}{ra la:Option Addr}{S:List RT}{L:List Int}(h:PO w base (za ra rn rc) S (za la ln lc) L)(hn:S.length=rn)(hl:L.length=ln)(hk:k<base):Off k ra la S:=by
 have hr:=h.r;have h2:=h.l;rw[hn]at hr;rw[hl]at h2;exact⟨yg1 hr hk,yg1 h2 hk,fun s hs=>yg1 (h.s s hs) hk⟩
theorem PO.ad{w:zi}{base:Nat}{rs ls:Value}{S:List RT}{L:List Int}(h:PO w base rs S ls L)(hi:∀s∈S,s.ids≠[]):∀s∈S,∃g,s.a=some ⟨g,0,none⟩:=fun s hs=>by
 rcases own_kinds (h.s s hs)with⟨_,h0⟩|⟨g,c,e1,_,_⟩
 ·exact absurd (jg.1 h0) (hi s hs)
 ·simp only[qA]at e1
  exact⟨g,e1.1⟩
def yg4(w:zi)(T:List RT)(L:List Int)(e:Ending)(w':zi):Prop:=∃ra rn rc gl ln lc S,e=.returned (.agg #[za ra rn rc,za (some ⟨gl,0,none⟩) ln lc])/\Below w.heap.size w w'/\S.length=rn/\L.length=ln/\S.map RT.key=T.map RT.key/\PO w' w.heap.size (za ra rn rc) S (za (some ⟨gl,0,none⟩) ln lc) L
theorem zW5(n fine:Int)(a ao ra:Option Addr)(zl ac ko co bv ov kv cv nr rc bl ol ln lc:Nat)(zs os vs L:List Int)(R:List RT)(w:zi)(hA:za3 w a zs)(hO:za3 w ao os)(hV:za3 w (some ⟨bv,ov,none⟩) vs)(aO:zs.length=zl)(an:os.length=ko*6)(au:vs.length=kv*5)(ay:ko<=12)(aB:kv<=5)(bT:zd0 n zs os vs ko kv fine=true)(hP:zc3 w ra (some ⟨bl,ol,none⟩) nr ln R L)(hn:nr<=12)(gz:ln<=12)(hS:zf7 R)(hi:zw3 R)(mq:∀r∈R,∃g,r.a=some ⟨g,0,none⟩)(cX:∀k,w.heap.size<=k->Off k ra (some ⟨bl,ol,none⟩) R):
 Calls zh 44 #[.agg #[ze zd n,za a zl ac,za ao ko co,za (some ⟨bv,ov,none⟩) kv cv,ze zd fine],.agg #[za ra nr rc,za (some ⟨bl,ol,none⟩) ln lc]] w (yg4 w (grd n fine zs os vs ko kv L.length R L).1 (grd n fine zs os vs ko kv L.length R L).2):=by
 have HA:=za4 hA;have HO:=za4 hO;have HV:=za4 hV;have cm:=za4 aO;have aF:=za4 an;have aD:=za4 au;have cZ:=za4 bT;have HP:=za4 hP;have HS:=za4 hS;have HI:=za4 hi;have CY:=za4 mq;have vy:=za4 cX;clear hA hO hV aO an au bT hP hS hi mq cX;obtain⟨TR,pt⟩:=nmd ((grd n fine zs os vs ko kv L.length R L).1);obtain⟨TL,dR⟩:=nmd ((grd n fine zs os vs ko kv L.length R L).2);rw[pt.X,dR.X];have Q0:Hid (GQ w (((w.alloc (zg #[ze zd n,za a zl ac,za ao ko co,za (some ⟨bv,ov,none⟩) kv cv,ze zd fine] 30)).alloc (zg #[za ra nr rc,za (some ⟨bl,ol,none⟩) ln lc] 33)).alloc (zg #[za none 0 0,za none 0 0] 33)) #[ze zd n,za a zl ac,za ao ko co,za (some ⟨bv,ov,none⟩) kv cv,ze zd fine] #[za ra nr rc,za (some ⟨bl,ol,none⟩) ln lc]):=by
  refine⟨((zP _).alloc (by simp) _).alloc (by simp;omega) _,?_,?_,?_⟩
  ·exact(xg _ _ (by simp;omega)).trans (xm _ _ _)
  ·exact(xg _ _ (by simp)).trans (xh _ _ _)
  ·have:=zS ((w.alloc (zg #[ze zd n,za a zl ac,za ao ko co,za (some ⟨bv,ov,none⟩) kv cv,ze zd fine] 30)).alloc (zg #[za ra nr rc,za (some ⟨bl,ol,none⟩) ln lc] 33)) (zg #[za none 0 0,za none 0 0] 33)
   simpa using this
 have ku:=za4 (HP.X.below Q0.X.b);go_enter Tryz.func44,Tryz.ntmps44
 go_wp2_with fail
 generalize((w.alloc _).alloc _).alloc _=W0 at*;go_loopw[6] (fun _ wr=>∃(aN:Option Addr) (bK be rF rP bq dN:Nat) (R9:List RT) (L9:List Int),GQ w wr #[ze zd n,za a zl ac,za ao ko co,za (some ⟨bv,ov,none⟩) kv cv,ze zd fine] #[za aN bK be,za (some ⟨rF,rP,none⟩) bq dN]/\zc3 wr aN (some ⟨rF,rP,none⟩) bK bq R9 L9/\Off (w.heap.size+1) aN (some ⟨rF,rP,none⟩) R9/\(∀r∈R9,∃g,r.a=some ⟨g,0,none⟩)/\bK+bq<=24/\bq<=12/\zf7 R9/\zw3 R9/\(grd n fine zs os vs ko kv L9.length R9 L9).1.map RT.key=TR.map RT.key/\(grd n fine zs os vs ko kv L9.length R9 L9).2=TL) (fun _ wr=>yy7 wr (w.heap.size+1))
 case atStart=>exact⟨ra,nr,rc,bl,ol,ln,lc,R,L,Q0.X,ku.X,vy.X _ (by omega),CY.X,by omega,gz,HS.X,HI.X,by rw[pt.X],dR.X⟩
 case round=>
  clear Q0 ku HP HS HI vy CY;obtain⟨aN,bK,be,rF,rP,bq,dN,R9,L9,hq,hp,gR,mq,Pq,bF,hs,hi,jo,gm⟩:=hrel;have Q1:=za4 hq;have P1:=za4 hp;have S1:=za4 hs;have I1:=za4 hi;obtain⟨c0,c1,c2,c3,c4⟩:=za7 Q1.X.c;obtain⟨p0,p1⟩:=za1 Q1.X.p;have dW:Hid (yy7 wr (w.heap.size+1)=bq):=by show _=_;unfold yy7;rw[p1]
  have G1:=yv0 n fine a ao aN zl ac ko co bv ov kv cv bK be rF rP bq dN zs os vs L9 R9 wr (HA.X.below Q1.X.b) (HO.X.below Q1.X.b) (HV.X.below Q1.X.b) cm.X aF.X aD.X ay aB cZ.X P1.X.2.2.1 P1.X.1 (by omega) P1.X.2.2.2.1 P1.X.2.1 bF S1.X I1.X mq;have eU:=yj9 n fine zs os vs ko kv (R:=R9) (L:=L9);have eT:=fun h=>zy4 n fine zs os vs ko kv (R:=R9) (L:=L9) h;have bd:=yB5 (n:=n) (fine:=fine) (zs:=zs) (os:=os) (vs:=vs) (ko:=ko) (kv:=kv) (L:=L9) I1.X (by rw[P1.X.1];omega) (by rw[P1.X.2.1];omega);have jW:=zZ3 n fine zs os vs ko kv (L:=L9) S1.X;rw[P1.X.1]at eU;rw[P1.X.2.1]at eT;obtain⟨f,jB⟩:=nmd ((zx5 n fine zs os vs ko kv R9 L9).f);obtain⟨RX,gF⟩:=nmd (zB5 n fine zs os vs ko kv R9 L9);obtain⟨LX,gG⟩:=nmd (zD5 n fine zs os vs ko kv R9 L9);have dD:Hid (f=true->(grd n fine zs os vs ko kv LX.length RX LX).1.map RT.key=TR.map RT.key/\(grd n fine zs os vs ko kv LX.length RX LX).2=TL/\LX.length<bq):=fun h=>by
   rw[yi0 n fine zs os vs ko kv (jB.X.trans h),gF.X,gG.X]at jo gm;exact⟨jo,gm,by rw[<-gG.X];exact eT (jB.X.trans h)⟩
  have pD:Hid (f=false->R9.map RT.key=TR.map RT.key/\L9=TL):=fun h=>by
   rw[yi7 n fine zs os vs ko kv (jB.X.trans h)]at jo gm;exact⟨jo,gm⟩
  rw[jB.X,gF.X,gG.X]at G1;rw[gF.X]at bd jW eU;have m3:=za4 eU;have f':=za4 (bd.1);have eR:=za4 jW;clear hq hp hs hi jo gm eU eT bd jW mq gR jB gF gG
  go_wp2_with fail
  refine G1.mono ?_;rintro e w2 ⟨ag,ew,ai,ck,dP,aj,S2,rfl,hb,bg,dm,cO,da⟩;have bU:=Q1.X.size;have Q2:=za4 (Q1.X.below hb);have P2:=za4 (P1.X.below hb);have O2:=za4 da;have fL:=za4 bg;have fS:=za4 dm;have dZ:=za4 cO;have i8:=za4 bU;clear hb da bg dm cO G1 c0 c1 c2 c3 c4 p0 p1 Q1 P1 bU;have QA:Hid (GQ w (w2.alloc (zg #[za ag ew ai,za (some ⟨ck,0,none⟩) dP aj] 33)) #[ze zd n,za a zl ac,za ao ko co,za (some ⟨bv,ov,none⟩) kv cv,ze zd fine] #[za aN bK be,za (some ⟨rF,rP,none⟩) bq dN]):=Q2.X.below (zP _);have PA:Hid (zc3 (w2.alloc (zg #[za ag ew ai,za (some ⟨ck,0,none⟩) dP aj] 33)) aN (some ⟨rF,rP,none⟩) bK bq R9 L9):=P2.X.below (zP _);have OA:Hid (PO (w2.alloc (zg #[za ag ew ai,za (some ⟨ck,0,none⟩) dP aj] 33)) wr.heap.size (za ag ew ai) S2 (za (some ⟨ck,0,none⟩) dP aj) LX):=O2.X.below (zP _);have NA:=za4 (zS w2 (zg #[za ag ew ai,za (some ⟨ck,0,none⟩) dP aj] 33));obtain⟨p0,p1⟩:=za1 QA.X.p;obtain⟨n0,n1⟩:=za1 NA.X;cases f
  ·obtain⟨hk,hl⟩:=pD.X rfl
   have HK:=za4 hk;have eN:=za4 hl;clear hk hl;have CC:=zq0 aN rF rP be dN R9 L9 (w2.alloc (zg #[za ag ew ai,za (some ⟨ck,0,none⟩) dP aj] 33)) PA.X.2.2.1 PA.X.2.2.2.1 (by rw[PA.X.1];omega) (fun r hr=>⟨(I1.X r hr).1,by have:=(I1.X r hr).2.1;omega⟩) (by rw[PA.X.2.1];omega);rw[PA.X.1,PA.X.2.1]at CC
   go_wp2_with fail
   generalize w2.alloc _=w3 at*;refine CC.mono ?_;rintro e w4 ⟨bk,bI,oB,bQ,S4,rfl,hb,eM,da⟩;rw[PA.X.1,PA.X.2.1]at da;rw[PA.X.1,PA.X.2.1];have Q4:=za4 (QA.X.below hb);have P4:=za4 (da.base (by have:=QA.X.size;omega));have LE:=za4 (eM.trans HK.X);have GK:Hid (S4.length=bK):=by have:=congrArg zo eM;simp only[qz]at this;exact this.trans PA.X.1
   have vk:Hid (L9.length=bq):=PA.X.2.1;clear hb eM da CC p0 p1 n0 n1 NA QA PA OA;obtain⟨a0,a1⟩:=za1 Q4.X.o;have af:=fun i=>yZ _ _ i _ _ Q4.X.o;have s1:=xb w4 (w.heap.size+2) 0 _ _ (za bk bK bI) Q4.X.o;have P5:Hid (PO ((w4.setCell ⟨w.heap.size+2,0,none⟩ (za bk bK bI)).setCell ⟨w.heap.size+2,1,none⟩ (za (some ⟨oB,0,none⟩) bq bQ)) (w.heap.size+3) (za bk bK bI) S4 (za (some ⟨oB,0,none⟩) bq bQ) L9):=(P4.X.box Q4.X.o).box s1;have B5:Hid (Below w.heap.size w ((w4.setCell ⟨w.heap.size+2,0,none⟩ (za bk bK bI)).setCell ⟨w.heap.size+2,1,none⟩ (za (some ⟨oB,0,none⟩) bq bQ))):=(Q4.X.b.setCell (by simp) _).setCell (by simp) _;clear s1;go_wp2;refine xe (v:=.agg #[za bk bK bI,za (some ⟨oB,0,none⟩) bq bQ]) (by simp[results,Tryz.results44,go_sem,a0,a1]) rfl ?_;show yg4 _ _ _ _ _;exact⟨bk,bK,bI,oB,bq,bQ,S4,rfl,B5.X,GK.X,by rw[<-eN.X];exact vk.X,LE.X,by rw[<-eN.X];exact P5.X.base (by omega)⟩
  ·obtain⟨jo,gm,ah⟩:=dD.X rfl
   have pf:=fun i=>yZ _ _ i _ _ QA.X.p;have s1:=xb (w2.alloc (zg #[za ag ew ai,za (some ⟨ck,0,none⟩) dP aj] 33)) (w.heap.size+1) 0 _ _ (za ag ew ai) QA.X.p;have s2:=xb _ (w.heap.size+1) 1 _ _ (za (some ⟨ck,0,none⟩) dP aj) s1;simp at s2;have Q3:Hid (GQ w (((w2.alloc (zg #[za ag ew ai,za (some ⟨ck,0,none⟩) dP aj] 33)).setCell ⟨w.heap.size+1,0,none⟩ (za ag ew ai)).setCell ⟨w.heap.size+1,1,none⟩ (za (some ⟨ck,0,none⟩) dP aj)) #[ze zd n,za a zl ac,za ao ko co,za (some ⟨bv,ov,none⟩) kv cv,ze zd fine] #[za ag ew ai,za (some ⟨ck,0,none⟩) dP aj]):=⟨(QA.X.b.setCell (by simp) _).setCell (by simp) _,za8 (za8 QA.X.c (by omega)) (by omega),s2,za8 (za8 QA.X.o (by omega)) (by omega)⟩;have O3:Hid (PO (((w2.alloc (zg #[za ag ew ai,za (some ⟨ck,0,none⟩) dP aj] 33)).setCell ⟨w.heap.size+1,0,none⟩ (za ag ew ai)).setCell ⟨w.heap.size+1,1,none⟩ (za (some ⟨ck,0,none⟩) dP aj)) wr.heap.size (za ag ew ai) S2 (za (some ⟨ck,0,none⟩) dP aj) LX):=(OA.X.box QA.X.p).box s1;have ns:Hid (yy7 (((w2.alloc (zg #[za ag ew ai,za (some ⟨ck,0,none⟩) dP aj] 33)).setCell ⟨w.heap.size+1,0,none⟩ (za ag ew ai)).setCell ⟨w.heap.size+1,1,none⟩ (za (some ⟨ck,0,none⟩) dP aj)) (w.heap.size+1)=dP):=by show _=_;unfold yy7;rw[(za1 s2).2]
   have gu:ew=RX.length:=by rw[<-fL.X];have:=congrArg zo dZ.X;simpa using this
   have tG:ew+dP<=24/\dP<=12/\dP<bq:=by have:=m3.X;have:=fS.X;omega
   have T1:=za4 jo;have T2:=za4 gm;obtain⟨mW,nY,nB⟩:=tG;clear s1 s2 jo gm ah gu;go_wp2;go_roundw
   case rel=>exact⟨ag,ew,ai,ck,0,dP,aj,S2,LX,Q3.X,O3.X.is fL.X fS.X,O3.X.off fL.X fS.X (by have:=i8.X;omega),O3.X.ad (fun s hs=>(z12 dZ.X f'.X s hs).1),mW,nY,yb0 dZ.X eR.X,fun r hr=>⟨(z12 dZ.X f'.X r hr).1,(z12 dZ.X f'.X r hr).2,(O3.X.ints r hr).2⟩,(z77 n fine zs os vs ko kv LX.length LX dZ.X).1.trans T1.X,(z77 n fine zs os vs ko kv LX.length LX dZ.X).2.trans T2.X⟩
   case measure=>rw[dW.X,ns.X];exact nB
