import Derived.Test.YtkchnomkiboihaaGreatPack34
import Derived.Test.YtkchnomkiboihaaGreatKinTail
set_option linter.unusedSimpArgs false
set_option maxHeartbeats 8000000
set_option maxRecDepth 20000
namespace Go.Proofs.YtkchnomkiboihaaGreat
theorem q7:type_of% @Go.Proofs.Tryz.results71:=@Go.Proofs.Tryz.results71
open Act renaming put→zi
open Value renaming slice→za,int→zc,ownBlock→zm
open IntKind renaming i64→zb
open Obj renaming cells→zd
open Proofs.Tryz renaming prog→ze
open Go renaming World→zg
open List renaming length→zj
open World renaming ownsRow→zk
open Region renaming wanted→zq
open Builtin renaming append_→zt
open Go.RowKit
open Q
def yd8(n fine:Int)(zs os vs:List Int)(ko kv:Nat)(S P:List Int)(last:Int)(ra:Option Addr)(nR rc:Nat)(la:Option Addr)(l lc:Nat)(R:List RT)(L:List Int)(w:zg)(e:Ending)(w':zg):Prop:=
 Below w.heap.size w w'∧
 ((zc3 n zs os vs ko kv fine (lvF S P R L P.length).1 (lvF S P R L P.length).2=0/\∃(ra2:Option Addr) (n2 rc2:Nat) (la2:Option Addr) (l2 lc2:Nat) (R2:List RT) (L2:List Int),e=.returned (.tuple #[.agg #[za ra2 n2 rc2,za la2 l2 lc2],zc zb last,.bool true])/\za9 w' ra2 R2/\R2.length=n2/\za3 w' la2 L2/\L2.length=l2/\R2.map RT.key=(lvF S P R L P.length).1.map RT.key/\L2=(lvF S P R L P.length).2/\LvI S P L.length P.length R2 L2/\((la2=none/\l2=0)∨∃b off,la2=some ⟨b,off,none⟩)/\((ra2=none/\R2.length=0)∨∃b off,ra2=some ⟨b,off,none⟩)/\(∀r∈R2,r.ids.length<=r.c)/\(∀k,k<w.heap.size->zj0 k ra la R L->zj0 k ra2 la2 R2 L2))∨
  (zc3 n zs os vs ko kv fine (lvF S P R L P.length).1 (lvF S P R L P.length).2≠0/\e=.returned (.tuple #[.agg #[za ra nR rc,za la l lc],zc zb last,.bool false])))
theorem zR2:∀(R:List RT),(∀r∈R,r.ids.length<=12)->(R.flatMap RT.ids).length<=12*R.length
 |[],_=>by simp
 |r::R,h=>by
  have h1:=h r (ym ..);have h2:=zR2 R (fun x hx=>h x (yh _ hx));rw[qM,xU,yg];omega
theorem zF7(n fine seed kk:Int)(a ao av ra la:Option Addr)(zl cap ko co kv cv nR rc l lc kb cb:Nat)(zs os vs:List Int)(R:List RT)(L S P:List Int)(N m:Nat)(K last:Int)(w:zg)(hA:za3 w a zs)(hzl:zs.length=zl)(hO:za3 w ao os)(hV:za3 w av vs)(hlo:os.length=ko*6)(hlv:vs.length=kv*5)(hko:ko<=9223372036854775807)(hkv:kv<=9223372036854775807)(hcB:zc8 n zs os vs ko kv fine=true)
 (hR:za9 w ra R) (hn:R.length=nR) (hL:za3 w la L) (hl:L.length=l) (h12:l+N<=12) (hfr:(ra=none/\R.length=0)∨∃b off,ra=some ⟨b,off,none⟩) (hfl:(la=none/\l=0)∨∃b off,la=some ⟨b,off,none⟩) (hc:∀r∈R,r.ids.length<=r.c)
 (hS:zr3 (za8 R R.length)=S) (hN:S.length=N) (hK:min kk (N:Int)=K) (hP:zt0 seed N K=P) (hm:P.length=m) (hla:z88 seed N K=last) (hI:LvI S P L.length 0 R L) (hd:∀i j,i<j->j<P.length->pkd S P i≠pkd S P j) (hp:∀i,i<m->0<=P.getD i 0/\P.getD i 0<N) (hmN:m<=N)
 (hwl:∀x∈(lvF S P R L m).2,(Lit.int zb x).wf=true) (hkb:w.cell? ⟨kb,0,none⟩=some (zc zb kk)) (hcb:w.heap[cb]? =some (zd #[zc zb n,za a zl cap,za ao ko co,za av kv cv,zc zb fine] 30 (0,0))):
 Calls ze 112 #[.agg #[za ra nR rc,za la l lc],zc zb seed,.pointer (some ⟨kb,0,none⟩),.pointer (some ⟨cb,0,none⟩)] w (yd8 n fine zs os vs ko kv S P last ra nR rc la l lc R L w):=by
 have B0:Hid (Below w.heap.size w ((w.alloc (zd #[za ra nR rc,za la l lc] 33)).alloc (zd #[za none 0 0,za none 0 0] 33))):=(zK _).alloc (by simp) _;have P0:Hid (((w.alloc (zd #[za ra nR rc,za la l lc] 33)).alloc (zd #[za none 0 0,za none 0 0] 33)).heap[w.heap.size]? =some (zd #[za ra nR rc,za la l lc] 33 (0,0))):=xb _ _ _;have Q0:Hid (((w.alloc (zd #[za ra nR rc,za la l lc] 33)).alloc (zd #[za none 0 0,za none 0 0] 33)).heap[w.heap.size+1]? =some (zd #[za none 0 0,za none 0 0] 33 (0,0))):=y8 _ _ _;have HA:=za4 hA;have HO:=za4 hO;have HV:=za4 hV;have HR:=za4 hR;have HL:=za4 hL;have HI:=za4 hI;have HD:=za4 hd;have HP:=za4 hp;have HC:=za4 hc;have HFR:=za4 hfr;have HFL:=za4 hfl;have HWL:=za4 hwl;have HM:=za4 hm;have HNN:=za4 hN;have HRN:=za4 hn;have HLN:=za4 hl;have HKB:=za4 hkb;have HCB:=za4 hcb;have SB:Hid (∀W,Below w.heap.size w W->Calls ze 113 #[.agg #[za ra nR rc,za la l lc]] W fun e w'=>∃sl,e=.returned sl/\Below W.heap.size W w'/\w'.ownsRow W.heap.size 2 1 sl N (S.map (zc zb))):=fun W hW=>by
  have hlen:(za8 R R.length).length<=12:=by rw[<-zo3,hS,hN];omega
  have h:=z97 ra la rc l lc R W (HR.X.below hW) (by have:=HI.X.ln;omega) (fun j hj=>HI.X.ne _ (zh2 hj)) HI.X.nd hlen;rw[hS,hN,hn]at h;exact h
 have PK:Hid (∀W,Calls ze 114 #[zc zb seed,zc zb N,zc zb K] W fun e w'=>∃sl,e=.returned (.tuple #[sl,zc zb last])/\Below W.heap.size W w'/\w'.ownsRow W.heap.size 2 1 sl m (P.map (zc zb))):=fun W=>by
  have h:=zI9 seed N K W;rw[hla,hP,hm]at h;refine h.mono ?_;rintro e w' ⟨sl,he,hb,_,ho⟩;exact⟨sl,he,hb,ho⟩
 have PCD:Hid (∀W (ra2 la2:Option Addr) (n2 rc2 l2 lc2:Nat) (R2:List RT) (L2:List Int),Below w.heap.size w W->za9 W ra2 R2->R2.length=n2->za3 W la2 L2->L2.length=l2->LvI S P L.length m R2 L2->R2.map RT.key=(lvF S P R L m).1.map RT.key->L2=(lvF S P R L m).2->(∀r∈R2,r.ids.length<=r.c)->Calls ze 47 #[.agg #[zc zb n,za a zl cap,za ao ko co,za av kv cv,zc zb fine],.agg #[za ra2 n2 rc2,za la2 l2 lc2]] W fun e w'=>e=.returned (zc zb (zc3 n zs os vs ko kv fine (lvF S P R L m).1 (lvF S P R L m).2))/\Below W.heap.size W w'):=fun W ra2 la2 n2 rc2 l2 lc2 R2 L2 hW h1 h2 h3 h4 h5 h6 h7 h8=>by
  have hal:(za8 R2 R2.length).length<=1048576:=by
   rw[zb6];have:=zR2 R2 h5.sm;have:=h5.ln;omega
  have h:=zA4 n fine a ao av ra2 la2 cap ko co kv cv rc2 lc2 zs os vs L2 R2 W (HA.X.below hW) (HO.X.below hW) (HV.X.below hW) h1 h3 hlo hlv hko hkv (by have:=h5.ln;omega) (fun r hr=>by have:=h5.sm r hr;omega) h8 (by rw[h5.ll];omega) hal (by rw[h7];exact HWL.X) hcB;rw[hzl,h2,h4,zd2 L2 h6]at h;rw[<-h7];exact h
 clear hA hO hV hlo hlv hko hkv hcB hR hn hL hl hfr hfl hc hS hN hP hm hla hI hd hp hwl hkb hcb hzl;generalize hF:lvF S P R L m=F at PCD HWL;have HF:=za4 hF;clear hF HWL;obtain⟨pv,HPV⟩:=nmd (zc3 n zs os vs ko kv fine F.1 F.2);rw[HPV.X]at PCD;obtain⟨p1,p2⟩:=za1 P0.X;go_enter Tryz.func112,Tryz.ntmps112
 go_wp2_with fail
 clear p1 p2;generalize(w.alloc (zd #[za ra nR rc,za la l lc] 33)).alloc (zd #[za none 0 0,za none 0 0] 33)=W0 at*;obtain⟨q,HQ⟩:=nmd w.heap.size;obtain⟨q1,HQ1⟩:=nmd (w.heap.size+1);rw[HQ1.X]at Q0⊢;rw[HQ.X]at P0
 try rw[HQ.X]
 refine(SB.X W0 B0.X).mono ?_;rintro e w1 ⟨sl,rfl,hb,ho⟩;obtain⟨sa,sc,hsl⟩:=zh9 ho;subst hsl;have B1:Hid (Below w.heap.size w w1):=B0.X.trans (hb.mono B0.X.size);have P1:=za4 (za0 hb (za2 P0.X) P0.X);have Q1:=za4 (za0 hb (za2 Q0.X) Q0.X);have S1:Hid (za3 w1 sa S):=zg7 ho;clear hb ho B0 P0 Q0 SB;have kc:=zn7 HKB.X B1.X
 go_wp2_with fail
 clear kc;refine(PK.X w1).mono ?_;rintro e w2 ⟨sl2,rfl,hb,ho⟩;obtain⟨pa,pc,hsl⟩:=zh9 ho;subst hsl;have B2:Hid (Below w.heap.size w w2):=B1.X.trans (hb.mono B1.X.size);have P2:=za4 (za0 hb (za2 P1.X) P1.X);have Q2:=za4 (za0 hb (za2 Q1.X) Q1.X);have S2:=za4 (S1.X.below hb);have O2:Hid (za3 w2 pa P):=zg7 ho;clear hb ho B1 P1 Q1 S1 PK;have D3:Hid (DL w2 (w2.alloc (zd #[za ra nR rc,za la l lc] 33)) S P R L ra la 0 ra nR rc la l lc R L):=by
  have h2:Below w2.heap.size w2 (w2.alloc (zd #[za ra nR rc,za la l lc] 33)):=zK _;have hw:=B2.X.trans (h2.mono B2.X.size);exact⟨h2,zN _ _,HR.X.below hw,HRN.X,HL.X.below hw,HLN.X,HI.X,rfl,rfl,HFR.X,HFL.X,HC.X,fun _ _ h=>h⟩
 obtain⟨p1,p2⟩:=za1 P2.X
 go_wp2_with fail
 clear p1 p2;generalize w2.alloc (zd #[za ra nR rc,za la l lc] 33)=W3 at*;go_loopw[32] (fun t wr=>∃(i:Nat) (ra2:Option Addr) (n2 rc2:Nat) (la2:Option Addr) (l2 lc2:Nat) (R2:List RT) (L2:List Int),i<=m/\t=zc zb i/\DL w2 wr S P R L ra la i ra2 n2 rc2 la2 l2 lc2 R2 L2) (fun t _=>m - (intOf t).toNat)
 case atStart=>exact⟨0,ra,nR,rc,la,l,lc,R,L,yZ _,rfl,D3.X⟩
 case round=>
  clear D3;obtain⟨i,ra2,n2,rc2,la2,l2,lc2,R2,L2,hi,rfl,hD⟩:=hrel;have DR:=za4 hD;clear hD;by_cases hlt:i<m
  ·have hltI:(i:Int)<(m:Int):=by omega
   obtain⟨pk,hpk⟩:=xm (HP.X i hlt).1;have HPK:=za4 hpk;have hpN:pk<N:=by have:=(HP.X i hlt).2;omega
   clear hpk;obtain⟨bp,op,hpa,hc1⟩:=(O2.X.below DR.X.b) i (by rw[HM.X];exact hlt);obtain⟨bs,os2,hsa,hc2⟩:=(S2.X.below DR.X.b) pk (by rw[HNN.X];exact hpN);subst hpa;subst hsa;rw[HPK.X]at hc1;have HX:Hid (S.getD pk 0=pkd S P i):=by show _=_;unfold pkd;rw[HPK.X];rfl
   rw[HX.X]at hc2;obtain⟨k,at_,hk,hno,hat,hin,hid⟩:=DR.X.iv.at (DR.X.iv.mm i (zQ _) (by rw[HM.X];exact hlt));have LV:Hid (∀W,Below wr.heap.size wr W->Calls ze 115 #[.agg #[za ra2 n2 rc2,za la2 l2 lc2],zc zb (pkd S P i)] W (zG7 W R2 L2 (pkd S P i) (R2.getD k rt0) at_)):=fun W hW=>by
    have D:=DR.X.below hW;have hll:=D.iv.ll;rw[HLN.X]at hll;have hl2:=D.ln;exact yb4 ra2 la2 n2 rc2 l2 lc2 k R2 L2 (pkd S P i) W D.r D.rn (by have:=D.iv.ln;have:=D.rn;omega) D.iv.rs D.fr D.s D.ln (by omega) (yh7 D.iv.up) D.fl (fun j hj=>D.iv.sm _ (zh2 hj)) hk hno at_ hat hin
   have STP:Hid (∀W e w1,Below wr.heap.size wr W->zG7 W R2 L2 (pkd S P i) (R2.getD k rt0) at_ e w1->∃(ra3:Option Addr) (n3 rc3:Nat) (la3:Option Addr) (l3 lc3:Nat) (R3:List RT) (L3:List Int),e=.returned (.agg #[za ra3 n3 rc3,za la3 l3 lc3])/\Below W.heap.size W w1/\DL w2 ((w1.setCell ⟨w2.heap.size,0,none⟩ (za ra3 n3 rc3)).setCell ⟨w2.heap.size,1,none⟩ (za la3 l3 lc3)) S P R L ra la (i+1) ra3 n3 rc3 la3 l3 lc3 R3 L3):=fun W e w1 hW ht=>(DR.X.below hW).step HD.X (by rw[HM.X];exact hlt) hk hin hid ht
   clear hk hno hat hin hid;obtain⟨x,HX2⟩:=nmd (pkd S P i);rw[HX2.X]at hc2 LV STP;obtain⟨y0,y1⟩:=za1 DR.X.x;have z0:=fun s:Kin wr=>s.cell y0;have z1:=fun s:Kin wr=>s.cell y1;have z2:=fun s:Kin wr=>s.cell hc2;have hkin:=Kin.there wr
   go_wp2_with fail
   refine z54 5 (by kernel_rfl) (by kernel_rfl) ?_;simp only[yM,xR,List.drop_succ_cons,List.drop_zero]
   repeat(go_big_quiet_step (fail))
   refine xj ?_;rintro _ ⟨s,rfl⟩;clear z0 z1 z2 hkin y0 y1 hc1 hc2;have BS:Hid (Below wr.heap.size wr s.w):=s.below;generalize s.w=w5 at*
   go_wp2_with fail
   refine(LV.X w5 BS.X).mono ?_;intro e w6 ht;obtain⟨ra3,n3,rc3,la3,l3,lc3,R3,L3,rfl,hb6,hD6⟩:=STP.X w5 e w6 BS.X ht;have D6:=za4 hD6;have X6:Hid (w6.heap[w2.heap.size]? =some (zd #[za ra2 n2 rc2,za la2 l2 lc2] 33 (0,0))):=by
    have h5:=za0 BS.X (za2 DR.X.x) DR.X.x;exact za0 hb6 (za2 h5) h5
   clear ht hb6 hD6 LV STP BS DR;obtain⟨y0,y1⟩:=za1 X6.X;have yf:=fun i=>yU _ _ i _ _ X6.X;go_wp2
   first
    |exact⟨⟨i+1,ra3,n3,rc3,la3,l3,lc3,R3,L3,by omega,by go_num,D6.X⟩,by simp[intOf];omega⟩
    |(go_roundw
      case rel=>exact⟨i+1,ra3,n3,rc3,la3,l3,lc3,R3,L3,by omega,by go_num,D6.X⟩
      case measure=>simp[intOf];omega)
  ·have hie:i=m:=by omega
   subst hie;have hnl:¬((i:Int)<(i:Int)):=by omega
   clear hlt;have B5:Hid (Below w.heap.size w wr):=B2.X.trans (DR.X.b.mono B2.X.size);obtain⟨c0,c1,c2,c3,c4⟩:=za7 (za0 B5.X (za2 HCB.X) HCB.X);obtain⟨y0,y1⟩:=za1 DR.X.x;have PC:=PCD.X wr ra2 la2 n2 rc2 l2 lc2 R2 L2 B5.X DR.X.r DR.X.rn DR.X.s DR.X.ln DR.X.iv (by rw[<-HF.X];exact DR.X.kr) (by rw[<-HF.X];exact DR.X.kl) DR.X.c
   go_wp2_with fail
   clear c0 c1 c2 c3 c4 y0 y1;refine PC.mono ?_;rintro e w7 ⟨rfl,hb7⟩;have D7:=za4 (DR.X.below hb7);have B7:Hid (Below w.heap.size w w7):=B2.X.trans (D7.X.b.mono B2.X.size);have P7:=za4 (za0 D7.X.b (za2 P2.X) P2.X);have Q7:=za4 (za0 D7.X.b (za2 Q2.X) Q2.X);have hqw:w.heap.size<=q1:=by have:=HQ1.X;omega
   clear hb7 PC PCD DR B5 P2 Q2 S2 O2;obtain⟨v0,v1⟩:=za1 Q7.X;have vf:=fun i=>yU _ _ i _ _ Q7.X;by_cases hz:pv=0
   ·have hz1:(pv !=0)=false:=by rw[hz];rfl
    have ROW:((w7.setCell ⟨q1,0,none⟩ (za ra2 n2 rc2)).setCell ⟨q1,1,none⟩ (za la2 l2 lc2)).heap[q1]? =some (zd #[za ra2 n2 rc2,za la2 l2 lc2] 33 (0,0)):=by
     have:=zP _ q1 1 _ _ (za la2 l2 lc2) (zP w7 q1 0 _ _ (za ra2 n2 rc2) Q7.X);simpa using this
    have TOLD:Hid (yd8 n fine zs os vs ko kv S P last ra nR rc la l lc R L w (.returned (.tuple #[.agg #[za ra2 n2 rc2,za la2 l2 lc2],zc zb last,.bool true])) ((w7.setCell ⟨q1,0,none⟩ (za ra2 n2 rc2)).setCell ⟨q1,1,none⟩ (za la2 l2 lc2))):=by
     have hx1:(w7.setCell ⟨q1,0,none⟩ (za ra2 n2 rc2)).heap[q1]? =some (zd #[za ra2 n2 rc2,za none 0 0] 33 (0,0)):=by
      have:=zP w7 q1 0 _ _ (za ra2 n2 rc2) Q7.X;simpa using this
     refine⟨(B7.X.setCell hqw _).setCell hqw _,.inl ⟨by rw[HM.X,HF.X];exact HPV.X.trans hz,ra2,n2,rc2,la2,l2,lc2,R2,L2,rfl,ze7 (ze7 D7.X.r Q7.X 0 _) hx1 1 _,D7.X.rn,zj6 (zj6 D7.X.s Q7.X 0 _) hx1 1 _,D7.X.ln,by rw[HM.X];exact D7.X.kr,by rw[HM.X];exact D7.X.kl,by rw[HM.X];exact D7.X.iv,D7.X.fl,D7.X.fr,D7.X.c,fun k hk=>D7.X.o k (by have:=B2.X.size;omega)⟩⟩
    obtain⟨r0,r1⟩:=za1 ROW;obtain⟨y0,y1⟩:=za1 D7.X.x;clear D7 B7 P7 Q7 ROW;go_wp2;exact yX (v:=.tuple #[.agg #[za ra2 n2 rc2,za la2 l2 lc2],zc zb last,.bool true]) (by simp[results,Tryz.results112,go_sem,r0,r1]) rfl TOLD.X
   ·have hz1:(pv !=0)=true:=by simp[hz]
    have ROW:((w7.setCell ⟨q1,0,none⟩ (za ra nR rc)).setCell ⟨q1,1,none⟩ (za la l lc)).heap[q1]? =some (zd #[za ra nR rc,za la l lc] 33 (0,0)):=by
     have:=zP _ q1 1 _ _ (za la l lc) (zP w7 q1 0 _ _ (za ra nR rc) Q7.X);simpa using this
    have TOLD:Hid (yd8 n fine zs os vs ko kv S P last ra nR rc la l lc R L w (.returned (.tuple #[.agg #[za ra nR rc,za la l lc],zc zb last,.bool false])) ((w7.setCell ⟨q1,0,none⟩ (za ra nR rc)).setCell ⟨q1,1,none⟩ (za la l lc))):=
     ⟨(B7.X.setCell hqw _).setCell hqw _,.inr ⟨by rw[HM.X,HF.X,HPV.X];exact hz,rfl⟩⟩
    obtain⟨r0,r1⟩:=za1 ROW;obtain⟨y0,y1⟩:=za1 P7.X;clear D7 B7 P7 Q7 ROW;go_wp2;exact yX (v:=.tuple #[.agg #[za ra nR rc,za la l lc],zc zb last,.bool false]) (by simp[results,Tryz.results112,go_sem,r0,r1]) rfl TOLD.X
def z17(w:zg)(v:Int)(f:Bool)(T:List RT)(L:List Int)(e:Ending)(w':zg):Prop:=∃ra rn rc la ln lc S,e=.returned (.tuple #[.agg #[za ra rn rc,za la ln lc],zc zb v,.bool f])/\Below w.heap.size w w'/\S.length=rn/\L.length=ln/\S.map RT.key=T.map RT.key/\PO w' w.heap.size (za ra rn rc) S (za la ln lc) L/\(f=true->∃g,la=some ⟨g,0,none⟩)
theorem y67{sd kk n fine:Int}{zs os vs:List Int}{ko kv:Nat}{R:List RT}{L:List Int}(h:deB sd kk n fine zs os vs ko kv R L=true):deN sd kk n fine zs os vs ko kv R L=z88 sd (deS R).length (min kk ((deS R).length:Int))/\(deW sd kk n fine zs os vs ko kv R L=0->deF sd kk n fine zs os vs ko kv R L=true/\deR sd kk n fine zs os vs ko kv R L=(deQ sd kk R L).1/\deL sd kk n fine zs os vs ko kv R L=(deQ sd kk R L).2)/\(deW sd kk n fine zs os vs ko kv R L≠0->deF sd kk n fine zs os vs ko kv R L=false/\deR sd kk n fine zs os vs ko kv R L=R/\deL sd kk n fine zs os vs ko kv R L=L):=by
 unfold deN deF deR deL;rw[h];refine⟨rfl,fun hw=> ?_,fun hw=> ?_⟩
 ·simp[hw]
 ·simp[hw]
theorem zB4(sd kk n fine:Int)(a ao av ra la:Option Addr)(zl cap ko co kv cv nr rc ln lc:Nat)(zs os vs L:List Int)(R:List RT)(w:zg)(hA:za3 w a zs)(hO:za3 w ao os)(hV:za3 w av vs)(hlz:zs.length=zl)(hlo:os.length=ko*6)(hlv:vs.length=kv*5)(hko:ko<=9223372036854775807)(hkv:kv<=9223372036854775807)(hP:zb8 w ra (la) nr ln R L)(hn:nr<=1048576)(hi:∀r∈R,r.ids.length<=1048576)(hll:ln<=1048576)(hal:(za8 R R.length).length<=1048576):
 Calls ze 42 #[.agg #[zc zb n,za a zl cap,za ao ko co,za av kv cv,zc zb fine],.agg #[za ra nr rc,za (la) ln lc],zc zb sd,zc zb kk] w (z17 w (deN sd kk n fine zs os vs ko kv R L) (deF sd kk n fine zs os vs ko kv R L) (deR sd kk n fine zs os vs ko kv R L) (deL sd kk n fine zs os vs ko kv R L)):=by
 have HA:=za4 hA;have HO:=za4 hO;have HV:=za4 hV;have HLZ:=za4 hlz;have HLO:=za4 hlo;have HLV:=za4 hlv;have HP:=za4 hP;have HN:Hid (R.length=nr):=hP.1;have HM:Hid (L.length=ln):=hP.2.1;have HI:=za4 hi;clear hA hO hV hlz hlo hlv hP hi;obtain⟨pv,HPV⟩:=nmd (zc3 n zs os vs ko kv fine R L);obtain⟨k1,HK1⟩:=nmd (inB kk 0 12);obtain⟨s1,HS1⟩:=nmd (inB sd 0 2147483647);have HDB:Hid (deB sd kk n fine zs os vs ko kv R L=(decide (pv=0)&&(k1&&s1))):=by show _=_;unfold deB;rw[HPV.X,HK1.X,HS1.X]
 have HNO:Hid (deB sd kk n fine zs os vs ko kv R L=false->deN sd kk n fine zs os vs ko kv R L= -1/\deF sd kk n fine zs os vs ko kv R L=false/\deR sd kk n fine zs os vs ko kv R L=[]/\deL sd kk n fine zs os vs ko kv R L=[]):=fun h=>by
  unfold deN deF deR deL;rw[h];exact⟨rfl,rfl,rfl,rfl⟩
 have HYE:Hid (deB sd kk n fine zs os vs ko kv R L=true->_):=fun h=>y67 h;obtain⟨GN,HGN⟩:=nmd (deN sd kk n fine zs os vs ko kv R L);obtain⟨GF,HGF⟩:=nmd (deF sd kk n fine zs os vs ko kv R L);obtain⟨GR,HGR⟩:=nmd (deR sd kk n fine zs os vs ko kv R L);obtain⟨GL,HGL⟩:=nmd (deL sd kk n fine zs os vs ko kv R L);rw[HGN.X,HGF.X,HGR.X,HGL.X]at HNO HYE;rw[HGN.X,HGF.X,HGR.X,HGL.X];clear HGN HGF HGR HGL;have Q0:Hid (GQ w (((w.alloc (zd #[zc zb n,za a zl cap,za ao ko co,za av kv cv,zc zb fine] 30)).alloc (zd #[za ra nr rc,za (la) ln lc] 33)).alloc (zd #[za none 0 0,za none 0 0] 33)) #[zc zb n,za a zl cap,za ao ko co,za av kv cv,zc zb fine] #[za ra nr rc,za (la) ln lc]):=by
  refine⟨((zK _).alloc (by simp) _).alloc (by simp;omega) _,?_,?_,?_⟩
  ·exact(yY _ _ (by simp;omega)).trans (xb _ _ _)
  ·exact(yY _ _ (by simp)).trans (y8 _ _ _)
  ·have:=zN ((w.alloc (zd #[zc zb n,za a zl cap,za ao ko co,za av kv cv,zc zb fine] 30)).alloc (zd #[za ra nr rc,za (la) ln lc] 33)) (zd #[za none 0 0,za none 0 0] 33)
   simpa using this
 have PCA:Hid (∀W,Below w.heap.size w W->Calls ze 38 #[.agg #[zc zb n,za a zl cap,za ao ko co,za av kv cv,zc zb fine],.agg #[za ra nr rc,za (la) ln lc]] W fun e w'=>e=.returned (zc zb pv)/\Below W.heap.size W w'):=fun W hW=>by
  have PC:=zj3 n fine a ao av ra (la) cap ko co kv cv rc lc zs os vs L R W (HA.X.below hW) (HO.X.below hW) (HV.X.below hW) (HP.X.2.2.1.below hW) (HP.X.2.2.2.1.below hW) HLO.X HLV.X hko hkv (by rw[HN.X];exact hn) HI.X HP.X.2.2.2.2.2.2 (by rw[HM.X];exact hll) hal;rw[HN.X,HM.X,HLZ.X,HPV.X]at PC;exact PC
 obtain⟨c0,c1,c2,c3,c4⟩:=za7 Q0.X.c;obtain⟨p0,p1⟩:=za1 Q0.X.p;go_enter Tryz.func42,Tryz.ntmps42
 go_wp2_with fail
 generalize((w.alloc (zd #[zc zb n,za a zl cap,za ao ko co,za av kv cv,zc zb fine] 30)).alloc (zd #[za ra nr rc,za (la) ln lc] 33)).alloc (zd #[za none 0 0,za none 0 0] 33)=W0 at*;refine(PCA.X W0 Q0.X.b).mono ?_;rintro e w1 ⟨rfl,hb⟩;have Q1:=za4 (Q0.X.below hb);clear hb c0 c1 c2 c3 c4 p0 p1 Q0;obtain⟨a0,a1⟩:=za1 Q1.X.o;have af:=fun i=>yU _ _ i _ _ Q1.X.o;by_cases hpv:pv=0
 ·rw[zS hpv,qW]at HDB
  have hpn:(pv !=0)=false:=by simp[hpv]
  cases k1
  ·have B5:Hid (Below w.heap.size w ((w1.setCell ⟨w.heap.size+2,0,none⟩ (za none 0 0)).setCell ⟨w.heap.size+2,1,none⟩ (za none 0 0))):=(Q1.X.b.setCell (by simp) _).setCell (by simp) _
   obtain⟨g1,g2,g3,g4⟩:=HNO.X (by rw[HDB.X];try rfl);subst g1 g2 g3 g4;clear HNO
   go_wp2_with((go_at_call 39;refine(zc0 _ _ _ _).mono ?_;rintro e w' ⟨rfl,hw'⟩;subst w';first|rw[HK1.X]|rw[HS1.X]))
   refine yX (v:=.tuple #[.agg #[za none 0 0,za none 0 0],zc zb (-1),.bool false]) (by simp[results,Tryz.results42,go_sem,a0,a1]) rfl ?_;show z17 _ _ _ _ _ _ _;exact⟨none,0,0,none,0,0,[],rfl,B5.X,rfl,rfl,rfl,⟨qP _ _ _ _,(fun s hs=>by cases hs),qP _ _ _ _⟩,fun h=>by cases h⟩
  ·cases s1
   ·have B5:Hid (Below w.heap.size w ((w1.setCell ⟨w.heap.size+2,0,none⟩ (za none 0 0)).setCell ⟨w.heap.size+2,1,none⟩ (za none 0 0))):=(Q1.X.b.setCell (by simp) _).setCell (by simp) _
    obtain⟨g1,g2,g3,g4⟩:=HNO.X (by rw[HDB.X];try rfl);subst g1 g2 g3 g4;clear HNO
    go_wp2_with((go_at_call 39;refine(zc0 _ _ _ _).mono ?_;rintro e w' ⟨rfl,hw'⟩;subst w';first|rw[HK1.X]|rw[HS1.X]))
    refine yX (v:=.tuple #[.agg #[za none 0 0,za none 0 0],zc zb (-1),.bool false]) (by simp[results,Tryz.results42,go_sem,a0,a1]) rfl ?_;show z17 _ _ _ _ _ _ _;exact⟨none,0,0,none,0,0,[],rfl,B5.X,rfl,rfl,rfl,⟨qP _ _ _ _,(fun s hs=>by cases hs),qP _ _ _ _⟩,fun h=>by cases h⟩
   ·have D0:=zQ8 (sd:=sd) (kk:=kk) (HPV.X.trans hpv) HK1.X HS1.X
    have SV0:∀W,Below w.heap.size w W->_:=fun W hW=>zs5 n fine a ao av ra (la) cap ko co kv cv rc lc zs os vs L R W (HP.X.2.2.1.below hW) (by rw[HN.X];exact hn) HP.X.2.2.2.2.2.2 pv HPV.X (fun X hX=>by rw[HLZ.X,HN.X,HM.X];exact PCA.X X (hW.trans (hX.mono hW.size)))
    have hsv:zi9 n zs os vs ko kv fine R L=deS R:=by unfold zi9;rw[zV (HPV.X.trans hpv)];rfl
    have HYS:=HYE.X HDB.X;have PLW:∀W (ra2 la2:Option Addr) (n2 rc2 l2 lc2:Nat) (R2:List RT) (L2:List Int),Below w.heap.size w W->za9 W ra2 R2->R2.length=n2->za3 W la2 L2->L2.length=l2->(∀r∈R2,r.ids.length<=12/\r.ids.length<=r.c)->n2<=100->l2<=100->(za8 R2 R2.length).length<=1048576->R2.map RT.key=(deQ sd kk R L).1.map RT.key->L2=(deQ sd kk R L).2->Calls ze 38 #[.agg #[zc zb n,za a zl cap,za ao ko co,za av kv cv,zc zb fine],.agg #[za ra2 n2 rc2,za la2 l2 lc2]] W fun e w'=>e=.returned (zc zb (deW sd kk n fine zs os vs ko kv R L))/\Below W.heap.size W w':=fun W ra2 la2 n2 rc2 l2 lc2 R2 L2 hW h1 h2 h3 h4 h5 h6 h7 h8 h9 h10=>by
     have PC:=zj3 n fine a ao av ra2 la2 cap ko co kv cv rc2 lc2 zs os vs L2 R2 W (HA.X.below hW) (HO.X.below hW) (HV.X.below hW) h1 h3 HLO.X HLV.X hko hkv (by omega) (fun r hr=>by have:=(h5 r hr).1;omega) (fun r hr=>(h5 r hr).2) (by omega) h8;rw[h2,h4,HLZ.X,zd2 L2 h9,h10]at PC;exact PC
    clear HNO HYE HDB PCA a0 a1 af;have hQ:deQ sd kk R L=lvF (deS R) (deP sd kk R) R L (deP sd kk R).length:=rfl;have hPK:deP sd kk R=zt0 sd (deS R).length (min kk ((deS R).length:Int)):=rfl;obtain⟨i1,i2,i3,i4,i5,i6,-⟩:=D0;rw[hsv]at SV0;generalize deW sd kk n fine zs os vs ko kv R L=pw at*;generalize deQ sd kk R L=Q at*;generalize deP sd kk R=P at*;generalize deS R=S at*;have SV:Hid (∀W,Below w.heap.size w W->Calls ze 90 #[.agg #[zc zb n,za a zl cap,za ao ko co,za av kv cv,zc zb fine],.agg #[za ra nr rc,za (la) ln lc]] W fun e w'=>∃sl,e=.returned sl/\Below W.heap.size W w'/\w'.ownsRow W.heap.size 2 1 sl S.length (S.map (zc zb))):=fun W hW=>by
     have:=SV0 W hW;rw[HLZ.X,HN.X,HM.X]at this;exact this
    have PK:Hid (∀W,Calls ze 91 #[zc zb sd,zc zb S.length,zc zb (min kk (S.length:Int))] W fun e w'=>∃sl,e=.returned (.tuple #[sl,zc zb GN])/\Below W.heap.size W w'/\w'.ownsRow W.heap.size 2 1 sl P.length (P.map (zc zb))):=fun W=>by
     have h:=zK0 sd S.length (min kk (S.length:Int)) W;rw[<-hPK,<-HYS.1]at h;exact h
    have HY0:Hid (pw=0->GF=true/\GR=Q.1/\GL=Q.2):=HYS.2.1;have HY1:Hid (pw≠0->GF=false/\GR=R/\GL=L):=HYS.2.2;have CPY:Hid (∀W,Below w.heap.size w W->Calls ze 40 #[.agg #[za ra nr rc,za (la) ln lc]] W (yz6 W R L)):=fun W hW=>by
     have:=zz4 ra la rc lc R L W (HP.X.2.2.1.below hW) (HP.X.2.2.2.1.below hW) (by rw[HM.X];exact HP.X.2.2.2.2.2.1) (by omega) (fun r hr=>⟨i1.ne r hr,by have:=i1.sm r hr;omega⟩) (by omega);rw[HN.X,HM.X]at this;exact this
    have PLC:Hid _:=PLW;have IV:=za4 i1;have ID:=za4 i2;have HQ:=za4 hQ;have HPP:=za4 i3;clear SV0 PLW hsv HYS hQ hPK i1 i2 i3;obtain⟨N,HSN⟩:=nmd S.length;obtain⟨m,HPM⟩:=nmd P.length;rw[HSN.X]at SV PK HPP i4 i5;rw[HPM.X]at PK ID HQ HPP i4;rw[HM.X]at i5;rw[HN.X]at i6;have hKK:min kk (N:Int)=min kk (N:Int):=rfl;obtain⟨K,HKE⟩:∃v,min kk (N:Int)=v:=⟨_,rfl⟩;clear hKK;rw[HKE]at PK;obtain⟨c0,c1,c2,c3,c4⟩:=za7 Q1.X.c;obtain⟨p0,p1⟩:=za1 Q1.X.p
    go_wp2_with(go_at_call 39;refine(zc0 _ _ _ _).mono ?_;rintro e w' ⟨rfl,hw'⟩;subst w';first|rw[HK1.X]|rw[HS1.X])
    refine(SV.X w1 Q1.X.b).mono ?_;rintro e w2 ⟨sl,rfl,hb,ho⟩;obtain⟨sa,sc,hsl⟩:=zh9 ho;subst hsl;have Q2:=za4 (Q1.X.below hb);have S2:Hid (za3 w2 sa S):=zg7 ho;clear hb ho Q1 SV c0 c1 c2 c3 c4 p0 p1
    go_wp2_with fail
    refine(PK.X w2).mono ?_;rintro e w3 ⟨sl,rfl,hb,ho⟩;obtain⟨pa,pc,hsl⟩:=zh9 ho;subst hsl;have Q3:=za4 (Q2.X.below hb);have S3:=za4 (S2.X.below hb);have O3:Hid (za3 w3 pa P):=zg7 ho;clear hb ho Q2 S2 PK;obtain⟨p0,p1⟩:=za1 Q3.X.p
    go_wp2_with fail
    refine(CPY.X w3 Q3.X.b).mono ?_;rintro e w4 ⟨ra4,rc4,gl4,lc4,R4,rfl,hb,hk4,ho⟩;rw[HN.X,HM.X]at ho⊢;have Q4:=za4 (Q3.X.below hb);have S4:=za4 (S3.X.below hb);have O4:=za4 (O3.X.below hb);have D4:Hid (DS w4 (w4.alloc (zd #[za ra4 nr rc4,za (some ⟨gl4,0,none⟩) ln lc4] 33)) (w.heap.size+3) S P R L 0 ra4 nr rc4 gl4 ln lc4 R4 L):=by
     have h2:Below w4.heap.size w4 (w4.alloc (zd #[za ra4 nr rc4,za (some ⟨gl4,0,none⟩) ln lc4] 33)):=zK _;refine⟨h2,zN _ _,(ho.base (by have:=Q3.X.size;omega)).below h2,by rw[<-HN.X];have:=congrArg zj hk4;simpa using this,HM.X,IV.X.key hk4,hk4,rfl⟩
    clear hb ho hk4 Q3 S3 O3 p0 p1
    go_wp2_with fail
    have HB0:Hid (w.heap.size+3<=w4.heap.size):=Q4.X.size;generalize w4.alloc (zd #[za ra4 nr rc4,za (some ⟨gl4,0,none⟩) ln lc4] 33)=W5 at*;obtain⟨kb,HKB⟩:=nmd w4.heap.size;rw[HKB.X];go_loopw[15] (fun t wr=>∃(i:Nat) (ra2:Option Addr) (n2 rc2 gl2 l2 lc2:Nat) (R2:List RT) (L2:List Int),i<=m/\t=zc zb i/\DS w4 wr (w.heap.size+3) S P R L i ra2 n2 rc2 gl2 l2 lc2 R2 L2) (fun t _=>m - (intOf t).toNat)
    case atStart=>exact⟨0,ra4,nr,rc4,gl4,ln,lc4,R4,L,yZ _,rfl,D4.X⟩
    case round=>
     clear D4;obtain⟨i,ra2,n2,rc2,gl2,l2,lc2,R2,L2,hi,rfl,hD⟩:=hrel;obtain⟨wo,hwo⟩:∃v,v=wr:=⟨_,rfl⟩;subst hwo;have DR:=za4 hD;clear hD;by_cases hlt:i<m
     ·have hltI:(i:Int)<(m:Int):=by omega
      obtain⟨pk,hpk⟩:=xm (HPP.X i hlt).1;have HPK:=za4 hpk;have hpN:pk<N:=by have:=(HPP.X i hlt).2;omega
      clear hpk;obtain⟨bp,op,hpa,hc1⟩:=(O4.X.below DR.X.b) i (by rw[HPM.X];exact hlt);obtain⟨bs,os2,hsa,hc2⟩:=(S4.X.below DR.X.b) pk (by rw[HSN.X];exact hpN);subst hpa;subst hsa;rw[HPK.X]at hc1;have HX:Hid (S.getD pk 0=pkd S P i):=by show _=_;unfold pkd;rw[HPK.X];rfl
      rw[HX.X]at hc2;obtain⟨k,hk,hin,hno⟩:=zD9 (DR.X.iv.mm i (zQ _) (by rw[HPM.X];exact hlt));obtain⟨x,HX2⟩:=nmd (pkd S P i);rw[HX2.X]at hc2 hin hno;have HIN:=za4 hin;have HNO:=za4 hno;have HRN:Hid (R2.length=n2):=DR.X.rn;have hkn:k<n2:=by rw[<-HRN.X];exact hk
      have h100:n2<=100:=by have:=DR.X.iv.ln;have:=HRN.X;omega
      have hl2:l2<=50:=by have h1:=DR.X.ln;have h2:=DR.X.iv.ll;have h3:=HM.X;omega
      clear hin hno hk
      go_wp2_with fail
      clear hc1 hc2;go_loopw[17] (fun t wx=>∃j:Nat,j<=k/\t=zc zb j/\Below wo.heap.size wo wx) (fun t _=>k+1 - (intOf t).toNat)
      case atStart=>exact⟨0,yZ _,rfl,yV _ _⟩
      case round=>
       obtain⟨j,hj,rfl,hbx⟩:=hrel;obtain⟨wx,hwx⟩:∃v,v=wr:=⟨_,rfl⟩;subst hwx;have DX:=za4 (DR.X.below hbx);have BX:=za4 hbx;clear hbx;have hjI:(j:Int)<(n2:Int):=by omega
       obtain⟨b,off,e,r1,r2,r3⟩:=(z27 DX.X.o HRN.X) j (by rw[HRN.X];omega);subst e;have R3:=za4 r3;obtain⟨d0,d1⟩:=za1 DX.X.x;rw[HKB.X]at d0 d1;have HSM:Hid ((R2.getD j rt0).ids.length<=12):=DX.X.iv.sm _ (zh2 (by rw[HRN.X];omega));have hhm:=zt3 (R2.getD j rt0).ids x;have L3:=z46 (R2.getD j rt0).a (R2.getD j rt0).ids.length (R2.getD j rt0).c x (R2.getD j rt0).ids wx r3 (zQ _) (by have:=HSM.X;omega);rw[hhm]at L3;by_cases hjk:j<k
       ·have hno:=HNO.X j hjk
        rw[zU hno]at L3;clear R3;obtain⟨rt,HRT⟩:=nmd (R2.getD j rt0);rw[HRT.X]at r1 r2 L3;clear HRT r3 HSM hhm hno;obtain⟨rl,HRL⟩:=nmd rt.ids.length;rw[HRL.X]at r2 L3
        go_wp2_with(go_at_call 87;refine L3.mono ?_;rintro e w' ⟨rfl,hw'⟩;subst w')
        go_roundw
        case rel=>exact⟨j+1,by omega,by first|rfl|go_num,BX.X⟩
        case measure=>simp[intOf];omega
       ·have hje:j=k:=by omega
        subst hje;rw[zS HIN.X]at L3;have hne:(R2.getD j rt0).ids≠[]:=fun h9=>by have h8:=HIN.X;rw[h9]at h8;cases h8
        obtain⟨br,orr,er,-⟩:=r3 0 (xL.2 hne);have CUT0:∀W,Below wx.heap.size wx W->_:=fun W hW=>z81 br orr (R2.getD j rt0).c (R2.getD j rt0).ids x W (by have:=R3.X.below hW;rw[er]at this;exact this) (by have:=HSM.X;omega)
        have hmem:R2.getD j rt0∈R2:=zh2 (by rw[HRN.X];exact hkn);have SET0:∀W (g cg:Nat),Below wx.heap.size wx W->za3 W (some ⟨g,0,none⟩) (cutP (R2.getD j rt0).ids x)->_:=fun W g cg hW hX=>yq8 (some ⟨b,off,none⟩) n2 rc2 gl2 l2 lc2 g cg (cutP (R2.getD j rt0).ids x).length j R2 L2 x W DX.X.iv (by have:=DX.X.ln;omega) DX.X.ln HRN.X (z27 (DX.X.below hW).o HRN.X) (yr8 (DX.X.below hW).o DX.X.ln) (by rw[HRN.X];exact hkn) HIN.X rfl hX
        rw[er]at r2 L3;clear R3 r3 hhm hne hmem HNO er;obtain⟨rt,HRT⟩:=nmd (R2.getD j rt0);rw[HRT.X]at r1 r2 L3 CUT0 SET0;obtain⟨cl,HCL⟩:=nmd ((cutP rt.ids x).length);obtain⟨rl,HRL⟩:=nmd rt.ids.length;obtain⟨rv,HRV⟩:=nmd rt.v;obtain⟨rcx,HRC⟩:=nmd rt.c;rw[HRL.X,HRC.X]at r2 L3;rw[HRV.X]at r1;rw[HRL.X,HRC.X,HCL.X]at CUT0;rw[HRV.X,HCL.X]at SET0;have CUT:Hid _:=CUT0;have SET:Hid _:=SET0;clear CUT0 SET0 HSM HRT;have HCE:Hid (∀W,Below wx.heap.size wx W->(fun W=>W.cell? ⟨kb,0,none⟩=some (za (some ⟨b,off,none⟩) n2 rc2)/\W.cell? ⟨kb,1,none⟩=some (za (some ⟨gl2,0,none⟩) l2 lc2)/\W.cell? ⟨b,off+j*2,none⟩=some (zc zb rv)/\W.cell? ⟨b,off+j*2+1,none⟩=some (za (some ⟨br,orr,none⟩) rl rcx)) W):=fun W hW=>⟨zn7 d0 hW,zn7 d1 hW,zn7 r1 hW,zn7 r2 hW⟩;go_upto_region 14 with(go_at_call 87;refine L3.mono ?_;rintro e w' ⟨rfl,hw'⟩;subst w')
        go_wp2_with fail
        refine ze1 (S:=(fun W=>W.cell? ⟨kb,0,none⟩=some (za (some ⟨b,off,none⟩) n2 rc2)/\W.cell? ⟨kb,1,none⟩=some (za (some ⟨gl2,0,none⟩) l2 lc2)/\W.cell? ⟨b,off+j*2,none⟩=some (zc zb rv)/\W.cell? ⟨b,off+j*2+1,none⟩=some (za (some ⟨br,orr,none⟩) rl rcx))) 17 (by kernel_rfl) ?_ (fun hHeld=> ?_)
        ·exact HCE.X _ (yV _ _).drew
        have BD:Hid (Below wx.heap.size wx wx.drew):=(yV _ _).drew;generalize wx.drew=wd at*;refine tkZ 0 hHeld ?_;refine tkZ 1 hHeld ?_;refine tkZ 2 hHeld ?_;refine tkZ 3 hHeld ?_;refine tkZ 4 hHeld ?_;refine tkZ 5 hHeld ?_;refine tkZ 6 hHeld ?_;refine tkZ 7 hHeld ?_;refine tkZ 8 hHeld ?_;refine tkZ 9 hHeld ?_;refine tkZ 10 hHeld ?_;refine tkZ 11 hHeld ?_;refine tkZ 12 hHeld ?_;refine tkZ 13 hHeld ?_;refine zb7 (rs:=[14]) (by kernel_rfl) (by simp) ?_;refine zb1.cons rfl (fun K hK=> ?_) zb1.nil;go_simp;refine(CUT.X wd BD.X).mono ?_;rintro e w6 ⟨g,cg,rfl,hb,ho⟩;have B6:Hid (Below wx.heap.size wx w6):=BD.X.trans (hb.mono BD.X.size);have X6:Hid (za3 w6 (some ⟨g,0,none⟩) (cutP rt.ids x)):=zg7 ho;clear hb ho
        try rw[HCL.X]
        (try go_wp2_with fail)
        refine hK.out _ _ ?_ (fun hHeld=> ?_)
        ·exact HCE.X _ B6.X
        clear hK K
        (try simp only[Act.put,xB,zL,xC])
        refine tkZ 15 hHeld ?_;refine zb7 (rs:=[16]) (by kernel_rfl) (by simp) ?_;refine zb1.cons rfl (fun K hK=> ?_) zb1.nil;go_simp;refine(SET.X w6 g cg B6.X X6.X).mono ?_;rintro e w7 ht;obtain⟨ra7,n7,rc7,g7,lc7,R7,rfl,hb7,hM⟩:=DX.X.mid HB0.X B6.X ht;rw[HKB.X]at hM;have M7:=za4 hM;have B7:=za4 hb7;have F7:=fun i=>yU _ _ i _ _ (za0 hb7 (by have:=za2 DX.X.x;rw[HKB.X]at this;exact this) (by have:=DX.X.x;rw[HKB.X]at this;exact this))
        obtain⟨f0,f1,-⟩:=HCE.X w7 hb7;clear ht hM hb7
        (try go_wp2_with fail)
        refine hK.out _ _ ?_ (fun hHeld=> ?_)
        ·exact HCE.X _ B7.X
        clear hK K
        (try simp only[Act.put,xB,zL,xC])
        refine zb7 (rs:=[17]) (by kernel_rfl) (by simp) ?_;refine zb1.last rfl (fun K hK=> ?_);go_simp;refine hK.out _ _ ?_;clear hK K;clear F7 f0 f1;generalize((w7.setCell ⟨kb,0,none⟩ (za ra7 n7 rc7)).setCell ⟨kb,1,none⟩ (za (some ⟨g7,0,none⟩) l2 lc7))=w8 at*;refine zh0 (by kernel_rfl) ?_ _;clear hHeld CUT SET HCE L3 r1 r2 d0 d1;have hcap:l2<=lc7:=by have h9:=M7.X.o.l;rw[M7.X.ln]at h9;exact z60 h9
        have PUT:=zT5 g7 0 lc7 L2 x w8 (yr8 M7.X.o M7.X.ln) (by have:=M7.X.ln;omega) (by rw[M7.X.ln];exact hcap);rw[M7.X.ln]at PUT;have M8:=M7.X.x;rw[HKB.X]at M8;obtain⟨m0,m1⟩:=za1 M8
        go_wp2_with fail
        refine PUT.mono ?_;rintro e w9 ⟨g9,c9,rfl,hb9,ho9⟩;have D9:Hid (DS w4 (w9.setCell ⟨kb,1,none⟩ (za (some ⟨g9,0,none⟩) (l2+1) c9)) (w.heap.size+3) S P R L (i+1) ra7 n7 rc7 g9 (l2+1) c9 R7 (zz7 L2 (pkd S P i))):=by
         have hM:=M7.X;rw[<-HX2.X]at hM ho9;have:=hM.put HB0.X (by rw[HPM.X];exact ID.X) (by rw[HPM.X];exact hlt) DX.X.iv DX.X.kr DX.X.kl hb9 ho9;rw[HKB.X]at this;exact this
        have X9:=za0 hb9 (za2 M8) M8;obtain⟨x0,x1⟩:=za1 X9;have xf:=fun i=>yU _ _ i _ _ X9;clear hb9 ho9 PUT m0 m1 M8 X9;go_wp2;go_roundw
        case rel=>exact⟨i+1,ra7,n7,rc7,g9,l2+1,c9,R7,zz7 L2 (pkd S P i),by omega,by first|rfl|go_num,D9.X⟩
        case measure=>simp[intOf];omega
     ·have hltI:¬((i:Int)<(m:Int)):=by omega
      have him:i=m:=by omega
      subst him;have QW:=za4 (Q4.X.below DR.X.b);have PCW:=PLC.X wo ra2 (some ⟨gl2,0,none⟩) n2 rc2 l2 lc2 R2 L2 QW.X.b (z27 DR.X.o DR.X.rn) DR.X.rn (yr8 DR.X.o DR.X.ln) DR.X.ln (fun r hr=>⟨DR.X.iv.sm r hr,(DR.X.o.ints r hr).2⟩) (by have:=DR.X.iv.ln;have:=DR.X.rn;omega) (by have:=DR.X.ln;have:=DR.X.iv.ll;have:=HM.X;omega) (by rw[zb6];have:=zR2 R2 DR.X.iv.sm;have:=DR.X.iv.ln;omega) (by rw[HQ.X];exact DR.X.kr) (by rw[HQ.X];exact DR.X.kl);obtain⟨c0,c1,c2,c3,c4⟩:=za7 QW.X.c;obtain⟨d0,d1⟩:=za1 DR.X.x;rw[HKB.X]at d0 d1
      go_wp2_with fail
      refine PCW.mono ?_;rintro e w6 ⟨rfl,hb⟩;have Q6:=za4 (QW.X.below hb);have D6:=za4 (DR.X.below hb);clear hb PCW c0 c1 c2 c3 c4 d0 d1 QW DR PLC;by_cases hpw:pw=0
      ·obtain⟨g1,g2,g3⟩:=HY0.X hpw
       have hpn2:(pw !=0)=false:=by simp[hpw]
       obtain⟨d0,d1⟩:=za1 D6.X.x;rw[HKB.X]at d0 d1;obtain⟨a0,a1⟩:=za1 Q6.X.o;have af:=fun i=>yU _ _ i _ _ Q6.X.o;have s1:=zP w6 (w.heap.size+2) 0 _ _ (za ra2 n2 rc2) Q6.X.o;have P7:Hid (PO ((w6.setCell ⟨w.heap.size+2,0,none⟩ (za ra2 n2 rc2)).setCell ⟨w.heap.size+2,1,none⟩ (za (some ⟨gl2,0,none⟩) l2 lc2)) (w.heap.size+3) (za ra2 n2 rc2) R2 (za (some ⟨gl2,0,none⟩) l2 lc2) L2):=(D6.X.o.box Q6.X.o).box s1;have B7:Hid (Below w.heap.size w ((w6.setCell ⟨w.heap.size+2,0,none⟩ (za ra2 n2 rc2)).setCell ⟨w.heap.size+2,1,none⟩ (za (some ⟨gl2,0,none⟩) l2 lc2))):=(Q6.X.b.setCell (by simp) _).setCell (by simp) _;have HKY:Hid (R2.map RT.key=GR.map RT.key):=by show _=_;rw[g2,HQ.X];exact D6.X.kr
       have HLL:Hid (L2=GL):=by show _=_;rw[g3,HQ.X];exact D6.X.kl
       clear s1;subst g1;clear g2 g3;go_wp2;refine yX (v:=.tuple #[.agg #[za ra2 n2 rc2,za (some ⟨gl2,0,none⟩) l2 lc2],zc zb GN,.bool true]) (by simp[results,Tryz.results42,go_sem,a0,a1]) rfl ?_;show z17 _ _ _ _ _ _ _;rw[<-HLL.X];exact⟨ra2,n2,rc2,_,l2,lc2,R2,rfl,B7.X,D6.X.rn,D6.X.ln,HKY.X,P7.X.base (by omega),fun _=>⟨_,rfl⟩⟩
      ·obtain⟨g1,g2,g3⟩:=HY1.X hpw
       have hpn2:(pw !=0)=true:=by simp[hpw]
       subst g1 g2 g3;obtain⟨p0,p1⟩:=za1 Q6.X.p
       go_wp2_with fail
       refine(CPY.X w6 Q6.X.b).mono ?_;rintro e w7 ⟨ra7,rc7,gl7,lc7,R7,rfl,hb,hk7,ho⟩;rw[HN.X,HM.X]at ho⊢;have Q7:=za4 (Q6.X.below hb);have P7':Hid (PO w7 (w.heap.size+3) (za ra7 nr rc7) R7 (za (some ⟨gl7,0,none⟩) ln lc7) GL):=ho.base (by have:=Q6.X.size;omega);have HK7:=za4 hk7;have HN7:Hid (R7.length=nr):=by have:=congrArg zj hk7;simp only[qn]at this;exact this.trans HN.X
       clear hb ho hk7 p0 p1;obtain⟨a0,a1⟩:=za1 Q7.X.o;have af:=fun i=>yU _ _ i _ _ Q7.X.o;have s1:=zP w7 (w.heap.size+2) 0 _ _ (za ra7 nr rc7) Q7.X.o;have P7:Hid (PO ((w7.setCell ⟨w.heap.size+2,0,none⟩ (za ra7 nr rc7)).setCell ⟨w.heap.size+2,1,none⟩ (za (some ⟨gl7,0,none⟩) ln lc7)) (w.heap.size+3) (za ra7 nr rc7) R7 (za (some ⟨gl7,0,none⟩) ln lc7) GL):=(P7'.X.box Q7.X.o).box s1;have B7:Hid (Below w.heap.size w ((w7.setCell ⟨w.heap.size+2,0,none⟩ (za ra7 nr rc7)).setCell ⟨w.heap.size+2,1,none⟩ (za (some ⟨gl7,0,none⟩) ln lc7))):=(Q7.X.b.setCell (by simp) _).setCell (by simp) _;clear s1;go_wp2;refine yX (v:=.tuple #[.agg #[za ra7 nr rc7,za (some ⟨gl7,0,none⟩) ln lc7],zc zb GN,.bool false]) (by simp[results,Tryz.results42,go_sem,a0,a1]) rfl ?_;show z17 _ _ _ _ _ _ _;exact⟨ra7,nr,rc7,_,ln,lc7,R7,rfl,B7.X,HN7.X,HM.X,HK7.X,P7.X.base (by omega),fun _=>⟨_,rfl⟩⟩
 ·have hpn:(pv !=0)=true:=by simp[hpv]
  have B5:Hid (Below w.heap.size w ((w1.setCell ⟨w.heap.size+2,0,none⟩ (za none 0 0)).setCell ⟨w.heap.size+2,1,none⟩ (za none 0 0))):=(Q1.X.b.setCell (by simp) _).setCell (by simp) _;rw[zU hpv,qX]at HDB;obtain⟨g1,g2,g3,g4⟩:=HNO.X (by rw[HDB.X];try rfl);subst g1 g2 g3 g4;clear HNO
  go_wp2_with((go_at_call 39;refine(zc0 _ _ _ _).mono ?_;rintro e w' ⟨rfl,hw'⟩;subst w';first|rw[HK1.X]|rw[HS1.X]))
  refine yX (v:=.tuple #[.agg #[za none 0 0,za none 0 0],zc zb (-1),.bool false]) (by simp[results,Tryz.results42,go_sem,a0,a1]) rfl ?_;show z17 _ _ _ _ _ _ _;exact⟨none,0,0,none,0,0,[],rfl,B5.X,rfl,rfl,rfl,⟨qP _ _ _ _,(fun s hs=>by cases hs),qP _ _ _ _⟩,fun h=>by cases h⟩
theorem yG1(ids:List Int)(i:Nat)(id:Int):(ids.take i++[id])++ids.drop i=insL ids i id:=by simp[insL]
theorem zw9(n fine veh:Int)(a ao av:Option Addr)(b off:Nat)(cap ko co kv cv c2:Nat)(zs os vs ids:List Int)(w:zg)(hA:za3 w a zs)(hO:za3 w ao os)(hV:za3 w av vs)(hI:za3 w (some ⟨b,off,none⟩) ids)(hlo:os.length=ko*6)(hlv:vs.length=kv*5)(hko:ko<=9223372036854775807)(hkv:kv<=9223372036854775807)(hli:ids.length<=9223372036854775807)(hc2:ids.length<=c2)(id x:Int)(ch:Bool)(hch:chB (zc8 n zs os vs ko kv fine) n zs os vs ko kv veh ids (inB x 0 (ids.length:Int)) (insL ids x.toNat id)=ch)(D:Int)(hD:chD ch n zs os vs ko kv veh ids (insL ids x.toNat id)=D)(xs:List Int)(hxs:chL ch (insL ids x.toNat id)=xs):
 Calls ze 71 #[.agg #[zc zb n,za a zs.length cap,za ao ko co,za av kv cv,zc zb fine],.agg #[zc zb veh,za (some ⟨b,off,none⟩) ids.length c2],zc zb id,zc zb x] w (yo4 w ch veh D xs):=by
 have HA:=za4 hA;have HO:=za4 hO;have HV:=za4 hV;have HI:=za4 hI;have HLO:Hid _:=hlo;have HLV:Hid _:=hlv;clear hA hO hV hI hlo hlv;have HCh:Hid _:=hch;have HD:Hid _:=hD;have HXs:Hid _:=hxs;clear hch hD hxs;have C0:Hid (CRR w (((w.alloc (zd #[zc zb n,za a zs.length cap,za ao ko co,za av kv cv,zc zb fine] 30)).alloc (zd #[zc zb veh,za (some ⟨b,off,none⟩) ids.length c2] 80)).alloc (zd #[zc zb 0,za none 0 0] 80)) _ _ _):=CRR.new w _ _ _;obtain⟨o1,HO1⟩:=nmd (decide (codeV (zc8 n zs os vs ko kv fine) n zs os vs ko kv veh ids=0));obtain⟨v1,HV1⟩:=nmd (inB x 0 (ids.length:Int));go_enter Tryz.func71,Tryz.ntmps71;obtain⟨c0,c1,c2',c3,c4⟩:=za7 C0.X.1.2.1;obtain⟨d0,d1⟩:=za1 C0.X.1.2.2
 go_wp2_with fail
 clear c0 c1 c2' c3 c4 d0 d1;refine(z62 n fine veh a ao av (some ⟨b,off,none⟩) cap ko co kv cv c2 zs os vs ids _ (HA.X.below C0.X.b) (HO.X.below C0.X.b) (HV.X.below C0.X.b) (HI.X.below C0.X.b) HLO.X HLV.X hko hkv hli hc2 o1 HO1.X).mono ?_;rintro e w1 ⟨rfl,hb⟩;have C1:=za4 (C0.X.below hb);clear hb C0;cases o1
 ·have HCH:Hid (ch=false):=HCh.X.symm.trans (yi0 (qC HO1.X) _ _)
  have HX:Hid (xs=[]):=HXs.X.symm.trans (by rw[HCH.X];rfl);have HDD:Hid (D=0):=HD.X.symm.trans (by rw[HCH.X];rfl);obtain⟨t0,t1⟩:=za1 C1.X.2;have tf:=fun i=>yU _ _ i _ _ C1.X.2;go_wp2;refine yX (v:=.tuple #[.agg #[zc zb 0,za none 0 0],zc zb 0,.bool false]) (by simp[results,q7,go_sem,t0,t1]) rfl ⟨?_,none,0,?_,?_⟩
  ·repeat(first|with_reducible exact C1.X.b|refine xd ?_ (by simp<;>omega) _)
  ·rw[HCH.X,HDD.X,HX.X];rfl
  ·rw[HX.X];exact qP _ _ _ _
 ·have hz1:=zX HO1.X
  have HZ1:Hid _:=hz1;have h12:=zk7 hz1;clear hz1;obtain⟨d0,d1⟩:=za1 C1.X.1.2.2;cases v1
  ·have HCH:Hid (ch=false):=HCh.X.symm.trans (yf2 HV1.X _)
   have HX:Hid (xs=[]):=HXs.X.symm.trans (by rw[HCH.X];rfl);have HDD:Hid (D=0):=HD.X.symm.trans (by rw[HCH.X];rfl);obtain⟨t0,t1⟩:=za1 C1.X.2;have tf:=fun i=>yU _ _ i _ _ C1.X.2
   go_wp2_with(first|(go_at_call 39;refine(zc0 x 0 (ids.length:Int) w1).mono ?_;rintro e w1' ⟨rfl,rfl⟩;rw[HV1.X]))
   refine yX (v:=.tuple #[.agg #[zc zb 0,za none 0 0],zc zb 0,.bool false]) (by simp[results,q7,go_sem,t0,t1]) rfl ⟨?_,none,0,?_,?_⟩
   ·repeat(first|with_reducible exact C1.X.b|refine xd ?_ (by simp<;>omega) _)
   ·rw[HCH.X,HDD.X,HX.X];rfl
   ·rw[HX.X];exact qP _ _ _ _
  ·have h1:=zc7 HV1.X
   obtain⟨i,rfl⟩:∃i:Nat,x=i:=⟨x.toNat,by omega⟩;have hi:i<=ids.length:=by omega
   rw[show((i:Int)).toNat=i by omega]at HCh HD HXs
   go_wp2_with(first|(go_at_call 39;refine(zc0 i 0 (ids.length:Int) w1).mono ?_;rintro e w1' ⟨rfl,rfl⟩;rw[HV1.X]))
   generalize w1'=w1 at*;rename_i Kx hKx;have htl:(ids.take i).length=i:=by simp;omega
   have HTL:Hid _:=htl;clear htl
   have key:∀(gb g cg kb:Nat) (W:zg),OX w W w1.heap.size kb #[zc zb n,za a zs.length cap,za ao ko co,za av kv cv,zc zb fine] #[zc zb veh,za (some ⟨b,off,none⟩) ids.length c2] #[zc zb 0,za none 0 0] veh (za (some ⟨g,0,none⟩) i cg) (ids.take i)->Kx {tmps:=#[.agg #[zc zb n,za a zs.length cap,za ao ko co,za av kv cv,zc zb fine],.agg #[zc zb veh,za (some ⟨b,off,none⟩) ids.length c2],zc zb id,zc zb (i:Int),.pointer (some ⟨w.heap.size,0,none⟩),.pointer (some ⟨w.heap.size+1,0,none⟩),undef,undef,.pointer (some ⟨w.heap.size+1+1,0,none⟩),zc zb 0,.bool false,.pointer (some ⟨kb,0,none⟩),.agg #[zc zb n,za a zs.length cap,za ao ko co,za av kv cv,zc zb fine],.agg #[zc zb veh,za (some ⟨b,off,none⟩) ids.length c2],.bool true,.bool false,.bool false,zc zb (i:Int),.pointer (some ⟨w.heap.size+1,1,none⟩),za (some ⟨b,off,none⟩) ids.length c2,zc zb (ids.length:Int),.bool true,.bool false,.bool false,undef,.pointer (some ⟨w.heap.size+1,0,none⟩),zc zb veh,za (some ⟨gb,0,none⟩) 0 0,.pointer (some ⟨w.heap.size+1,1,none⟩),za (some ⟨b,off,none⟩) ids.length c2,zc zb (i:Int),za (some ⟨b,off,none⟩) i c2,za (some ⟨g,0,none⟩) i cg,.agg #[zc zb veh,za (some ⟨g,0,none⟩) i cg],undef,undef,undef,undef,undef,undef,undef,undef,undef,undef,undef,undef,undef,undef,undef,undef,undef,undef,undef,undef,undef,undef,undef,undef,undef,undef,undef],defers:=[]} W:=by
    intro gb g cg kb W hT;have T0:=za4 hT;clear hT d0 d1 C1;apply hKx;clear hKx;obtain⟨e0,e1⟩:=za1 T0.X.2.1;obtain⟨d0,d1⟩:=za1 T0.X.c.1.2.2;have ef:=fun i=>yU _ _ i _ _ T0.X.2.1;have hk1:(W.alloc (zd #[zc zb id] 2)).heap[W.heap.size]? =some (zd #[zc zb id] 2 (0,0)):=zN _ _;have TA:Hid (OX w (W.alloc (zd #[zc zb id] 2)) w1.heap.size kb _ _ _ veh (za (some ⟨g,0,none⟩) i cg) (ids.take i)):=T0.X.below (zK _)
    go_wp2_with(first
     |(at_builtin
       refine zD7 _ rfl _ _ rfl w1.heap.size (za (some ⟨g,0,none⟩) i cg) i (ids.take i) rfl (y08 TA.X.o HTL.X) W.heap.size 1 id rfl (zR _ _ 0 _ _ _ hk1) (by omega) TA.X.size ?_;intro v' w2 ho hg hn;obtain⟨g1,cg1,rfl⟩:∃g cg,v'=za (some ⟨g,0,none⟩) (i+1) cg:=z94 ho (fun e=>by simpa using(hn.1 e).1) rfl;have T1:Hid (OX w (w2.setCell ⟨kb,1,none⟩ (za (some ⟨g1,0,none⟩) (i+1) cg1)) w1.heap.size kb _ _ _ veh (za (some ⟨g1,0,none⟩) (i+1) cg1) (ids.take i++[id])):=TA.X.grow hg (zC3 ho HTL.X rfl);obtain⟨kS,f1,ff⟩:=TA.X.keep hg;clear ho hg hn e0 e1 ef))
    clear kS f1 ff hk1 TA T0 d0 d1;generalize(w2.setCell ⟨kb,1,none⟩ (za (some ⟨g1,0,none⟩) (i+1) cg1))=W1 at*;have htl1:(ids.take i++[id]).length=i+1:=by rw[xU,HTL.X];rfl
    obtain⟨e0,e1⟩:=za1 T1.X.2.1;obtain⟨d0,d1⟩:=za1 T1.X.c.1.2.2;have ef:=fun i=>yU _ _ i _ _ T1.X.2.1;have hc0:(0:Int)<=(i:Int):=by omega
    have hc1:(i:Int)<=(ids.length:Int):=by omega
    have hc3:(ids.length:Int)<=(c2:Int):=by omega
    have IW:=za4 (HI.X.below T1.X.b);have hne:w.heap.size+1≠kb:=by have:=T1.X.2.2.1;have:=T1.X.2.2.2.1;omega
    go_region_law ((first
     |(refine z06 rfl (.tmp 41) (.tmp 45) rfl w1.heap.size (za (some ⟨g1,0,none⟩) (i+1) cg1) (ids.take i++[id]) (i+1) rfl (y08 T1.X.drew.o htl1) _ _ _ (ids.drop i) rfl (yl3 _ _ _ _) (by simp) (yl8 (IW.X.below (yV _ _).drew) _ _ hc2) (by omega) (by omega) T1.X.drew.size ?_
       intro v' w2 ho hg hn;obtain⟨g2,cg2,rfl⟩:∃g cg,v'=za (some ⟨g,0,none⟩) (insL ids i id).length cg:=z94 ho (fun e=>by simpa using(hn.1 e).1) (by rw[zr4 id hi];omega);have ho2:=zC3 ho htl1 (by simp);rw[yG1]at ho2;have T2:Hid (OX w (w2.setCell ⟨kb,1,none⟩ (za (some ⟨g2,0,none⟩) (insL ids i id).length cg2)) w1.heap.size kb _ _ _ veh (za (some ⟨g2,0,none⟩) (insL ids i id).length cg2) (insL ids i id)):=T1.X.drew.grow hg ho2;obtain⟨kS,f1,ff⟩:=T1.X.drew.keep hg;clear ho hg hn ho2)))
    all_goals
     clear kS f1 ff e0 e1 d0 d1 ef hc0 hc1 hc3 T1 IW;generalize(if c2=i then some (⟨b,off,none⟩:Addr)else some ⟨b,off+i,none⟩)=adx at*;generalize(w2.setCell ⟨kb,1,none⟩ (za (some ⟨g2,0,none⟩) (insL ids i id).length cg2))=W2 at*;generalize insL ids i id=ids' at*;obtain⟨o2,HO2⟩:=nmd (decide (codeV (zc8 n zs os vs ko kv fine) n zs os vs ko kv veh ids'=0));obtain⟨hcg,hli'⟩:=yv6 T2.X.o;obtain⟨c0,c1,c2',c3,c4⟩:=za7 T2.X.c.1.2.1;obtain⟨e0,e1⟩:=za1 T2.X.2.1
     go_wp2_with fail
     clear c0 c1 c2' c3 c4 e0 e1;refine(z62 n fine veh a ao av (some ⟨g2,0,none⟩) cap ko co kv cv cg2 zs os vs ids' _ (HA.X.below T2.X.b) (HO.X.below T2.X.b) (HV.X.below T2.X.b) (ze9 T2.X.o) HLO.X HLV.X hko hkv hli' hcg o2 HO2.X).mono ?_;rintro e w3 ⟨rfl,hb⟩;have T3:=za4 (T2.X.below hb);have C3:Hid (CRR w w3 _ _ _):=T3.X.c;clear hb T2;cases o2
     ·have HCH:Hid (ch=false):=HCh.X.symm.trans (yc4 _ (qC HO2.X))
      have HX:Hid (xs=[]):=HXs.X.symm.trans (by rw[HCH.X];rfl);have HDD:Hid (D=0):=HD.X.symm.trans (by rw[HCH.X];rfl);obtain⟨t0,t1⟩:=za1 C3.X.2;have tf:=fun i=>yU _ _ i _ _ C3.X.2;go_wp2;refine yX (v:=.tuple #[.agg #[zc zb 0,za none 0 0],zc zb 0,.bool false]) (by simp[results,q7,go_sem,t0,t1]) rfl ⟨?_,none,0,?_,?_⟩
      ·repeat(first|with_reducible exact C3.X.b|refine xd ?_ (by simp<;>omega) _)
      ·rw[HCH.X,HDD.X,HX.X];rfl
      ·rw[HX.X];exact qP _ _ _ _
     ·have hz2:=zX HO2.X
      have HZ2:Hid _:=hz2;have HCH:Hid (ch=true):=HCh.X.symm.trans (yf0 HZ1.X HV1.X hz2);have HX:Hid (xs=ids'):=HXs.X.symm.trans (by rw[HCH.X];rfl);have hmat:=(zb3 (zG8 hz2)).1;have hq1:=zw2 hmat (zd1 os ko ids) ids.length (zk7 HZ1.X) (zc2 vs kv veh 1);have hq2:=zw2 hmat (zd1 os ko ids') ids'.length (zk7 hz2) (zc2 vs kv veh 1);have HDD:=HD.X.symm.trans (ys4 HCH.X HZ1.X hz2);obtain⟨q1,HQ1⟩:=nmd (zr1 n zs (zd1 os ko ids) ids.length (zc2 vs kv veh 1));obtain⟨q2,HQ2⟩:=nmd (zr1 n zs (zd1 os ko ids') ids'.length (zc2 vs kv veh 1));rw[HQ1.X]at hq1 HDD;rw[HQ2.X]at hq2 HDD;have HDE:=za4 HDD;have hwr2:IntKind.i64.wrap (q2 - q1)=q2 - q1:=qB _ (by omega);clear hz2 hmat HDD hq1 hq2;have HC1:Hid (∀W,Below w3.heap.size w3 W->Calls ze 89 #[.agg #[zc zb n,za a zs.length cap,za ao ko co,za av kv cv,zc zb fine],.agg #[zc zb veh,za (some ⟨b,off,none⟩) ids.length c2]] W fun e w'=>e=.returned (zc zb q1)/\Below W.heap.size W w'):=fun W hW=>
       HQ1.X▸zt9 n fine veh a ao av _ cap ko co kv cv c2 zs os vs ids W ((HA.X.below C3.X.b).below hW) ((HO.X.below C3.X.b).below hW) ((HV.X.below C3.X.b).below hW) ((HI.X.below C3.X.b).below hW) HLO.X HLV.X hko hkv hli HZ1.X
      have HC2:Hid (∀W,Below w3.heap.size w3 W->Calls ze 89 #[.agg #[zc zb n,za a zs.length cap,za ao ko co,za av kv cv,zc zb fine],.agg #[zc zb veh,za (some ⟨g2,0,none⟩) ids'.length cg2]] W fun e w'=>e=.returned (zc zb q2)/\Below W.heap.size W w'):=fun W hW=>
       HQ2.X▸zt9 n fine veh a ao av _ cap ko co kv cv cg2 zs os vs ids' W ((HA.X.below C3.X.b).below hW) ((HO.X.below C3.X.b).below hW) ((HV.X.below C3.X.b).below hW) ((ze9 T3.X.o).below hW) HLO.X HLV.X hko hkv hli' HZ2.X
      go_wp2_with fail
      have kS:=ox9 T3.X.drew
      go_region_held3 (fun W=>W.cell? ⟨w.heap.size,0,none⟩=some (zc zb n)/\W.cell? ⟨w.heap.size,1,none⟩=some (za a zs.length cap)/\W.cell? ⟨w.heap.size,2,none⟩=some (za ao ko co)/\W.cell? ⟨w.heap.size,3,none⟩=some (za av kv cv)/\W.cell? ⟨w.heap.size,4,none⟩=some (zc zb fine)/\W.cell? ⟨w.heap.size+1,0,none⟩=some (zc zb veh)/\W.cell? ⟨w.heap.size+1,1,none⟩=some (za (some ⟨b,off,none⟩) ids.length c2)/\W.cell? ⟨kb,0,none⟩=some (zc zb veh)/\W.cell? ⟨kb,1,none⟩=some (za (some ⟨g2,0,none⟩) ids'.length cg2)) (first|with_reducible exact kS|with_reducible exact yL8 T6.X _ _) ((first
       |(go_at_call 89
         with_reducible refine(HC2.X w3.drew (yV _ _).drew).mono ?_
         rintro e w5 ⟨rfl,hb⟩;have T5:=za4 (T3.X.drew.below hb);have B5:Hid (Below w3.heap.size w3 w5):=(yV _ _).drew.trans (hb.mono (zQ _));have kS:=ox9 T5.X;clear hb)
       |(go_at_call 89
         with_reducible refine(HC1.X w5 B5.X).mono ?_
         rintro e w6 ⟨rfl,hb⟩;have T6:=za4 (T5.X.below hb);have kS:=ox9 T6.X;obtain⟨t0,t1⟩:=za1 T6.X.c.2;have tf:=fun i=>yU _ _ i _ _ T6.X.c.2;clear hb)))
      all_goals
       clear kS;go_wp2;refine yX (v:=.tuple #[.agg #[zc zb veh,za (some ⟨g2,0,none⟩) ids'.length cg2],zc zb (q2 - q1),.bool true]) (by simp[results,q7,go_sem,t0,t1]) rfl ⟨?_,some ⟨g2,0,none⟩,cg2,?_,?_⟩
       ·repeat(first|with_reducible exact T6.X.b|refine xd ?_ (by simp<;>omega) _)
       ·rw[HCH.X,HDE.X,HX.X];rfl
       ·rw[HX.X];exact zc4 (zm5 (zm5 T6.X.o T6.X.2.2.2.1) T6.X.2.2.2.1) (by have:=T6.X.2.2.2.1;omega)
   have hc0:(0:Int)<=(i:Int):=by omega
   have hc1:(i:Int)<=(c2:Int):=by omega
   have IT:Hid (za3 w1 (some ⟨b,off,none⟩) (ids.take i)):=zX1 (HI.X.below C1.X.b) i;have ne1:w.heap.size+1≠w1.heap.size:=by have:=C1.X.big;omega
   have ne2:w.heap.size+1≠w1.heap.size+1:=by have:=C1.X.big;omega
   go_region_held3 (fun W=>W.cell? ⟨w.heap.size+1,0,none⟩=some (zc zb veh)/\W.cell? ⟨w.heap.size+1,1,none⟩=some (za (some ⟨b,off,none⟩) ids.length c2)) (first
    |with_reducible exact kS
    |exact⟨za5 (za5 kS.1 ne2) ne2,za5 (za5 kS.2 ne2) ne2⟩
    |exact⟨za5 (za5 kS.1 ne1) ne1,za5 (za5 kS.2 ne1) ne1⟩
    |exact⟨zW1 kS.1 (by repeat(first|with_reducible exact yV _ _|with_reducible refine Below.drew ?_|with_reducible refine xy ?_ (by simp<;>omega) _|with_reducible refine xd ?_ (by simp<;>omega) _)),zW1 kS.2 (by repeat(first|with_reducible exact yV _ _|with_reducible refine Below.drew ?_|with_reducible refine xy ?_ (by simp<;>omega) _|with_reducible refine xd ?_ (by simp<;>omega) _))⟩
    |exact⟨zW1 d0 (by repeat(first|with_reducible exact yV _ _|with_reducible refine Below.drew ?_|with_reducible refine xy ?_ (by simp<;>omega) _|with_reducible refine xd ?_ (by simp<;>omega) _)),zW1 d1 (by repeat(first|with_reducible exact yV _ _|with_reducible refine Below.drew ?_|with_reducible refine xy ?_ (by simp<;>omega) _|with_reducible refine xd ?_ (by simp<;>omega) _))⟩) ((first
    |(refine zi3 rfl (.tmp 27) (.tmp 31) rfl w1.heap.size (za (some ⟨w1.heap.size,0,none⟩) 0 0) [] 0 rfl (yJ8 w1) b off i c2 (ids.take i) rfl HTL.X (IT.X.below (zK _).drew) (by omega) (by omega) (by simp) ?_
      intro v' w2 ho hg hn;obtain⟨g,cg,rfl⟩:∃g cg,v'=za (some ⟨g,0,none⟩) i cg:=z94 ho (fun e=>by simpa using(hn.1 e).1) (by omega);have kS:w2.cell? ⟨w.heap.size+1,0,none⟩=some (zc zb veh)/\w2.cell? ⟨w.heap.size+1,1,none⟩=some (za (some ⟨b,off,none⟩) ids.length c2):=zn5 hg (C1.X.alloc _).drew (fun q e=>by have:=C1.X.big;simp[zm]at e;omega);have HG2:=za4 hg;have HO2:Hid (w2.ownsRow w1.heap.size 2 1 (za (some ⟨g,0,none⟩) i cg) (ids.take i).length ((ids.take i).map (zc zb))):=yh1 ho HTL.X;clear hg ho hn)
    |(refine zi3 rfl (.tmp 27) (.tmp 31) rfl w1.heap.size (za (some ⟨w1.heap.size,0,none⟩) 0 0) [] 0 rfl (yG9 w1 _) b off i c2 (ids.take i) rfl HTL.X (IT.X.below ((zK _).alloc (by simp) _).drew) (by omega) (by omega) (by simp;omega) ?_
      intro v' w2 ho hg hn;obtain⟨g,cg,rfl⟩:∃g cg,v'=za (some ⟨g,0,none⟩) i cg:=z94 ho (fun e=>by simpa using(hn.1 e).1) (by omega);have kS:w2.cell? ⟨w.heap.size+1,0,none⟩=some (zc zb veh)/\w2.cell? ⟨w.heap.size+1,1,none⟩=some (za (some ⟨b,off,none⟩) ids.length c2):=zn5 hg ((C1.X.alloc _).alloc _).drew (fun q e=>by have:=C1.X.big;simp[zm]at e;omega);have HG2:=za4 hg;obtain⟨z0,z1⟩:=za1 (yK2 hg);have zf:=fun i=>yU _ _ i _ _ (yK2 hg);have HO2:Hid (w2.ownsRow w1.heap.size 2 1 (za (some ⟨g,0,none⟩) i cg) (ids.take i).length ((ids.take i).map (zc zb))):=yh1 ho HTL.X;clear hg ho hn)
    |(refine zi3 rfl (.tmp 27) (.tmp 31) rfl w1.heap.size (za (some ⟨w1.heap.size+1,0,none⟩) 0 0) [] 0 rfl (yI4 w1 _) b off i c2 (ids.take i) rfl HTL.X (IT.X.below ((zK _).alloc (by simp) _).drew) (by omega) (by omega) (by simp;omega) ?_
      intro v' w2 ho hg hn;obtain⟨g,cg,rfl⟩:∃g cg,v'=za (some ⟨g,0,none⟩) i cg:=z94 ho (fun e=>by simpa using(hn.1 e).1) (by omega);have kS:w2.cell? ⟨w.heap.size+1,0,none⟩=some (zc zb veh)/\w2.cell? ⟨w.heap.size+1,1,none⟩=some (za (some ⟨b,off,none⟩) ids.length c2):=zn5 hg ((C1.X.alloc _).alloc _).drew (fun q e=>by have:=C1.X.big;simp[zm]at e;omega);have HG2:=za4 hg;obtain⟨z0,z1⟩:=za1 (yK1 hg);have zf:=fun i=>yU _ _ i _ _ (yK1 hg);have HO2:Hid (w2.ownsRow w1.heap.size 2 1 (za (some ⟨g,0,none⟩) i cg) (ids.take i).length ((ids.take i).map (zc zb))):=yh1 ho HTL.X;clear hg ho hn)))
   ·exact key _ _ _ _ _ (OX.newa C1.X HG2.X HO2.X)
   ·exact key _ _ _ _ _ (OX.newb C1.X HG2.X HO2.X)
   ·exact key _ _ _ _ _ (OX.newc C1.X HG2.X HO2.X)
theorem zP5(w:zg)(ty:TypeId)(g n c:Nat)(h:n<=c):(zt #[24,24] ty #[za (some ⟨g,0,none⟩) n c,za none 0 0]).run ze w=.ok (za (some ⟨g,0,none⟩) n c) w:=by
 obtain⟨i0,hi,hz0,hz1,hz2⟩:=zs2;simp[zt,xA xi,sizeOf,typeInfo,hi,Builtin.lenOf,h,run_firstCells_none,storeCells]
theorem zo1{ops:Array Oper}{o:Oper}{a:Act}{w:zg}{K:Act->zg->Prop}{Q:Exit->Act->zg->Prop}{E:Prop}
 (hg:o.guard=none) (s x:Operand) (hop:o.op=Op.call {callee:=Callee.builtin Builtin.append,args:=#[s,x],argTypes:=#[24,24]})
 (g n c:Nat) (hs:a.eval s=za (some ⟨g,0,none⟩) n c) (hx:a.eval x=za none 0 0) (h:n<=c) (hK:∀w',w'=w->K (a.put o.dst (za (some ⟨g,0,none⟩) n c)) w'):
 if zq o (yielded ops a.tmps)=true then Oper.wp ze o a w K Q else E:=by
 have hw:zq o (yielded ops a.tmps)=true:=by simp[zq,hg]
 rw[zV hw];unfold Oper.wp;simp[execOp,hop,resolve,invoke,builtin,hs,hx,zP5 w o.type g n c h,Result.andThen];exact hK _ rfl
theorem zw7(n fine veh:Int)(a ao av:Option Addr)(cap ko co kv cv:Nat)(zs os vs:List Int)(w:zg)(hA:za3 w a zs)(hO:za3 w ao os)(hV:za3 w av vs)(hlo:os.length=ko*6)(hlv:vs.length=kv*5)(hko:ko<=9223372036854775807)(hkv:kv<=9223372036854775807)(id x:Int)(ch:Bool)(hch:chB (zc8 n zs os vs ko kv fine) n zs os vs ko kv veh ([]:List Int) (inB x 0 0) (insL ([]:List Int) x.toNat id)=ch)(D:Int)(hD:chD ch n zs os vs ko kv veh ([]:List Int) (insL ([]:List Int) x.toNat id)=D)(xs:List Int)(hxs:chL ch (insL ([]:List Int) x.toNat id)=xs):
 Calls ze 71 #[.agg #[zc zb n,za a zs.length cap,za ao ko co,za av kv cv,zc zb fine],.agg #[zc zb veh,za none 0 0],zc zb id,zc zb x] w (yo4 w ch veh D xs):=by
 have HA:=za4 hA;have HO:=za4 hO;have HV:=za4 hV;have HI:Hid (za3 w none ([]:List Int)):=fun j hj=>by simp at hj
 have hli:([]:List Int).length<=9223372036854775807:=by simp
 have hc2:([]:List Int).length<=0:=by simp
 have HLO:Hid _:=hlo;have HLV:Hid _:=hlv;clear hA hO hV hlo hlv;have HCh:Hid _:=hch;have HD:Hid _:=hD;have HXs:Hid _:=hxs;clear hch hD hxs;have C0:Hid (CRR w (((w.alloc (zd #[zc zb n,za a zs.length cap,za ao ko co,za av kv cv,zc zb fine] 30)).alloc (zd #[zc zb veh,za none 0 0] 80)).alloc (zd #[zc zb 0,za none 0 0] 80)) _ _ _):=CRR.new w _ _ _;obtain⟨o1,HO1⟩:=nmd (decide (codeV (zc8 n zs os vs ko kv fine) n zs os vs ko kv veh ([]:List Int)=0));obtain⟨v1,HV1⟩:=nmd (inB x 0 0);go_enter Tryz.func71,Tryz.ntmps71;obtain⟨c0,c1,c2',c3,c4⟩:=za7 C0.X.1.2.1;obtain⟨d0,d1⟩:=za1 C0.X.1.2.2
 go_wp2_with fail
 clear c0 c1 c2' c3 c4 d0 d1;refine(z62 n fine veh a ao av none cap ko co kv cv 0 zs os vs [] _ (HA.X.below C0.X.b) (HO.X.below C0.X.b) (HV.X.below C0.X.b) (HI.X.below C0.X.b) HLO.X HLV.X hko hkv hli hc2 o1 HO1.X).mono ?_;rintro e w1 ⟨rfl,hb⟩;have C1:=za4 (C0.X.below hb);clear hb C0;cases o1
 ·have HCH:Hid (ch=false):=HCh.X.symm.trans (yi0 (qC HO1.X) _ _)
  have HX:Hid (xs=[]):=HXs.X.symm.trans (by rw[HCH.X];rfl);have HDD:Hid (D=0):=HD.X.symm.trans (by rw[HCH.X];rfl);obtain⟨t0,t1⟩:=za1 C1.X.2;have tf:=fun i=>yU _ _ i _ _ C1.X.2;go_wp2;refine yX (v:=.tuple #[.agg #[zc zb 0,za none 0 0],zc zb 0,.bool false]) (by simp[results,q7,go_sem,t0,t1]) rfl ⟨?_,none,0,?_,?_⟩
  ·repeat(first|with_reducible exact C1.X.b|refine xd ?_ (by simp<;>omega) _)
  ·rw[HCH.X,HDD.X,HX.X];rfl
  ·rw[HX.X];exact qP _ _ _ _
 ·have hz1:=zX HO1.X
  have HZ1:Hid _:=hz1;have h12:=zk7 hz1;clear hz1;obtain⟨d0,d1⟩:=za1 C1.X.1.2.2;cases v1
  ·have HCH:Hid (ch=false):=HCh.X.symm.trans (yf2 HV1.X _)
   have HX:Hid (xs=[]):=HXs.X.symm.trans (by rw[HCH.X];rfl);have HDD:Hid (D=0):=HD.X.symm.trans (by rw[HCH.X];rfl);obtain⟨t0,t1⟩:=za1 C1.X.2;have tf:=fun i=>yU _ _ i _ _ C1.X.2
   go_wp2_with(first|(go_at_call 39;refine(zc0 x 0 0 w1).mono ?_;rintro e w1' ⟨rfl,rfl⟩;rw[HV1.X]))
   refine yX (v:=.tuple #[.agg #[zc zb 0,za none 0 0],zc zb 0,.bool false]) (by simp[results,q7,go_sem,t0,t1]) rfl ⟨?_,none,0,?_,?_⟩
   ·repeat(first|with_reducible exact C1.X.b|refine xd ?_ (by simp<;>omega) _)
   ·rw[HCH.X,HDD.X,HX.X];rfl
   ·rw[HX.X];exact qP _ _ _ _
  ·have h1:=zc7 HV1.X
   obtain rfl:x=0:=by omega
   go_wp2_with(first|(go_at_call 39;refine(zc0 0 0 0 w1).mono ?_;rintro e w1' ⟨rfl,rfl⟩;rw[HV1.X]))
   generalize w1'=w1 at*;rename_i Kx hKx;have htl:([]:List Int).length=0:=rfl;have HTL:Hid _:=htl;clear htl
   have key:∀(gb g cg kb:Nat) (W:zg),OX w W w1.heap.size kb #[zc zb n,za a zs.length cap,za ao ko co,za av kv cv,zc zb fine] #[zc zb veh,za none 0 0] #[zc zb 0,za none 0 0] veh (za (some ⟨g,0,none⟩) 0 cg) ([]:List Int)->Kx {tmps:=#[.agg #[zc zb n,za a zs.length cap,za ao ko co,za av kv cv,zc zb fine],.agg #[zc zb veh,za none 0 0],zc zb id,zc zb 0,.pointer (some ⟨w.heap.size,0,none⟩),.pointer (some ⟨w.heap.size+1,0,none⟩),undef,undef,.pointer (some ⟨w.heap.size+1+1,0,none⟩),zc zb 0,.bool false,.pointer (some ⟨kb,0,none⟩),.agg #[zc zb n,za a zs.length cap,za ao ko co,za av kv cv,zc zb fine],.agg #[zc zb veh,za none 0 0],.bool true,.bool false,.bool false,zc zb 0,.pointer (some ⟨w.heap.size+1,1,none⟩),za none 0 0,zc zb 0,.bool true,.bool false,.bool false,undef,.pointer (some ⟨w.heap.size+1,0,none⟩),zc zb veh,za (some ⟨gb,0,none⟩) 0 0,.pointer (some ⟨w.heap.size+1,1,none⟩),za none 0 0,zc zb 0,za none 0 0,za (some ⟨g,0,none⟩) 0 cg,.agg #[zc zb veh,za (some ⟨g,0,none⟩) 0 cg],undef,undef,undef,undef,undef,undef,undef,undef,undef,undef,undef,undef,undef,undef,undef,undef,undef,undef,undef,undef,undef,undef,undef,undef,undef,undef,undef],defers:=[]} W:=by
    intro gb g cg kb W hT;have T0:=za4 hT;clear hT d0 d1 C1;apply hKx;clear hKx;obtain⟨e0,e1⟩:=za1 T0.X.2.1;obtain⟨d0,d1⟩:=za1 T0.X.c.1.2.2;have ef:=fun i=>yU _ _ i _ _ T0.X.2.1;have hk1:(W.alloc (zd #[zc zb id] 2)).heap[W.heap.size]? =some (zd #[zc zb id] 2 (0,0)):=zN _ _;have TA:Hid (OX w (W.alloc (zd #[zc zb id] 2)) w1.heap.size kb _ _ _ veh (za (some ⟨g,0,none⟩) 0 cg) ([]:List Int)):=T0.X.below (zK _)
    go_wp2_with(first
     |(at_builtin
       refine zD7 _ rfl _ _ rfl w1.heap.size (za (some ⟨g,0,none⟩) 0 cg) 0 ([]:List Int) rfl (y08 TA.X.o HTL.X) W.heap.size 1 id rfl (zR _ _ 0 _ _ _ hk1) (by omega) TA.X.size ?_;intro v' w2 ho hg hn;obtain⟨g1,cg1,rfl⟩:∃g cg,v'=za (some ⟨g,0,none⟩) 1 cg:=z94 ho (fun e=>by simpa using(hn.1 e).1) rfl;have T1:Hid (OX w (w2.setCell ⟨kb,1,none⟩ (za (some ⟨g1,0,none⟩) 1 cg1)) w1.heap.size kb _ _ _ veh (za (some ⟨g1,0,none⟩) 1 cg1) [id]):=TA.X.grow hg ho;obtain⟨kS,f1,ff⟩:=TA.X.keep hg;clear ho hg hn e0 e1 ef))
    clear kS f1 ff hk1 TA T0 d0 d1;generalize(w2.setCell ⟨kb,1,none⟩ (za (some ⟨g1,0,none⟩) 1 cg1))=W1 at*;have HCh':Hid (chB (zc8 n zs os vs ko kv fine) n zs os vs ko kv veh [] (inB 0 0 0) [id]=ch):=HCh.X;have HD':Hid (chD ch n zs os vs ko kv veh [] [id]=D):=HD.X;have HXs':Hid (chL ch [id]=xs):=HXs.X;clear HCh HD HXs;obtain⟨hcg1,_⟩:=yv6 T1.X.o;obtain⟨e0,e1⟩:=za1 T1.X.2.1;obtain⟨d0,d1⟩:=za1 T1.X.c.1.2.2;have ef:=fun i=>yU _ _ i _ _ T1.X.2.1;have hne:w.heap.size+1≠kb:=by have:=T1.X.2.2.1;have:=T1.X.2.2.2.1;omega
    go_region_law ((first
     |(refine zo1 (w:=W1.drew) rfl (.tmp 41) (.tmp 45) rfl g1 1 cg1 rfl rfl hcg1 ?_
       intro w2 hw2;have hgr:World.grownBy W1.drew w2 (za (some ⟨g1,0,none⟩) 1 cg1).ownBlock:=hw2▸xT _ _;have hgo:=hw2▸T1.X.drew.o;clear hw2;have T2:Hid (OX w (w2.setCell ⟨kb,1,none⟩ (za (some ⟨g1,0,none⟩) 1 cg1)) w1.heap.size kb _ _ _ veh (za (some ⟨g1,0,none⟩) 1 cg1) [id]):=T1.X.drew.grow hgr hgo;obtain⟨kS,f1,ff⟩:=T1.X.drew.keep hgr;clear hgr hgo)))
    all_goals
     clear kS f1 ff e0 e1 d0 d1 ef T1;have HCh:Hid _:=HCh'.X;have HD:Hid _:=HD'.X;have HXs:Hid _:=HXs'.X;clear HCh' HD' HXs';generalize(w2.setCell ⟨kb,1,none⟩ (za (some ⟨g1,0,none⟩) 1 cg1))=W2 at*;obtain⟨o2,HO2⟩:=nmd (decide (codeV (zc8 n zs os vs ko kv fine) n zs os vs ko kv veh ([id]:List Int)=0));obtain⟨hcg,hli'⟩:=yv6 T2.X.o;obtain⟨c0,c1,c2',c3,c4⟩:=za7 T2.X.c.1.2.1;obtain⟨e0,e1⟩:=za1 T2.X.2.1
     go_wp2_with fail
     clear c0 c1 c2' c3 c4 e0 e1;refine(z62 n fine veh a ao av (some ⟨g1,0,none⟩) cap ko co kv cv cg1 zs os vs ([id]:List Int) _ (HA.X.below T2.X.b) (HO.X.below T2.X.b) (HV.X.below T2.X.b) (ze9 T2.X.o) HLO.X HLV.X hko hkv hli' hcg o2 HO2.X).mono ?_;rintro e w3 ⟨rfl,hb⟩;have T3:=za4 (T2.X.below hb);have C3:Hid (CRR w w3 _ _ _):=T3.X.c;clear hb T2;cases o2
     ·have HCH:Hid (ch=false):=HCh.X.symm.trans (yc4 _ (qC HO2.X))
      have HX:Hid (xs=[]):=HXs.X.symm.trans (by rw[HCH.X];rfl);have HDD:Hid (D=0):=HD.X.symm.trans (by rw[HCH.X];rfl);obtain⟨t0,t1⟩:=za1 C3.X.2;have tf:=fun i=>yU _ _ i _ _ C3.X.2;go_wp2;refine yX (v:=.tuple #[.agg #[zc zb 0,za none 0 0],zc zb 0,.bool false]) (by simp[results,q7,go_sem,t0,t1]) rfl ⟨?_,none,0,?_,?_⟩
      ·repeat(first|with_reducible exact C3.X.b|refine xd ?_ (by simp<;>omega) _)
      ·rw[HCH.X,HDD.X,HX.X];rfl
      ·rw[HX.X];exact qP _ _ _ _
     ·have hz2:=zX HO2.X
      have HZ2:Hid _:=hz2;have HCH:Hid (ch=true):=HCh.X.symm.trans (yf0 HZ1.X HV1.X hz2);have HX:Hid (xs=([id]:List Int)):=HXs.X.symm.trans (by rw[HCH.X];rfl);have hmat:=(zb3 (zG8 hz2)).1;have hq1:=zw2 hmat (zd1 os ko ([]:List Int)) ([]:List Int).length (zk7 HZ1.X) (zc2 vs kv veh 1);have hq2:=zw2 hmat (zd1 os ko ([id]:List Int)) ([id]:List Int).length (zk7 hz2) (zc2 vs kv veh 1);have HDD:=HD.X.symm.trans (ys4 HCH.X HZ1.X hz2);obtain⟨q1,HQ1⟩:=nmd (zr1 n zs (zd1 os ko ([]:List Int)) ([]:List Int).length (zc2 vs kv veh 1));obtain⟨q2,HQ2⟩:=nmd (zr1 n zs (zd1 os ko ([id]:List Int)) ([id]:List Int).length (zc2 vs kv veh 1));rw[HQ1.X]at hq1 HDD;rw[HQ2.X]at hq2 HDD;have HDE:=za4 HDD;have hwr2:IntKind.i64.wrap (q2 - q1)=q2 - q1:=qB _ (by omega);clear hz2 hmat HDD hq1 hq2;have HC1:Hid (∀W,Below w3.heap.size w3 W->Calls ze 89 #[.agg #[zc zb n,za a zs.length cap,za ao ko co,za av kv cv,zc zb fine],.agg #[zc zb veh,za none 0 0]] W fun e w'=>e=.returned (zc zb q1)/\Below W.heap.size W w'):=fun W hW=>
       HQ1.X▸zt9 n fine veh a ao av _ cap ko co kv cv 0 zs os vs [] W ((HA.X.below C3.X.b).below hW) ((HO.X.below C3.X.b).below hW) ((HV.X.below C3.X.b).below hW) ((HI.X.below C3.X.b).below hW) HLO.X HLV.X hko hkv hli HZ1.X
      have HC2:Hid (∀W,Below w3.heap.size w3 W->Calls ze 89 #[.agg #[zc zb n,za a zs.length cap,za ao ko co,za av kv cv,zc zb fine],.agg #[zc zb veh,za (some ⟨g1,0,none⟩) 1 cg1]] W fun e w'=>e=.returned (zc zb q2)/\Below W.heap.size W w'):=fun W hW=>
       by
        have:=zt9 n fine veh a ao av _ cap ko co kv cv cg1 zs os vs ([id]:List Int) W ((HA.X.below C3.X.b).below hW) ((HO.X.below C3.X.b).below hW) ((HV.X.below C3.X.b).below hW) ((ze9 T3.X.o).below hW) HLO.X HLV.X hko hkv hli' HZ2.X;rw[HQ2.X]at this;exact this
      go_wp2_with fail
      have kS:=ox9 T3.X.drew
      go_region_held3 (fun W=>W.cell? ⟨w.heap.size,0,none⟩=some (zc zb n)/\W.cell? ⟨w.heap.size,1,none⟩=some (za a zs.length cap)/\W.cell? ⟨w.heap.size,2,none⟩=some (za ao ko co)/\W.cell? ⟨w.heap.size,3,none⟩=some (za av kv cv)/\W.cell? ⟨w.heap.size,4,none⟩=some (zc zb fine)/\W.cell? ⟨w.heap.size+1,0,none⟩=some (zc zb veh)/\W.cell? ⟨w.heap.size+1,1,none⟩=some (za none 0 0)/\W.cell? ⟨kb,0,none⟩=some (zc zb veh)/\W.cell? ⟨kb,1,none⟩=some (za (some ⟨g1,0,none⟩) 1 cg1)) (first|with_reducible exact kS|with_reducible exact yL8 T6.X _ _) ((first
       |(go_at_call 89
         with_reducible refine(HC2.X w3.drew (yV _ _).drew).mono ?_
         rintro e w5 ⟨rfl,hb⟩;have T5:=za4 (T3.X.drew.below hb);have B5:Hid (Below w3.heap.size w3 w5):=(yV _ _).drew.trans (hb.mono (zQ _));have kS:=ox9 T5.X;clear hb)
       |(go_at_call 89
         with_reducible refine(HC1.X w5 B5.X).mono ?_
         rintro e w6 ⟨rfl,hb⟩;have T6:=za4 (T5.X.below hb);have kS:=ox9 T6.X;obtain⟨t0,t1⟩:=za1 T6.X.c.2;have tf:=fun i=>yU _ _ i _ _ T6.X.c.2;clear hb)))
      all_goals
       clear kS;go_wp2;refine yX (v:=.tuple #[.agg #[zc zb veh,za (some ⟨g1,0,none⟩) 1 cg1],zc zb (q2 - q1),.bool true]) (by simp[results,q7,go_sem,t0,t1]) rfl ⟨?_,some ⟨g1,0,none⟩,cg1,?_,?_⟩
       ·repeat(first|with_reducible exact T6.X.b|refine xd ?_ (by simp<;>omega) _)
       ·rw[HCH.X,HDE.X,HX.X];rfl
       ·rw[HX.X];exact zc4 (zm5 (zm5 T6.X.o T6.X.2.2.2.1) T6.X.2.2.2.1) (by have:=T6.X.2.2.2.1;omega)
   have ne1:w.heap.size+1≠w1.heap.size:=by have:=C1.X.big;omega
   have ne2:w.heap.size+1≠w1.heap.size+1:=by have:=C1.X.big;omega
   go_region_held3 (fun W=>W.cell? ⟨w.heap.size+1,0,none⟩=some (zc zb veh)/\W.cell? ⟨w.heap.size+1,1,none⟩=some (za none 0 0)) (first
    |with_reducible exact kS
    |with_reducible exact⟨za5 (za5 kS.1 ne2) ne2,za5 (za5 kS.2 ne2) ne2⟩
    |with_reducible exact⟨za5 (za5 kS.1 ne1) ne1,za5 (za5 kS.2 ne1) ne1⟩
    |with_reducible exact⟨zW1 kS.1 (by repeat(first|with_reducible exact yV _ _|with_reducible refine Below.drew ?_|with_reducible refine xy ?_ (by simp<;>omega) _|with_reducible refine xd ?_ (by simp<;>omega) _)),zW1 kS.2 (by repeat(first|with_reducible exact yV _ _|with_reducible refine Below.drew ?_|with_reducible refine xy ?_ (by simp<;>omega) _|with_reducible refine xd ?_ (by simp<;>omega) _))⟩
    |with_reducible exact⟨zW1 d0 (by repeat(first|with_reducible exact yV _ _|with_reducible refine Below.drew ?_|with_reducible refine xy ?_ (by simp<;>omega) _|with_reducible refine xd ?_ (by simp<;>omega) _)),zW1 d1 (by repeat(first|with_reducible exact yV _ _|with_reducible refine Below.drew ?_|with_reducible refine xy ?_ (by simp<;>omega) _|with_reducible refine xd ?_ (by simp<;>omega) _))⟩) ((first
    |(refine zo1 (w:=(w1.alloc (zd #[] 2)).drew) rfl (.tmp 27) (.tmp 31) rfl w1.heap.size 0 0 rfl rfl (zQ _) ?_
      intro w2 hw2;have HG2:Hid (World.grownBy (w1.alloc (zd #[] 2)).drew w2 (some w1.heap.size)):=hw2▸xT _ _;have HO2:Hid (zk w2 w1.heap.size 2 1 (za (some ⟨w1.heap.size,0,none⟩) 0 0) ([]:List Int).length (([]:List Int).map (zc zb))):=hw2▸(yJ8 w1);clear hw2;have kS:=zn5 HG2.X (C1.X.alloc _).drew (fun q e=>by have:=C1.X.big;simp at e;omega))
    |(refine zo1 (w:=((w1.alloc (zd #[] 2)).alloc (zd #[zc zb 0,za none 0 0] 80)).drew) rfl (.tmp 27) (.tmp 31) rfl w1.heap.size 0 0 rfl rfl (zQ _) ?_
      intro w2 hw2;have HG2:Hid (World.grownBy ((w1.alloc (zd #[] 2)).alloc (zd #[zc zb 0,za none 0 0] 80)).drew w2 (some w1.heap.size)):=hw2▸xT _ _;have HO2:Hid (zk w2 w1.heap.size 2 1 (za (some ⟨w1.heap.size,0,none⟩) 0 0) ([]:List Int).length (([]:List Int).map (zc zb))):=hw2▸(yG9 w1 _);clear hw2;have kS:=zn5 HG2.X ((C1.X.alloc _).alloc _).drew (fun q e=>by have:=C1.X.big;simp at e;omega);obtain⟨z0,z1⟩:=za1 (yK2 HG2.X);have zf:=fun i=>yU _ _ i _ _ (yK2 HG2.X))
    |(refine zo1 (w:=((w1.alloc (zd #[zc zb 0,za none 0 0] 80)).alloc (zd #[] 2)).drew) rfl (.tmp 27) (.tmp 31) rfl (w1.heap.size+1) 0 0 rfl rfl (zQ _) ?_
      intro w2 hw2;have HG2:Hid (World.grownBy ((w1.alloc (zd #[zc zb 0,za none 0 0] 80)).alloc (zd #[] 2)).drew w2 (some (w1.heap.size+1))):=hw2▸xT _ _;have HO2:Hid (zk w2 w1.heap.size 2 1 (za (some ⟨(w1.heap.size+1),0,none⟩) 0 0) ([]:List Int).length (([]:List Int).map (zc zb))):=hw2▸(yI4 w1 _);clear hw2;have kS:=zn5 HG2.X ((C1.X.alloc _).alloc _).drew (fun q e=>by have:=C1.X.big;simp at e;omega);obtain⟨z0,z1⟩:=za1 (yK1 HG2.X);have zf:=fun i=>yU _ _ i _ _ (yK1 HG2.X))))
   ·exact key _ _ _ _ _ (OX.newa C1.X HG2.X HO2.X)
   ·exact key _ _ _ _ _ (OX.newb C1.X HG2.X HO2.X)
   ·exact key _ _ _ _ _ (OX.newc C1.X HG2.X HO2.X)
theorem zB1(n fine veh:Int)(a ao av:Option Addr)(bi:Option Addr)(cap ko co kv cv c2:Nat)(zs os vs ids:List Int)(w:zg)(hA:za3 w a zs)(hO:za3 w ao os)(hV:za3 w av vs)(hI:za3 w bi ids)(hlo:os.length=ko*6)(hlv:vs.length=kv*5)(hko:ko<=9223372036854775807)(hkv:kv<=9223372036854775807)(hli:ids.length<=9223372036854775807)(hc2:ids.length<=c2)(hbi:(bi=none/\ids=[]/\c2=0)∨∃g,bi=some ⟨g,0,none⟩)(id x:Int)(ch:Bool)(hch:chB (zc8 n zs os vs ko kv fine) n zs os vs ko kv veh ids (inB x 0 (ids.length:Int)) (insL ids x.toNat id)=ch)(D:Int)(hD:chD ch n zs os vs ko kv veh ids (insL ids x.toNat id)=D)(xs:List Int)(hxs:chL ch (insL ids x.toNat id)=xs):
 Calls ze 71 #[.agg #[zc zb n,za a zs.length cap,za ao ko co,za av kv cv,zc zb fine],.agg #[zc zb veh,za bi ids.length c2],zc zb id,zc zb x] w (yo4 w ch veh D xs):=by
 rcases hbi with⟨rfl,rfl,rfl⟩|⟨g,rfl⟩
 ·exact zw7 n fine veh a ao av cap ko co kv cv zs os vs w hA hO hV hlo hlv hko hkv id x ch hch D hD xs hxs
 ·exact zw9 n fine veh a ao av g 0 cap ko co kv cv c2 zs os vs ids w hA hO hV hI hlo hlv hko hkv hli hc2 id x ch hch D hD xs hxs
theorem z80(n fine veh:Int)(a ao av:Option Addr)(bi:Option Addr)(cap ko co kv cv c2:Nat)(zs os vs ids:List Int)(w:zg)(hA:za3 w a zs)(hO:za3 w ao os)(hV:za3 w av vs)(hI:za3 w bi ids)(hlo:os.length=ko*6)(hlv:vs.length=kv*5)(hko:ko<=9223372036854775807)(hkv:kv<=9223372036854775807)(hli:ids.length<=1048576)(hc2:ids.length<=c2)(hbi:(bi=none/\ids=[]/\c2=0)∨∃g,bi=some ⟨g,0,none⟩)(id:Int)(s0:PS)(hs0:bpV (zc8 n zs os vs ko kv fine) n zs os vs ko kv veh ids id=s0):
 Calls ze 132 #[.agg #[zc zb n,za a zs.length cap,za ao ko co,za av kv cv,zc zb fine],.agg #[zc zb veh,za bi ids.length c2],zc zb id] w fun e w'=>e=.returned (.tuple #[zc zb (s0.i:Int),zc zb s0.v,.bool s0.f])/\Below w.heap.size w w':=by
 have HA:=za4 hA;have HO:=za4 hO;have HV:=za4 hV;have HI:=za4 hI;have HLO:Hid _:=hlo;have HLV:Hid _:=hlv;have HBI:=za4 hbi;clear hA hO hV hI hlo hlv hbi;have HS0:=za4 hs0;clear hs0;have C0:Hid (CR w ((w.alloc (zd #[zc zb n,za a zs.length cap,za ao ko co,za av kv cv,zc zb fine] 30)).alloc (zd #[zc zb veh,za bi ids.length c2] 80)) _ _):=CR.new w _ _;obtain⟨ok,HOK⟩:=nmd (plB (zc8 n zs os vs ko kv fine) n zs os vs ko kv veh ids id);obtain⟨dl,HDL⟩:=nmd (plD (zc8 n zs os vs ko kv fine) n zs os vs ko kv veh ids id);have HF:Hid (pst ok dl (ids.length+1)=s0):=by
  show pst ok dl (ids.length+1)=s0;rw[<-HS0.X,<-HOK.X,<-HDL.X];rfl
 clear HS0;go_enter Tryz.func132,Tryz.ntmps132
 go_wp2_with fail
 go_loopw[9,10,11,12] (fun ta tv tf t wr=>∃i:Nat,i<=ids.length+1/\t=zc zb i/\ta=zc zb ((pst ok dl i).i:Int)/\tv=zc zb (pst ok dl i).v/\tf=.bool (pst ok dl i).f/\CR w wr #[zc zb n,za a zs.length cap,za ao ko co,za av kv cv,zc zb fine] #[zc zb veh,za bi ids.length c2]) (fun _ _ _ t _=>ids.length+1 - (intOf t).toNat)
 case atStart=>exact⟨0,yZ _,rfl,rfl,rfl,rfl,C0.X⟩
 case round=>
  clear C0;obtain⟨i,hi,rfl,rfl,rfl,rfl,hC⟩:=hrel;have C1:=za4 hC;clear hC;obtain⟨d0,d1⟩:=za1 C1.X.2.2;by_cases hlt:i<=ids.length
  ·have h1:(i:Int)<=(ids.length:Int):=by omega
   have hwr:IntKind.i64.wrap ((i:Int)+1)=((i+1:Nat):Int):=by rw[qB _ (by omega)];omega
   have HN:Hid (pst ok dl (i+1)=zO6 ok dl (pst ok dl i) i):=rfl;obtain⟨s,HS⟩:=nmd (pst ok dl i);rw[HS.X]at HN⊢;obtain⟨sf,si,sv⟩:=s;simp only at HN⊢;obtain⟨ch,HCH⟩:=nmd (ok i);obtain⟨D,HDD⟩:=nmd (dl i);obtain⟨c0,c1,c2',c3,c4⟩:=za7 C1.X.2.1;obtain⟨xs,HXX⟩:=nmd (chL ch (insL ids i id))
   go_wp2_with fail
   clear c0 c1 c2' c3 c4 d0 d1;refine(zB1 n fine veh a ao av bi cap ko co kv cv c2 zs os vs ids wr (HA.X.below C1.X.1) (HO.X.below C1.X.1) (HV.X.below C1.X.1) (HI.X.below C1.X.1) HLO.X HLV.X hko hkv (by omega) hc2 HBI.X id (i:Int) ch (by rw[<-HCH.X,<-HOK.X];rfl) D (by rw[<-HDD.X,<-HDL.X,<-HCH.X,<-HOK.X];rfl) xs HXX.X).mono ?_;rintro e w2 ⟨hb,ad,c,rfl,_⟩;obtain⟨vv,HVV⟩:=nmd (chI ch veh);rw[HVV.X];have C3:Hid (CR w (w2.alloc (zd #[zc zb vv,za ad xs.length c] 80)) _ _):=(C1.X.below hb).alloc _;clear hb;cases ch
   ·have HN':Hid (pst ok dl (i+1)=⟨sf,si,sv⟩):=HN.X.trans (zZ7 HCH.X)
    go_wp2;go_roundw
    case rel=>exact⟨i+1,by omega,by first|rfl|go_num,by rw[HN'.X],by rw[HN'.X],by rw[HN'.X],C3.X⟩
    case measure=>simp[intOf];omega
   ·cases sf
    ·have HN':Hid (pst ok dl (i+1)=⟨true,i,D⟩):=HN.X.trans (by rw[<-HDD.X];exact yy1 HCH.X rfl)
     go_wp2;go_roundw
     case rel=>exact⟨i+1,by omega,by first|rfl|go_num,by rw[HN'.X],by rw[HN'.X],by rw[HN'.X],C3.X⟩
     case measure=>simp[intOf];omega
    ·by_cases hdv:D<sv
     ·have HN':Hid (pst ok dl (i+1)=⟨true,i,D⟩):=HN.X.trans (by rw[<-HDD.X];exact y01 HCH.X (by rw[HDD.X];exact hdv))
      go_wp2;go_roundw
      case rel=>exact⟨i+1,by omega,by first|rfl|go_num,by rw[HN'.X],by rw[HN'.X],by rw[HN'.X],C3.X⟩
      case measure=>simp[intOf];omega
     ·have HN':Hid (pst ok dl (i+1)=⟨true,si,sv⟩):=HN.X.trans (ys6 rfl (by rw[HDD.X];exact hdv))
      go_wp2;go_roundw
      case rel=>exact⟨i+1,by omega,by first|rfl|go_num,by rw[HN'.X],by rw[HN'.X],by rw[HN'.X],C3.X⟩
      case measure=>simp[intOf];omega
  ·have hie:i=ids.length+1:=by omega
   have h1:¬((i:Int)<=(ids.length:Int)):=by omega
   have HFi:Hid (pst ok dl i=s0):=by
    show pst ok dl i=s0;rw[hie];exact HF.X
   rw[HFi.X];clear hie HFi;go_wp2
   go_ret3
   exact⟨rfl,C1.X.1⟩
