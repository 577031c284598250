import Derived.Test.YtkchnomkiboihaaGreatSpecOne
set_option maxHeartbeats 4000000
namespace Go.Proofs.YtkchnomkiboihaaGreat
open Value renaming slice→za,int→zc
open IntKind renaming i64→zb
open Obj renaming cells→zd
open Go renaming World→zg
open List renaming length→zj
open Go.RowKit
open Q
def y05(W:zg)(k:Nat):Nat:=match W.cell? ⟨k,1,none⟩with
 |some (za _ n _)=>n
 |_=>0
theorem yb9{w:zg}{base size n rc k:Nat}{e:TypeId}{ra:Option Addr}{xs:List Value}(h:w.ownsRow base e size (za ra n rc) n xs)(hk:k<base):∀b off,ra=some ⟨b,off,none⟩->b≠k:=fun b off e9=>by
 rcases own_kinds h with⟨e1,_⟩|⟨g,c,e1,h2,_⟩
 ·simp only[xW]at e1
  rw[e1.1]at e9;cases e9
 ·simp only[xW]at e1
  rw[e1.1]at e9;simp only[xV,xZ,qb]at e9;omega
theorem PO.is{w:zg}{base rn rc ln lc:Nat}{ra la:Option Addr}{S:List RT}{L:List Int}(h:PO w base (za ra rn rc) S (za la ln lc) L)(hn:S.length=rn)(hl:L.length=ln):zb8 w ra la rn ln S L:=by
 have hr:=h.r;have h2:=h.l;rw[hn]at hr;rw[hl]at h2;exact⟨hn,hl,zm1 hr (fun s hs=>(h.ints s hs).1),zj8 h2,z76 hr,z76 h2,fun r hr=>(h.ints r hr).2⟩
theorem PO.off{w:zg}{base rn rc ln lc k:Nat}{ra la:Option Addr}{S:List RT}{L:List Int}(h:PO w base (za ra rn rc) S (za la ln lc) L)(hn:S.length=rn)(hl:L.length=ln)(hk:k<base):Off k ra la S:=by
 have hr:=h.r;have h2:=h.l;rw[hn]at hr;rw[hl]at h2;exact⟨yb9 hr hk,yb9 h2 hk,fun s hs=>yb9 (h.s s hs) hk⟩
theorem PO.ad{w:zg}{base:Nat}{rs ls:Value}{S:List RT}{L:List Int}(h:PO w base rs S ls L)(hi:∀s∈S,s.ids≠[]):∀s∈S,∃g,s.a=some ⟨g,0,none⟩:=fun s hs=>by
 rcases own_kinds (h.s s hs)with⟨_,h0⟩|⟨g,c,e1,_,_⟩
 ·exact absurd (qK.1 h0) (hi s hs)
 ·simp only[xW]at e1
  exact⟨g,e1.1⟩
def yg1(w:zg)(T:List RT)(L:List Int)(e:Ending)(w':zg):Prop:=∃ra rn rc gl ln lc S,e=.returned (.agg #[za ra rn rc,za (some ⟨gl,0,none⟩) ln lc])/\Below w.heap.size w w'/\S.length=rn/\L.length=ln/\S.map RT.key=T.map RT.key/\PO w' w.heap.size (za ra rn rc) S (za (some ⟨gl,0,none⟩) ln lc) L
set_option maxRecDepth 10000 in
theorem zW0(n fine:Int)(a ao ra:Option Addr)(zl cap ko co bv ov kv cv nr rc bl ol ln lc:Nat)(zs os vs L:List Int)(R:List RT)(w:zg)(hA:za3 w a zs)(hO:za3 w ao os)(hV:za3 w (some ⟨bv,ov,none⟩) vs)(hlz:zs.length=zl)(hlo:os.length=ko*6)(hlv:vs.length=kv*5)(hko:ko<=12)(hkv:kv<=5)(hcB:zc8 n zs os vs ko kv fine=true)(hP:zb8 w ra (some ⟨bl,ol,none⟩) nr ln R L)(hn:nr<=12)(hln:ln<=12)(hS:zg1 R)(hi:zx3 R)(had:∀r∈R,∃g,r.a=some ⟨g,0,none⟩)(hof:∀k,w.heap.size<=k->Off k ra (some ⟨bl,ol,none⟩) R):
 Calls Tryz.prog 44 #[.agg #[zc zb n,za a zl cap,za ao ko co,za (some ⟨bv,ov,none⟩) kv cv,zc zb fine],.agg #[za ra nr rc,za (some ⟨bl,ol,none⟩) ln lc]] w (yg1 w (grd n fine zs os vs ko kv L.length R L).1 (grd n fine zs os vs ko kv L.length R L).2):=by
 have HA:=za4 hA;have HO:=za4 hO;have HV:=za4 hV;have HLZ:=za4 hlz;have HLO:=za4 hlo;have HLV:=za4 hlv;have HCB:=za4 hcB;have HP:=za4 hP;have HS:=za4 hS;have HI:=za4 hi;have HAD:=za4 had;have HOF:=za4 hof;clear hA hO hV hlz hlo hlv hcB hP hS hi had hof;obtain⟨TR,HTR⟩:=nmd ((grd n fine zs os vs ko kv L.length R L).1);obtain⟨TL,HTL⟩:=nmd ((grd n fine zs os vs ko kv L.length R L).2);rw[HTR.X,HTL.X];have Q0:Hid (GQ w (((w.alloc (zd #[zc zb n,za a zl cap,za ao ko co,za (some ⟨bv,ov,none⟩) kv cv,zc zb fine] 30)).alloc (zd #[za ra nr rc,za (some ⟨bl,ol,none⟩) ln lc] 33)).alloc (zd #[za none 0 0,za none 0 0] 33)) #[zc zb n,za a zl cap,za ao ko co,za (some ⟨bv,ov,none⟩) kv cv,zc zb fine] #[za ra nr rc,za (some ⟨bl,ol,none⟩) ln lc]):=by
  refine⟨((zK _).alloc (by simp) _).alloc (by simp;omega) _,?_,?_,?_⟩
  ·exact(yY _ _ (by simp;omega)).trans (xb _ _ _)
  ·exact(yY _ _ (by simp)).trans (y8 _ _ _)
  ·have:=zN ((w.alloc (zd #[zc zb n,za a zl cap,za ao ko co,za (some ⟨bv,ov,none⟩) kv cv,zc zb fine] 30)).alloc (zd #[za ra nr rc,za (some ⟨bl,ol,none⟩) ln lc] 33)) (zd #[za none 0 0,za none 0 0] 33)
   simpa using this
 have HP0:=za4 (HP.X.below Q0.X.b);go_enter Tryz.func44,Tryz.ntmps44
 go_wp2_with fail
 generalize((w.alloc (zd #[zc zb n,za a zl cap,za ao ko co,za (some ⟨bv,ov,none⟩) kv cv,zc zb fine] 30)).alloc (zd #[za ra nr rc,za (some ⟨bl,ol,none⟩) ln lc] 33)).alloc (zd #[za none 0 0,za none 0 0] 33)=W0 at*;go_loopw[6] (fun _ wr=>∃(ra9:Option Addr) (rn9 rc9 bl9 ol9 ln9 lc9:Nat) (R9:List RT) (L9:List Int),GQ w wr #[zc zb n,za a zl cap,za ao ko co,za (some ⟨bv,ov,none⟩) kv cv,zc zb fine] #[za ra9 rn9 rc9,za (some ⟨bl9,ol9,none⟩) ln9 lc9]/\zb8 wr ra9 (some ⟨bl9,ol9,none⟩) rn9 ln9 R9 L9/\Off (w.heap.size+1) ra9 (some ⟨bl9,ol9,none⟩) R9/\(∀r∈R9,∃g,r.a=some ⟨g,0,none⟩)/\rn9+ln9<=24/\ln9<=12/\zg1 R9/\zx3 R9/\(grd n fine zs os vs ko kv L9.length R9 L9).1.map RT.key=TR.map RT.key/\(grd n fine zs os vs ko kv L9.length R9 L9).2=TL) (fun _ wr=>y05 wr (w.heap.size+1))
 case atStart=>exact⟨ra,nr,rc,bl,ol,ln,lc,R,L,Q0.X,HP0.X,HOF.X _ (by omega),HAD.X,by omega,hln,HS.X,HI.X,by rw[HTR.X],HTL.X⟩
 case round=>
  clear Q0 HP0 HP HS HI HOF HAD;obtain⟨ra9,rn9,rc9,bl9,ol9,ln9,lc9,R9,L9,hq,hp,ho1,had,h24,h12,hs,hi,ht1,ht2⟩:=hrel;have Q1:=za4 hq;have P1:=za4 hp;have S1:=za4 hs;have I1:=za4 hi;obtain⟨c0,c1,c2,c3,c4⟩:=za7 Q1.X.c;obtain⟨p0,p1⟩:=za1 Q1.X.p;have HLN:Hid (y05 wr (w.heap.size+1)=ln9):=by show _=_;unfold y05;rw[p1]
  have G1:=yz7 n fine a ao ra9 zl cap ko co bv ov kv cv rn9 rc9 bl9 ol9 ln9 lc9 zs os vs L9 R9 wr (HA.X.below Q1.X.b) (HO.X.below Q1.X.b) (HV.X.below Q1.X.b) HLZ.X HLO.X HLV.X hko hkv HCB.X P1.X.2.2.1 P1.X.1 (by omega) P1.X.2.2.2.1 P1.X.2.1 h12 S1.X I1.X had;have hmore:=ym0 n fine zs os vs ko kv (R:=R9) (L:=L9);have hless:=fun h=>z01 n fine zs os vs ko kv (R:=R9) (L:=L9) h;have hin:=y96 (n:=n) (fine:=fine) (zs:=zs) (os:=os) (vs:=vs) (ko:=ko) (kv:=kv) (L:=L9) I1.X (by rw[P1.X.1];omega) (by rw[P1.X.2.1];omega);have hris:=zZ2 n fine zs os vs ko kv (L:=L9) S1.X;rw[P1.X.1]at hmore;rw[P1.X.2.1]at hless;obtain⟨f,HFF⟩:=nmd ((zy3 n fine zs os vs ko kv R9 L9).f);obtain⟨RX,HRX⟩:=nmd (zB8 n fine zs os vs ko kv R9 L9);obtain⟨LX,HLX⟩:=nmd (zD2 n fine zs os vs ko kv R9 L9);have HST:Hid (f=true->(grd n fine zs os vs ko kv LX.length RX LX).1.map RT.key=TR.map RT.key/\(grd n fine zs os vs ko kv LX.length RX LX).2=TL/\LX.length<ln9):=fun h=>by
   rw[yk7 n fine zs os vs ko kv (HFF.X.trans h),HRX.X,HLX.X]at ht1 ht2;exact⟨ht1,ht2,by rw[<-HLX.X];exact hless (HFF.X.trans h)⟩
  have HSF:Hid (f=false->R9.map RT.key=TR.map RT.key/\L9=TL):=fun h=>by
   rw[yl4 n fine zs os vs ko kv (HFF.X.trans h)]at ht1 ht2;exact⟨ht1,ht2⟩
  rw[HFF.X,HRX.X,HLX.X]at G1;rw[HRX.X]at hin hris hmore;have HMR:=za4 hmore;have HIN:Hid (∀r∈RX,r.ids≠[]/\r.ids.length<=12):=hin.1;have HRI:=za4 hris;clear hq hp hs hi ht1 ht2 hmore hless hin hris had ho1 HFF HRX HLX
  go_wp2_with fail
  refine G1.mono ?_;rintro e w2 ⟨ra2,rn2,rc2,gl2,ln2,lc2,S2,rfl,hb,hsl,hll,hk2,hpo⟩;have hsz:=Q1.X.size;have Q2:=za4 (Q1.X.below hb);have P2:=za4 (P1.X.below hb);have O2:=za4 hpo;have HN2:=za4 hsl;have HL2:=za4 hll;have HK2:=za4 hk2;have HSZ:=za4 hsz;clear hb hpo hsl hll hk2 G1 c0 c1 c2 c3 c4 p0 p1 Q1 P1 hsz;have QA:Hid (GQ w (w2.alloc (zd #[za ra2 rn2 rc2,za (some ⟨gl2,0,none⟩) ln2 lc2] 33)) #[zc zb n,za a zl cap,za ao ko co,za (some ⟨bv,ov,none⟩) kv cv,zc zb fine] #[za ra9 rn9 rc9,za (some ⟨bl9,ol9,none⟩) ln9 lc9]):=Q2.X.below (zK _);have PA:Hid (zb8 (w2.alloc (zd #[za ra2 rn2 rc2,za (some ⟨gl2,0,none⟩) ln2 lc2] 33)) ra9 (some ⟨bl9,ol9,none⟩) rn9 ln9 R9 L9):=P2.X.below (zK _);have OA:Hid (PO (w2.alloc (zd #[za ra2 rn2 rc2,za (some ⟨gl2,0,none⟩) ln2 lc2] 33)) wr.heap.size (za ra2 rn2 rc2) S2 (za (some ⟨gl2,0,none⟩) ln2 lc2) LX):=O2.X.below (zK _);have NA:Hid ((w2.alloc (zd #[za ra2 rn2 rc2,za (some ⟨gl2,0,none⟩) ln2 lc2] 33)).heap[w2.heap.size]? =some (zd #[za ra2 rn2 rc2,za (some ⟨gl2,0,none⟩) ln2 lc2] 33 (0,0))):=zN _ _;obtain⟨p0,p1⟩:=za1 QA.X.p;obtain⟨n0,n1⟩:=za1 NA.X;cases f
  ·obtain⟨hk,hl⟩:=HSF.X rfl
   have HK:=za4 hk;have HLT:=za4 hl;clear hk hl;have CC:=zp9 ra9 bl9 ol9 rc9 lc9 R9 L9 (w2.alloc (zd #[za ra2 rn2 rc2,za (some ⟨gl2,0,none⟩) ln2 lc2] 33)) PA.X.2.2.1 PA.X.2.2.2.1 (by rw[PA.X.1];omega) (fun r hr=>⟨(I1.X r hr).1,by have:=(I1.X r hr).2.1;omega⟩) (by rw[PA.X.2.1];omega);rw[PA.X.1,PA.X.2.1]at CC
   go_wp2_with fail
   generalize w2.alloc (zd #[za ra2 rn2 rc2,za (some ⟨gl2,0,none⟩) ln2 lc2] 33)=w3 at*;refine CC.mono ?_;rintro e w4 ⟨ra4,rc4,gl4,lc4,S4,rfl,hb,hk4,hpo⟩;rw[PA.X.1,PA.X.2.1]at hpo;rw[PA.X.1,PA.X.2.1];have Q4:=za4 (QA.X.below hb);have P4:Hid (PO w4 (w.heap.size+3) (za ra4 rn9 rc4) S4 (za (some ⟨gl4,0,none⟩) ln9 lc4) L9):=hpo.base (by have:=QA.X.size;omega);have HK4:Hid (S4.map RT.key=TR.map RT.key):=hk4.trans HK.X;have HS4:Hid (S4.length=rn9):=by have:=congrArg zj hk4;simp only[qn]at this;exact this.trans PA.X.1
   have HL4:Hid (L9.length=ln9):=PA.X.2.1;clear hb hk4 hpo CC p0 p1 n0 n1 NA QA PA OA;obtain⟨a0,a1⟩:=za1 Q4.X.o;have af:=fun i=>yU _ _ i _ _ Q4.X.o;have s1:=zP w4 (w.heap.size+2) 0 _ _ (za ra4 rn9 rc4) Q4.X.o;have P5:Hid (PO ((w4.setCell ⟨w.heap.size+2,0,none⟩ (za ra4 rn9 rc4)).setCell ⟨w.heap.size+2,1,none⟩ (za (some ⟨gl4,0,none⟩) ln9 lc4)) (w.heap.size+3) (za ra4 rn9 rc4) S4 (za (some ⟨gl4,0,none⟩) ln9 lc4) L9):=(P4.X.box Q4.X.o).box s1;have B5:Hid (Below w.heap.size w ((w4.setCell ⟨w.heap.size+2,0,none⟩ (za ra4 rn9 rc4)).setCell ⟨w.heap.size+2,1,none⟩ (za (some ⟨gl4,0,none⟩) ln9 lc4))):=(Q4.X.b.setCell (by simp) _).setCell (by simp) _;clear s1;go_wp2;refine yX (v:=.agg #[za ra4 rn9 rc4,za (some ⟨gl4,0,none⟩) ln9 lc4]) (by simp[results,Tryz.results44,go_sem,a0,a1]) rfl ?_;show yg1 _ _ _ _ _;exact⟨ra4,rn9,rc4,gl4,ln9,lc4,S4,rfl,B5.X,HS4.X,by rw[<-HLT.X];exact HL4.X,HK4.X,by rw[<-HLT.X];exact P5.X.base (by omega)⟩
  ·obtain⟨ht1,ht2,hlt⟩:=HST.X rfl
   have pf:=fun i=>yU _ _ i _ _ QA.X.p;have s1:=zP (w2.alloc (zd #[za ra2 rn2 rc2,za (some ⟨gl2,0,none⟩) ln2 lc2] 33)) (w.heap.size+1) 0 _ _ (za ra2 rn2 rc2) QA.X.p;have s2:=zP _ (w.heap.size+1) 1 _ _ (za (some ⟨gl2,0,none⟩) ln2 lc2) s1;simp at s2;have Q3:Hid (GQ w (((w2.alloc (zd #[za ra2 rn2 rc2,za (some ⟨gl2,0,none⟩) ln2 lc2] 33)).setCell ⟨w.heap.size+1,0,none⟩ (za ra2 rn2 rc2)).setCell ⟨w.heap.size+1,1,none⟩ (za (some ⟨gl2,0,none⟩) ln2 lc2)) #[zc zb n,za a zl cap,za ao ko co,za (some ⟨bv,ov,none⟩) kv cv,zc zb fine] #[za ra2 rn2 rc2,za (some ⟨gl2,0,none⟩) ln2 lc2]):=⟨(QA.X.b.setCell (by simp) _).setCell (by simp) _,za6 (za6 QA.X.c (by omega)) (by omega),s2,za6 (za6 QA.X.o (by omega)) (by omega)⟩;have O3:Hid (PO (((w2.alloc (zd #[za ra2 rn2 rc2,za (some ⟨gl2,0,none⟩) ln2 lc2] 33)).setCell ⟨w.heap.size+1,0,none⟩ (za ra2 rn2 rc2)).setCell ⟨w.heap.size+1,1,none⟩ (za (some ⟨gl2,0,none⟩) ln2 lc2)) wr.heap.size (za ra2 rn2 rc2) S2 (za (some ⟨gl2,0,none⟩) ln2 lc2) LX):=(OA.X.box QA.X.p).box s1;have HL3:Hid (y05 (((w2.alloc (zd #[za ra2 rn2 rc2,za (some ⟨gl2,0,none⟩) ln2 lc2] 33)).setCell ⟨w.heap.size+1,0,none⟩ (za ra2 rn2 rc2)).setCell ⟨w.heap.size+1,1,none⟩ (za (some ⟨gl2,0,none⟩) ln2 lc2)) (w.heap.size+1)=ln2):=by show _=_;unfold y05;rw[(za1 s2).2]
   have hl2:rn2=RX.length:=by rw[<-HN2.X];have:=congrArg zj HK2.X;simpa using this
   have hnum:rn2+ln2<=24/\ln2<=12/\ln2<ln9:=by have:=HMR.X;have:=HL2.X;omega
   have T1:=za4 ht1;have T2:=za4 ht2;obtain⟨hnum1,hnum2,hnum3⟩:=hnum;clear s1 s2 ht1 ht2 hlt hl2;go_wp2;go_roundw
   case rel=>exact⟨ra2,rn2,rc2,gl2,0,ln2,lc2,S2,LX,Q3.X,O3.X.is HN2.X HL2.X,O3.X.off HN2.X HL2.X (by have:=HSZ.X;omega),O3.X.ad (fun s hs=>(zq3 HK2.X HIN.X s hs).1),hnum1,hnum2,ya5 HK2.X HRI.X,fun r hr=>⟨(zq3 HK2.X HIN.X r hr).1,(zq3 HK2.X HIN.X r hr).2,(O3.X.ints r hr).2⟩,(z70 n fine zs os vs ko kv LX.length LX HK2.X).1.trans T1.X,(z70 n fine zs os vs ko kv LX.length LX HK2.X).2.trans T2.X⟩
   case measure=>rw[HLN.X,HL3.X];exact hnum3
