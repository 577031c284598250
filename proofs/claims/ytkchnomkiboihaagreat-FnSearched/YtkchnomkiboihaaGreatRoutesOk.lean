import Derived.Test.YtkchnomkiboihaaGreatPack3
import Derived.Test.YtkchnomkiboihaaGreatPack14
set_option maxHeartbeats 2000000
namespace Go.Proofs.YtkchnomkiboihaaGreat
open RowKit renaming Below→Za,Hid→Zb
theorem qO:type_of% @List.length_eq_zero_iff:=@List.length_eq_zero_iff
open Value renaming slice→za,int→ze
open IntKind renaming i64→zd
open Obj renaming cells→zg
open Go.RowKit
open Q
theorem yE1{n:Int}{zs os vs:List Int}{ko kv:Nat}{fine:Int}{R:List RT}{k m:Nat}(hc:zd0 n zs os vs ko kv fine=true)(hk:k<m)(h:¬yo9 R k<(R.getD k rt0).v):¬zi4 n zs os vs ko kv R m:=fun H=>
 h ((yk3 hc (H k hk).2.2).1 (H k hk).1)
set_option maxRecDepth 100000 in
theorem zZ4(n fine:Int)(a ao av ra:Option Addr)(ac ko co kv cv rc:Nat)(zs os vs:List Int)(R:List RT)(w:World)(hA:za3 w a zs)(hO:za3 w ao os)(hV:za3 w av vs)(hR:za9 w ra R)(an:os.length=ko*6)(au:vs.length=kv*5)(aA:ko<=9223372036854775807)(aB:kv<=9223372036854775807)(hn:R.length<=1048576)(hi:∀r∈R,r.ids.length<=1048576)(eg:∀r∈R,r.ids.length<=r.c)(bU:zd0 n zs os vs ko kv fine=true):
 Calls Tryz.prog 99 #[.agg #[ze zd n,za a zs.length ac,za ao ko co,za av kv cv,ze zd fine],za ra R.length rc] w fun e w'=>Za w.heap.size w w'/\((e=.returned (.bool true)/\zi4 n zs os vs ko kv R R.length)∨(e=.returned (.bool false)/\¬zi4 n zs os vs ko kv R R.length)):=by
 have HA:=za4 hA;have HO:=za4 hO;have HV:=za4 hV;have HR:=za4 hR;have aF:Zb _:=an;have aE:Zb _:=au;have HI:Zb _:=hi;have bw:Zb _:=eg;have HC:Zb _:=bU;clear hA hO hV hR an au hi eg bU;obtain⟨m,HN⟩:=nmd R.length;rw[HN.X]at hn⊢;have e_:=HN.X;have B0:Zb (Za w.heap.size w (w.alloc (zg #[ze zd n,za a zs.length ac,za ao ko co,za av kv cv,ze zd fine] 30))):=zP _;have G0:Zb ((w.alloc (zg #[ze zd n,za a zs.length ac,za ao ko co,za av kv cv,ze zd fine] 30)).heap[w.heap.size]? =_):=zS _ _;go_enter Tryz.func99,Tryz.ntmps99
 go_wp2_with fail
 generalize(w.alloc _)=W0 at*;go_loopw[5,12] (fun tl t wr=>∃k:Nat,k<=m/\t=ze zd k/\tl=ze zd (yo9 R k)/\zi4 n zs os vs ko kv R k/\Za w.heap.size w wr/\wr.heap[w.heap.size]? =some (zg #[ze zd n,za a zs.length ac,za ao ko co,za av kv cv,ze zd fine] 30 (0,0))) (fun _ t _=>m - (intOf t).toNat)
 case atStart=>exact⟨0,xi _,rfl,rfl,zi4.zero _ _ _ _ _ _ _,B0.X,G0.X⟩
 case round=>
  clear B0 G0;obtain⟨k,hk,rfl,rfl,aP,hb,hp⟩:=hrel;have OK:=za4 aP;have B1:Zb _:=hb;have P1:=za4 hp;clear aP hb hp;by_cases ah:k<m
  ·have bz:k<R.length:=by omega
   have bI:R.getD k rt0∈R:=by rw[zQ,zR bz];simp
   obtain⟨b,off,rfl,h1,h2,h3⟩:=(HR.below B1.X) k bz;have lA:=HI.X _ bI;have sk:=bw.X _ bI;have fe:Zb (¬yo9 R k<(R.getD k rt0).v->¬zi4 n zs os vs ko kv R m):=yE1 HC.X ah;have gX:Zb ((R.getD k rt0).ids=[]->¬zi4 n zs os vs ko kv R m):=fun h H=>(H k ah).2.1 h;have jo:Zb (codeV true n zs os vs ko kv (R.getD k rt0).v (R.getD k rt0).ids≠0->¬zi4 n zs os vs ko kv R m):=fun h H=>h (H k ah).2.2;have bQ:Zb _:=fun h1 h2 h3=>OK.step ((yk3 HC.X h3).2 h1) h2 h3;have dS:Zb (yo9 R (k+1)=(R.getD k rt0).v):=rfl;obtain⟨r,dj⟩:=nmd (R.getD k rt0);obtain⟨last,n_⟩:=nmd (yo9 R k);rw[dj.X]at h1 h2 h3 lA sk fe gX jo bQ dS;rw[n_.X]at fe bQ;rw[n_.X];have IR:=za4 h3;clear h3 bI;have HQ:Zb (r.ids.length=0↔r.ids=[]):=qO;have fX:Zb _:=sk;clear sk;have db:=za4 (HA.below B1.X);have ww:=za4 (HO.below B1.X);have Bx:=za4 (HV.below B1.X);by_cases hv:last<r.v
   ·have jK:¬(r.v<=last):=by omega
    by_cases hq:r.ids.length=0
    ·have fM:Zb _:=gX.X (HQ.1 hq)
     have PH:Zb _:=hq;rw[PH.X]at h2;clear hq lA;go_wp2;go_ret;exact⟨B1.alloc B1.size _,.inr ⟨rfl,fM.X⟩⟩
    ·have mq:Zb (r.ids≠[]):=fun e=>hq (HQ.2 e)
     have BX:Zb (Za wr.heap.size wr (wr.alloc (zg #[ze zd r.v,za r.a r.ids.length r.c] 80))):=zP _;have GX:Zb ((wr.alloc (zg #[ze zd r.v,za r.a r.ids.length r.c] 80)).heap[wr.heap.size]? =_):=zS _ _;obtain⟨c0,c1,c2,c3,c4⟩:=za7 (za0 BX.X (za2 P1.X) P1.X);obtain⟨d0,d1⟩:=za1 GX.X
     go_wp2_with fail
     clear c0 c1 c2 c3 c4 d0 d1;generalize(wr.alloc _)=W1 at*;refine(z81 n fine r.v a ao av r.a ac ko co kv cv r.c zs os vs r.ids W1 (db.below BX.X) (ww.below BX.X) (Bx.below BX.X) (IR.below BX.X) aF.X aE.X aA aB (by omega) fX.X HC.X).mono ?_;have B2:Zb _:=B1.trans (BX.mono B1.size);have P2:=za4 (za0 BX.X (za2 P1.X) P1.X);clear db ww Bx IR BX B1 P1 h1 h2;rintro e w2 ⟨hb,⟨aG,rfl⟩|⟨aG,g,-,rfl,-⟩⟩
     ·have fM:Zb _:=jo.X aG
      have B3:Zb _:=B2.trans (hb.mono B2.size);clear hb;obtain⟨cd,tL⟩:=nmd (codeV true n zs os vs ko kv r.v r.ids);rw[tL.X]at aG⊢;go_wp2;go_ret;exact⟨B3.alloc B3.size _,.inr ⟨rfl,fM.X⟩⟩
     ·have dD:Zb _:=bQ.X hv mq.X aG
      have B3:Zb _:=B2.trans (hb.mono B2.size);have P3:=za4 (za0 hb (za2 P2.X) P2.X);have BY:Zb (Za w2.heap.size w2 (w2.alloc (zg #[ze zd n,za a zs.length ac,ze zd (zc4 vs kv r.v 0),ze zd (zc4 vs kv r.v 1),ze zd (zc4 vs kv r.v 2),ze zd (zc4 vs kv r.v 3),ze zd (zc4 vs kv r.v 4),za (some ⟨g,0,none⟩) r.ids.length r.ids.length] 119))):=zP _;have GY:=za4 (za0 hb (za2 GX.X) GX.X);have GZ:Zb _:=za0 BY.X (za2 GY.X) GY.X;obtain⟨d0,d1⟩:=za1 GZ.X;clear hb aG d1;go_wp2;clear d0
      first
       |exact⟨⟨k+1,by omega,by go_num,by rw[dS.X],dD.X,B3.trans (BY.mono B3.size),za0 BY.X (za2 P3.X) P3.X⟩,by simp[intOf];omega⟩
       |(go_roundw
         case rel=>exact⟨k+1,by omega,by go_num,by rw[dS.X],dD.X,B3.trans (BY.mono B3.size),za0 BY.X (za2 P3.X) P3.X⟩
         case measure=>simp[intOf];omega)
   ·have fM:Zb _:=fe.X hv
    have jK:r.v<=last:=by omega
    clear hv;go_wp2;go_ret;exact⟨B1.alloc B1.size _,.inr ⟨rfl,fM.X⟩⟩
  ·have cL:k=m:=by omega
   have nZ:Zb (zi4 n zs os vs ko kv R m):=cL▸OK.X;clear cL;go_wp2;go_ret;exact⟨B1.X,.inl ⟨rfl,nZ.X⟩⟩
