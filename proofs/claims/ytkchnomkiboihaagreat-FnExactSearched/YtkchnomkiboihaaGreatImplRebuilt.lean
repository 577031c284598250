import Derived.Test.YtkchnomkiboihaaGreatPack38
import Derived.Test.YtkchnomkiboihaaGreatPack39
set_option maxHeartbeats 4000000
namespace Go.Proofs.YtkchnomkiboihaaGreat
open Value renaming slice→za,int→zc,func→zp
open IntKind renaming i64→zb
open Obj renaming cells→zd
open Proofs.Tryz renaming prog→ze
open Act renaming put→zi
open Go.RowKit
open Q
def yB2(w:World)(K:Nat->Prop)(T:List RT)(L:List Int)(e:Ending)(w':World):Prop:=∃(ra2:Option Addr) (n2 rc2:Nat) (la2:Option Addr) (l2 lc2:Nat) (R2:List RT),e=.returned (.agg #[za ra2 n2 rc2,za la2 l2 lc2])/\Below w.heap.size w w'/\R2.map RT.key=T.map RT.key/\zb8 w' ra2 la2 n2 l2 R2 L/\∀k,k<w.heap.size->K k->zj0 k ra2 la2 R2 L
set_option maxRecDepth 10000 in
theorem ye4(n fine:Int)(a ao av ra la:Option Addr)(zl cap ko co kv cv nr rc ln lc:Nat)(zs os vs L:List Int)(R:List RT)(w:World)(hA:za3 w a zs)(hO:za3 w ao os)(hV:za3 w av vs)(hlz:zs.length=zl)(hlo:os.length=ko*6)(hlv:vs.length=kv*5)(hP:zb8 w ra la nr ln R L)(hpl:zc3 n zs os vs ko kv fine R L=0):
 Calls ze 36 #[.agg #[zc zb n,za a zl cap,za ao ko co,za av kv cv,zc zb fine],.agg #[za ra nr rc,za la ln lc]] w (yB2 w (fun k=>zj0 k ra la R L) (seY n fine zs os vs ko kv R L).1 (seY n fine zs os vs ko kv R L).2):=by
 have HA:=za4 hA;have HO:=za4 hO;have HV:=za4 hV;have HP:=za4 hP;have HCB:=(zb5 hpl).1;have hko:ko<=12:=(zd9 (zb3 HCB).2.1).1;have hkv:kv<=5:=(zf6 (zb3 HCB).2.2.1).1;have hsm:=ze4 hpl;have hok:=(zh3.1 (zb5 hpl).2.1).2;have GD0:∀W,Below w.heap.size w W->Calls ze 82 #[.agg #[zc zb n,za a zl cap,za ao ko co,za av kv cv,zc zb fine],.agg #[za ra nr rc,za la ln lc]] W (ye9 W (fun k=>zj0 k ra la R L) (grd n fine zs os vs ko kv L.length R L).1 (grd n fine zs os vs ko kv L.length R L).2):=fun W hW=>
  yb8 n fine a ao av ra la zl cap ko co kv cv nr rc ln lc zs os vs L R W (hA.below hW) (hO.below hW) (hV.below hW) hlz hlo hlv hko hkv HCB (hP.below hW) (by rw[<-hP.1];exact hsm.1) (by rw[<-hP.2.1];exact hsm.2.1) (zG2 (zh3.1 (zb5 hpl).2.1).1) (fun r hr=>⟨(hok r hr).1,zk7 (hok r hr).2,hP.2.2.2.2.2.2 r hr⟩)
 have DM0:∀(W:World) (pc:Nat) (ra3 la3:Option Addr) (n3 rc3 l3 lc3:Nat) (R3:List RT),Below w.heap.size w W->W.heap[pc]? =some (zd #[zc zb n,za a zl cap,za ao ko co,za av kv cv,zc zb fine] 30 (0,0))->zb8 W ra3 la3 n3 l3 R3 (grd n fine zs os vs ko kv L.length R L).2->R3.map RT.key=(grd n fine zs os vs ko kv L.length R L).1.map RT.key->Calls ze 81 #[.agg #[zp (.func 119) #[] #[.pointer (some ⟨pc,0,none⟩)],zp (.func 121) #[] #[.pointer (some ⟨pc,0,none⟩)]],.agg #[za ra3 n3 rc3,za la3 l3 lc3],zc zb 3] W fun e w'=>∃(ra2:Option Addr) (n2 rc2:Nat) (la2:Option Addr) (l2 lc2:Nat) (R2:List RT) (q:Int),e=.returned (.tuple #[.agg #[za ra2 n2 rc2,za la2 l2 lc2],zc zb q])/\Below W.heap.size W w'/\R2.map RT.key=(seY n fine zs os vs ko kv R L).1.map RT.key/\zb8 w' ra2 la2 n2 l2 R2 (seY n fine zs os vs ko kv R L).2/\∀k,k<W.heap.size->zj0 k ra3 la3 R3 (grd n fine zs os vs ko kv L.length R L).2->zj0 k ra2 la2 R2 (seY n fine zs os vs ko kv R L).2:=fun W pc ra3 la3 n3 rc3 l3 lc3 R3 hW h1 h2 h3=>by
  have hg:=(zC4 L.length R L hpl).1;rw[<-zd2 _ h3]at hg;refine(zW6 n fine a ao av ra3 la3 zl cap ko co kv cv n3 rc3 l3 lc3 pc zs os vs (grd n fine zs os vs ko kv L.length R L).2 R3 W (hA.below hW) (hO.below hW) (hV.below hW) hlz hlo hlv h2 hg h1 (by omega) (by omega) 3 (by omega)).mono ?_;rintro e w' ⟨ra2,n2,rc2,la2,l2,lc2,R2,rfl,hb,hk,hp,ho⟩;exact⟨ra2,n2,rc2,la2,l2,lc2,R2,_,rfl,hb,hk.trans (z69 3 h3),hp,ho⟩
 obtain⟨TR,HTR⟩:=nmd (seY n fine zs os vs ko kv R L).1;obtain⟨TL,HTL⟩:=nmd (seY n fine zs os vs ko kv R L).2;obtain⟨GR,HGR⟩:=nmd (grd n fine zs os vs ko kv L.length R L).1;obtain⟨GL,HGL⟩:=nmd (grd n fine zs os vs ko kv L.length R L).2;rw[HTR.X,HTL.X,HGR.X,HGL.X]at DM0;rw[HGR.X,HGL.X]at GD0;rw[HTR.X,HTL.X];have GD:Hid _:=GD0;have DM:Hid _:=DM0;clear GD0 DM0 HTR HTL HGR HGL hsm hok HCB hpl hA hO hV hP hlo hlv hko hkv;have Q0:Hid (GQ w (((w.alloc (zd #[zc zb n,za a zl cap,za ao ko co,za av kv cv,zc zb fine] 30)).alloc (zd #[za ra nr rc,za la ln lc] 33)).alloc (zd #[za none 0 0,za none 0 0] 33)) #[zc zb n,za a zl cap,za ao ko co,za av kv cv,zc zb fine] #[za ra nr rc,za la ln lc]):=by
  refine⟨((zK _).alloc (by simp) _).alloc (by simp;omega) _,?_,?_,?_⟩
  ·exact(yY _ _ (by simp;omega)).trans (xb _ _ _)
  ·exact(yY _ _ (by simp)).trans (y8 _ _ _)
  ·have:=zN ((w.alloc (zd #[zc zb n,za a zl cap,za ao ko co,za av kv cv,zc zb fine] 30)).alloc (zd #[za ra nr rc,za la ln lc] 33)) (zd #[za none 0 0,za none 0 0] 33)
   simpa using this
 go_enter Tryz.func36,Tryz.ntmps36;go_upto_region 1 with fail;generalize((w.alloc (zd #[zc zb n,za a zl cap,za ao ko co,za av kv cv,zc zb fine] 30)).alloc (zd #[za ra nr rc,za la ln lc] 33)).alloc (zd #[za none 0 0,za none 0 0] 33)=w1 at*;go_cut [5,6]from 7 to 15 (fun s8 s9 wx=>∃(kz:Nat) (ra2:Option Addr) (n2 rc2:Nat) (la2:Option Addr) (l2 lc2:Nat) (R2:List RT) (q:Int),s8=.pointer (some ⟨kz,0,none⟩)/\s9=zc zb q/\GQ w wx #[zc zb n,za a zl cap,za ao ko co,za av kv cv,zc zb fine] #[za ra nr rc,za la ln lc]/\wx.heap[kz]? =some (zd #[za ra2 n2 rc2,za la2 l2 lc2] 33 (0,0))/\zb8 wx ra2 la2 n2 l2 R2 TL/\R2.map RT.key=TR.map RT.key/\w.heap.size+3<=kz/\∀k,k<w.heap.size->zj0 k ra la R L->zj0 k ra2 la2 R2 TL)
 case first=>
  go_wp2_with fail
  refine qV (S:=(fun W=>(W.cell? ⟨w.heap.size,0,none⟩=some (zc zb n)/\W.cell? ⟨w.heap.size,1,none⟩=some (za a zl cap)/\W.cell? ⟨w.heap.size,2,none⟩=some (za ao ko co)/\W.cell? ⟨w.heap.size,3,none⟩=some (za av kv cv)/\W.cell? ⟨w.heap.size,4,none⟩=some (zc zb fine))/\W.cell? ⟨w.heap.size+1,0,none⟩=some (za ra nr rc)/\W.cell? ⟨w.heap.size+1,1,none⟩=some (za la ln lc))) (by kernel_rfl) ?_ (fun hHeld=> ?_)
  ·exact⟨za7 (Q0.X.below (yV _ _).drew).c,za1 (Q0.X.below (yV _ _).drew).p⟩
  have G_d:Hid (GQ w w1.drew #[zc zb n,za a zl cap,za ao ko co,za av kv cv,zc zb fine] #[za ra nr rc,za la ln lc]):=Q0.X.below (yV _ _).drew;generalize w1.drew=wd at*;refine tkH 0 hHeld ?_;refine tkH 2 hHeld ?_;refine tkH 3 hHeld ?_;refine qT (rs:=[1,9]) (by kernel_rfl) (by simp) ?_;refine qR rfl (fun K hK=> ?_) ?_
  ·skip
   go_simp;refine(zy2 _ wd n fine a ao av cap ko co kv cv zl rfl).mono ?_;rintro e w2 ⟨pc,rfl,hb,hk2⟩;have G_w2:=za4 (G_d.X.below hb);have CB_w2:=za4 hk2;clear hb hk2
   (try go_wp2_with fail)
   refine hK.out _ _ ?_ (fun hHeld=> ?_)
   ·exact⟨za7 G_w2.X.c,za1 G_w2.X.p⟩
   clear hK K
   (try simp only[zi,xB,zL,xC])
   refine qT (rs:=[4,9]) (by kernel_rfl) (by simp) ?_;refine qR rfl (fun K hK=> ?_) ?_
   ·skip
    go_simp;refine(GD.X w2 G_w2.X.b).mono ?_;rintro e w4 ⟨ra3,n3,rc3,la3,l3,lc3,R3,rfl,hb,hpi,h5,_,_,_,hof⟩;have G_w4:=za4 (G_w2.X.below hb);have CB_w4:=za4 (za0 hb (za2 CB_w2.X) CB_w2.X);have HP_w4:=za4 hpi;have HY:=za4 h5;have O4:Hid (∀k,k<w.heap.size->zj0 k ra la R L->zj0 k ra3 la3 R3 GL):=fun k hk h=>hof k (xh hk G_w2.X.b.size) h;clear hb h5 hpi hof
    (try go_wp2_with fail)
    refine hK.out _ _ ?_ (fun hHeld=> ?_)
    ·exact⟨za7 G_w4.X.c,za1 G_w4.X.p⟩
    clear hK K
    (try simp only[zi,xB,zL,xC])
    refine qT (rs:=[5,9]) (by kernel_rfl) (by simp) ?_;refine qR rfl (fun K hK=> ?_) ?_
    ·skip
     go_simp;refine(DM.X w4 pc ra3 la3 n3 rc3 l3 lc3 R3 G_w4.X.b CB_w4.X HP_w4.X HY.X).mono ?_;rintro e w5 ⟨ra2,n2,rc2,la2,l2,lc2,R2,q,rfl,hb,h5,hpi,hof⟩;have G_w5:=za4 (G_w4.X.below hb);have HP_w5:=za4 hpi;have HX:=za4 h5;have O5:Hid (∀k,k<w.heap.size->zj0 k ra la R L->zj0 k ra2 la2 R2 TL):=fun k hk h=>hof k (xh hk G_w4.X.b.size) (O4.X k hk h);clear hb h5 hpi hof
     (try go_wp2_with fail)
     refine hK.out _ _ ?_ (fun hHeld=> ?_)
     ·exact⟨za7 G_w5.X.c,za1 G_w5.X.p⟩
     clear hK K
     (try simp only[zi,xB,zL,xC])
     refine tkH 6 hHeld ?_;refine tkH 7 hHeld ?_;refine tkH 8 hHeld ?_;refine qT (rs:=[9]) (by kernel_rfl) (by simp) ?_;refine qR rfl (fun K hK=> ?_) qS;have G_z:Hid (GQ w (w5.alloc (zd #[za none 0 0,za none 0 0] 33)) #[zc zb n,za a zl cap,za ao ko co,za av kv cv,zc zb fine] #[za ra nr rc,za la ln lc]):=G_w5.X.below ((yV w5.heap.size w5).alloc (zQ _) (zd #[za none 0 0,za none 0 0] 33));have VZ0:Hid ((w5.alloc (zd #[za none 0 0,za none 0 0] 33)).heap[w5.heap.size]? =some (zd #[za none 0 0,za none 0 0] 33 (0,0))):=zN _ _;have HZL:Hid (w.heap.size+3<=w5.heap.size):=G_w5.X.size;have HP_z:Hid (zb8 (w5.alloc (zd #[za none 0 0,za none 0 0] 33)) ra2 la2 n2 l2 R2 TL):=HP_w5.X.below ((yV w5.heap.size w5).alloc (zQ _) (zd #[za none 0 0,za none 0 0] 33));go_simp;refine hK.out _ _ ?_ (fun hHeld=> ?_)
     ·exact⟨za7 G_z.X.c,za1 G_z.X.p⟩
     clear hK K
     (try simp only[zi,xB,zL,xC])
     obtain⟨kz,HKZ⟩:=nmd w5.heap.size;rw[HKZ.X]at VZ0 HZL⊢;generalize(w5.alloc (zd #[za none 0 0,za none 0 0] 33))=wz at*;obtain⟨z0,z1⟩:=za1 VZ0.X;have zf:=fun i=>yU _ _ i _ _ VZ0.X;refine qT (rs:=[10]) (by kernel_rfl) (by simp) ?_;refine qR rfl (fun K hK=> ?_) qS;have V5:Hid (((wz.setCell ⟨kz,0,none⟩ (za ra2 n2 rc2)).setCell ⟨kz,1,none⟩ (za la2 l2 lc2)).heap[kz]? =some (zd #[za ra2 n2 rc2,za la2 l2 lc2] 33 (0,0))):=zi8 VZ0.X;have G5:Hid (GQ w ((wz.setCell ⟨kz,0,none⟩ (za ra2 n2 rc2)).setCell ⟨kz,1,none⟩ (za la2 l2 lc2)) #[zc zb n,za a zl cap,za ao ko co,za av kv cv,zc zb fine] #[za ra nr rc,za la ln lc]):=(G_z.X.set HZL.X).set HZL.X;have P5:Hid (zb8 ((wz.setCell ⟨kz,0,none⟩ (za ra2 n2 rc2)).setCell ⟨kz,1,none⟩ (za la2 l2 lc2)) ra2 la2 n2 l2 R2 TL):=ze0 HP_z.X VZ0.X;go_simp;refine hK.out _ _ ?_ (fun hHeld=> ?_)
     ·exact⟨za7 G5.X.c,za1 G5.X.p⟩
     clear hK K;generalize((wz.setCell ⟨kz,0,none⟩ (za ra2 n2 rc2)).setCell ⟨kz,1,none⟩ (za la2 l2 lc2))=w6 at*;refine tkH 11 hHeld ?_;refine qU (by kernel_rfl) ?_ _;clear hHeld
     (try go_wp2_with fail)
     go_meet;exact⟨kz,ra2,n2,rc2,la2,l2,lc2,R2,q,rfl,rfl,G5.X,V5.X,P5.X,HX.X,HZL.X,O5.X⟩
    refine qR rfl (fun K hK=> ?_) qS;have G_z:Hid (GQ w (w4.alloc (zd #[za none 0 0,za none 0 0] 33)) #[zc zb n,za a zl cap,za ao ko co,za av kv cv,zc zb fine] #[za ra nr rc,za la ln lc]):=G_w4.X.below ((yV w4.heap.size w4).alloc (zQ _) (zd #[za none 0 0,za none 0 0] 33));have VZ0:Hid ((w4.alloc (zd #[za none 0 0,za none 0 0] 33)).heap[w4.heap.size]? =some (zd #[za none 0 0,za none 0 0] 33 (0,0))):=zN _ _;have HZL:Hid (w.heap.size+3<=w4.heap.size):=G_w4.X.size;have CB_z:Hid ((w4.alloc (zd #[za none 0 0,za none 0 0] 33)).heap[pc]? =some (zd #[zc zb n,za a zl cap,za ao ko co,za av kv cv,zc zb fine] 30 (0,0))):=za0 ((yV w4.heap.size w4).alloc (zQ _) (zd #[za none 0 0,za none 0 0] 33)) (za2 CB_w4.X) CB_w4.X;have H3_z:Hid (zb8 (w4.alloc (zd #[za none 0 0,za none 0 0] 33)) ra3 la3 n3 l3 R3 GL):=HP_w4.X.below ((yV w4.heap.size w4).alloc (zQ _) (zd #[za none 0 0,za none 0 0] 33));go_simp;refine hK.out _ _ ?_ (fun hHeld=> ?_)
    ·exact⟨za7 G_z.X.c,za1 G_z.X.p⟩
    clear hK K
    (try simp only[zi,xB,zL,xC])
    obtain⟨kz,HKZ⟩:=nmd w4.heap.size;rw[HKZ.X]at VZ0 HZL⊢;generalize(w4.alloc (zd #[za none 0 0,za none 0 0] 33))=wz at*;obtain⟨z0,z1⟩:=za1 VZ0.X;have zf:=fun i=>yU _ _ i _ _ VZ0.X;refine qT (rs:=[5]) (by kernel_rfl) (by simp) ?_;refine qR rfl (fun K hK=> ?_) qS;go_simp;refine(DM.X wz pc ra3 la3 n3 rc3 l3 lc3 R3 G_z.X.b CB_z.X H3_z.X HY.X).mono ?_;rintro e w5 ⟨ra2,n2,rc2,la2,l2,lc2,R2,q,rfl,hb,h5,hpi,hof⟩;have G_w5:=za4 (G_z.X.below hb);have HP_w5:=za4 hpi;have HX:=za4 h5;have O5:Hid (∀k,k<w.heap.size->zj0 k ra la R L->zj0 k ra2 la2 R2 TL):=fun k hk h=>hof k (xh hk G_z.X.b.size) (O4.X k hk h);have VZ_w5:=za4 (za0 hb (za2 VZ0.X) VZ0.X);obtain⟨z0,z1⟩:=za1 VZ_w5.X;have zf:=fun i=>yU _ _ i _ _ VZ_w5.X;clear hb h5 hpi hof
    (try go_wp2_with fail)
    refine hK.out _ _ ?_ (fun hHeld=> ?_)
    ·exact⟨za7 G_w5.X.c,za1 G_w5.X.p⟩
    clear hK K
    (try simp only[zi,xB,zL,xC])
    refine tkH 6 hHeld ?_;refine tkH 7 hHeld ?_;refine tkH 8 hHeld ?_;refine qT (rs:=[10]) (by kernel_rfl) (by simp) ?_;refine qR rfl (fun K hK=> ?_) qS;have V5:Hid (((w5.setCell ⟨kz,0,none⟩ (za ra2 n2 rc2)).setCell ⟨kz,1,none⟩ (za la2 l2 lc2)).heap[kz]? =some (zd #[za ra2 n2 rc2,za la2 l2 lc2] 33 (0,0))):=zi8 VZ_w5.X;have G5:Hid (GQ w ((w5.setCell ⟨kz,0,none⟩ (za ra2 n2 rc2)).setCell ⟨kz,1,none⟩ (za la2 l2 lc2)) #[zc zb n,za a zl cap,za ao ko co,za av kv cv,zc zb fine] #[za ra nr rc,za la ln lc]):=(G_w5.X.set HZL.X).set HZL.X;have P5:Hid (zb8 ((w5.setCell ⟨kz,0,none⟩ (za ra2 n2 rc2)).setCell ⟨kz,1,none⟩ (za la2 l2 lc2)) ra2 la2 n2 l2 R2 TL):=ze0 HP_w5.X VZ_w5.X;go_simp;refine hK.out _ _ ?_ (fun hHeld=> ?_)
    ·exact⟨za7 G5.X.c,za1 G5.X.p⟩
    clear hK K;generalize((w5.setCell ⟨kz,0,none⟩ (za ra2 n2 rc2)).setCell ⟨kz,1,none⟩ (za la2 l2 lc2))=w6 at*;refine tkH 11 hHeld ?_;refine qU (by kernel_rfl) ?_ _;clear hHeld
    (try go_wp2_with fail)
    go_meet;exact⟨kz,ra2,n2,rc2,la2,l2,lc2,R2,q,rfl,rfl,G5.X,V5.X,P5.X,HX.X,HZL.X,O5.X⟩
   refine qR rfl (fun K hK=> ?_) qS;have G_z:Hid (GQ w (w2.alloc (zd #[za none 0 0,za none 0 0] 33)) #[zc zb n,za a zl cap,za ao ko co,za av kv cv,zc zb fine] #[za ra nr rc,za la ln lc]):=G_w2.X.below ((yV w2.heap.size w2).alloc (zQ _) (zd #[za none 0 0,za none 0 0] 33));have VZ0:Hid ((w2.alloc (zd #[za none 0 0,za none 0 0] 33)).heap[w2.heap.size]? =some (zd #[za none 0 0,za none 0 0] 33 (0,0))):=zN _ _;have HZL:Hid (w.heap.size+3<=w2.heap.size):=G_w2.X.size;have CB_z:Hid ((w2.alloc (zd #[za none 0 0,za none 0 0] 33)).heap[pc]? =some (zd #[zc zb n,za a zl cap,za ao ko co,za av kv cv,zc zb fine] 30 (0,0))):=za0 ((yV w2.heap.size w2).alloc (zQ _) (zd #[za none 0 0,za none 0 0] 33)) (za2 CB_w2.X) CB_w2.X;go_simp;refine hK.out _ _ ?_ (fun hHeld=> ?_)
   ·exact⟨za7 G_z.X.c,za1 G_z.X.p⟩
   clear hK K
   (try simp only[zi,xB,zL,xC])
   obtain⟨kz,HKZ⟩:=nmd w2.heap.size;rw[HKZ.X]at VZ0 HZL⊢;generalize(w2.alloc (zd #[za none 0 0,za none 0 0] 33))=wz at*;obtain⟨z0,z1⟩:=za1 VZ0.X;have zf:=fun i=>yU _ _ i _ _ VZ0.X;refine qT (rs:=[4]) (by kernel_rfl) (by simp) ?_;refine qR rfl (fun K hK=> ?_) qS;go_simp;refine(GD.X wz G_z.X.b).mono ?_;rintro e w4 ⟨ra3,n3,rc3,la3,l3,lc3,R3,rfl,hb,hpi,h5,_,_,_,hof⟩;have G_w4:=za4 (G_z.X.below hb);have CB_w4:=za4 (za0 hb (za2 CB_z.X) CB_z.X);have HP_w4:=za4 hpi;have HY:=za4 h5;have O4:Hid (∀k,k<w.heap.size->zj0 k ra la R L->zj0 k ra3 la3 R3 GL):=fun k hk h=>hof k (xh hk G_z.X.b.size) h;have VZ_w4:=za4 (za0 hb (za2 VZ0.X) VZ0.X);obtain⟨z0,z1⟩:=za1 VZ_w4.X;have zf:=fun i=>yU _ _ i _ _ VZ_w4.X;clear hb h5 hpi hof
   (try go_wp2_with fail)
   refine hK.out _ _ ?_ (fun hHeld=> ?_)
   ·exact⟨za7 G_w4.X.c,za1 G_w4.X.p⟩
   clear hK K
   (try simp only[zi,xB,zL,xC])
   refine qT (rs:=[5]) (by kernel_rfl) (by simp) ?_;refine qR rfl (fun K hK=> ?_) qS;go_simp;refine(DM.X w4 pc ra3 la3 n3 rc3 l3 lc3 R3 G_w4.X.b CB_w4.X HP_w4.X HY.X).mono ?_;rintro e w5 ⟨ra2,n2,rc2,la2,l2,lc2,R2,q,rfl,hb,h5,hpi,hof⟩;have G_w5:=za4 (G_w4.X.below hb);have HP_w5:=za4 hpi;have HX:=za4 h5;have O5:Hid (∀k,k<w.heap.size->zj0 k ra la R L->zj0 k ra2 la2 R2 TL):=fun k hk h=>hof k (xh hk G_w4.X.b.size) (O4.X k hk h);have VZ_w5:=za4 (za0 hb (za2 VZ_w4.X) VZ_w4.X);obtain⟨z0,z1⟩:=za1 VZ_w5.X;have zf:=fun i=>yU _ _ i _ _ VZ_w5.X;clear hb h5 hpi hof
   (try go_wp2_with fail)
   refine hK.out _ _ ?_ (fun hHeld=> ?_)
   ·exact⟨za7 G_w5.X.c,za1 G_w5.X.p⟩
   clear hK K
   (try simp only[zi,xB,zL,xC])
   refine tkH 6 hHeld ?_;refine tkH 7 hHeld ?_;refine tkH 8 hHeld ?_;refine qT (rs:=[10]) (by kernel_rfl) (by simp) ?_;refine qR rfl (fun K hK=> ?_) qS;have V5:Hid (((w5.setCell ⟨kz,0,none⟩ (za ra2 n2 rc2)).setCell ⟨kz,1,none⟩ (za la2 l2 lc2)).heap[kz]? =some (zd #[za ra2 n2 rc2,za la2 l2 lc2] 33 (0,0))):=zi8 VZ_w5.X;have G5:Hid (GQ w ((w5.setCell ⟨kz,0,none⟩ (za ra2 n2 rc2)).setCell ⟨kz,1,none⟩ (za la2 l2 lc2)) #[zc zb n,za a zl cap,za ao ko co,za av kv cv,zc zb fine] #[za ra nr rc,za la ln lc]):=(G_w5.X.set HZL.X).set HZL.X;have P5:Hid (zb8 ((w5.setCell ⟨kz,0,none⟩ (za ra2 n2 rc2)).setCell ⟨kz,1,none⟩ (za la2 l2 lc2)) ra2 la2 n2 l2 R2 TL):=ze0 HP_w5.X VZ_w5.X;go_simp;refine hK.out _ _ ?_ (fun hHeld=> ?_)
   ·exact⟨za7 G5.X.c,za1 G5.X.p⟩
   clear hK K;generalize((w5.setCell ⟨kz,0,none⟩ (za ra2 n2 rc2)).setCell ⟨kz,1,none⟩ (za la2 l2 lc2))=w6 at*;refine tkH 11 hHeld ?_;refine qU (by kernel_rfl) ?_ _;clear hHeld
   (try go_wp2_with fail)
   go_meet;exact⟨kz,ra2,n2,rc2,la2,l2,lc2,R2,q,rfl,rfl,G5.X,V5.X,P5.X,HX.X,HZL.X,O5.X⟩
  refine qR rfl (fun K hK=> ?_) qS;have G_z:Hid (GQ w (wd.alloc (zd #[za none 0 0,za none 0 0] 33)) #[zc zb n,za a zl cap,za ao ko co,za av kv cv,zc zb fine] #[za ra nr rc,za la ln lc]):=G_d.X.below ((yV wd.heap.size wd).alloc (zQ _) (zd #[za none 0 0,za none 0 0] 33));have VZ0:Hid ((wd.alloc (zd #[za none 0 0,za none 0 0] 33)).heap[wd.heap.size]? =some (zd #[za none 0 0,za none 0 0] 33 (0,0))):=zN _ _;have HZL:Hid (w.heap.size+3<=wd.heap.size):=G_d.X.size;go_simp;refine hK.out _ _ ?_ (fun hHeld=> ?_)
  ·exact⟨za7 G_z.X.c,za1 G_z.X.p⟩
  clear hK K
  (try simp only[zi,xB,zL,xC])
  obtain⟨kz,HKZ⟩:=nmd wd.heap.size;rw[HKZ.X]at VZ0 HZL⊢;generalize(wd.alloc (zd #[za none 0 0,za none 0 0] 33))=wz at*;obtain⟨z0,z1⟩:=za1 VZ0.X;have zf:=fun i=>yU _ _ i _ _ VZ0.X;refine qT (rs:=[1]) (by kernel_rfl) (by simp) ?_;refine qR rfl (fun K hK=> ?_) qS;go_simp;refine(zy2 _ wz n fine a ao av cap ko co kv cv zl rfl).mono ?_;rintro e w2 ⟨pc,rfl,hb,hk2⟩;have G_w2:=za4 (G_z.X.below hb);have CB_w2:=za4 hk2;have VZ_w2:=za4 (za0 hb (za2 VZ0.X) VZ0.X);obtain⟨z0,z1⟩:=za1 VZ_w2.X;have zf:=fun i=>yU _ _ i _ _ VZ_w2.X;clear hb hk2
  (try go_wp2_with fail)
  refine hK.out _ _ ?_ (fun hHeld=> ?_)
  ·exact⟨za7 G_w2.X.c,za1 G_w2.X.p⟩
  clear hK K
  (try simp only[zi,xB,zL,xC])
  refine qT (rs:=[4]) (by kernel_rfl) (by simp) ?_;refine qR rfl (fun K hK=> ?_) qS;go_simp;refine(GD.X w2 G_w2.X.b).mono ?_;rintro e w4 ⟨ra3,n3,rc3,la3,l3,lc3,R3,rfl,hb,hpi,h5,_,_,_,hof⟩;have G_w4:=za4 (G_w2.X.below hb);have CB_w4:=za4 (za0 hb (za2 CB_w2.X) CB_w2.X);have HP_w4:=za4 hpi;have HY:=za4 h5;have O4:Hid (∀k,k<w.heap.size->zj0 k ra la R L->zj0 k ra3 la3 R3 GL):=fun k hk h=>hof k (xh hk G_w2.X.b.size) h;have VZ_w4:=za4 (za0 hb (za2 VZ_w2.X) VZ_w2.X);obtain⟨z0,z1⟩:=za1 VZ_w4.X;have zf:=fun i=>yU _ _ i _ _ VZ_w4.X;clear hb h5 hpi hof
  (try go_wp2_with fail)
  refine hK.out _ _ ?_ (fun hHeld=> ?_)
  ·exact⟨za7 G_w4.X.c,za1 G_w4.X.p⟩
  clear hK K
  (try simp only[zi,xB,zL,xC])
  refine qT (rs:=[5]) (by kernel_rfl) (by simp) ?_;refine qR rfl (fun K hK=> ?_) qS;go_simp;refine(DM.X w4 pc ra3 la3 n3 rc3 l3 lc3 R3 G_w4.X.b CB_w4.X HP_w4.X HY.X).mono ?_;rintro e w5 ⟨ra2,n2,rc2,la2,l2,lc2,R2,q,rfl,hb,h5,hpi,hof⟩;have G_w5:=za4 (G_w4.X.below hb);have HP_w5:=za4 hpi;have HX:=za4 h5;have O5:Hid (∀k,k<w.heap.size->zj0 k ra la R L->zj0 k ra2 la2 R2 TL):=fun k hk h=>hof k (xh hk G_w4.X.b.size) (O4.X k hk h);have VZ_w5:=za4 (za0 hb (za2 VZ_w4.X) VZ_w4.X);obtain⟨z0,z1⟩:=za1 VZ_w5.X;have zf:=fun i=>yU _ _ i _ _ VZ_w5.X;clear hb h5 hpi hof
  (try go_wp2_with fail)
  refine hK.out _ _ ?_ (fun hHeld=> ?_)
  ·exact⟨za7 G_w5.X.c,za1 G_w5.X.p⟩
  clear hK K
  (try simp only[zi,xB,zL,xC])
  refine tkH 6 hHeld ?_;refine tkH 7 hHeld ?_;refine tkH 8 hHeld ?_;refine qT (rs:=[10]) (by kernel_rfl) (by simp) ?_;refine qR rfl (fun K hK=> ?_) qS;have V5:Hid (((w5.setCell ⟨kz,0,none⟩ (za ra2 n2 rc2)).setCell ⟨kz,1,none⟩ (za la2 l2 lc2)).heap[kz]? =some (zd #[za ra2 n2 rc2,za la2 l2 lc2] 33 (0,0))):=zi8 VZ_w5.X;have G5:Hid (GQ w ((w5.setCell ⟨kz,0,none⟩ (za ra2 n2 rc2)).setCell ⟨kz,1,none⟩ (za la2 l2 lc2)) #[zc zb n,za a zl cap,za ao ko co,za av kv cv,zc zb fine] #[za ra nr rc,za la ln lc]):=(G_w5.X.set HZL.X).set HZL.X;have P5:Hid (zb8 ((w5.setCell ⟨kz,0,none⟩ (za ra2 n2 rc2)).setCell ⟨kz,1,none⟩ (za la2 l2 lc2)) ra2 la2 n2 l2 R2 TL):=ze0 HP_w5.X VZ_w5.X;go_simp;refine hK.out _ _ ?_ (fun hHeld=> ?_)
  ·exact⟨za7 G5.X.c,za1 G5.X.p⟩
  clear hK K;generalize((w5.setCell ⟨kz,0,none⟩ (za ra2 n2 rc2)).setCell ⟨kz,1,none⟩ (za la2 l2 lc2))=w6 at*;refine tkH 11 hHeld ?_;refine qU (by kernel_rfl) ?_ _;clear hHeld
  (try go_wp2_with fail)
  go_meet;exact⟨kz,ra2,n2,rc2,la2,l2,lc2,R2,q,rfl,rfl,G5.X,V5.X,P5.X,HX.X,HZL.X,O5.X⟩
 case rest=>
  obtain⟨kz,ra2,n2,rc2,la2,l2,lc2,R2,q,rfl,rfl,hQ,hz,hpi,h5,hkz,ho⟩:=hcut;have HO9:=za4 ho;have Q3:=za4 hQ;have P3:=za4 hpi;have HX:=za4 h5;have P5:Hid (zb8 ((wc.setCell ⟨w.heap.size+2,0,none⟩ (za ra2 n2 rc2)).setCell ⟨w.heap.size+2,1,none⟩ (za la2 l2 lc2)) ra2 la2 n2 l2 R2 TL):=ze0 hpi hQ.o;have B5:Hid (Below w.heap.size w ((wc.setCell ⟨w.heap.size+2,0,none⟩ (za ra2 n2 rc2)).setCell ⟨w.heap.size+2,1,none⟩ (za la2 l2 lc2))):=(hQ.b.setCell (by simp) _).setCell (by simp) _;have V5:((wc.setCell ⟨w.heap.size+2,0,none⟩ (za ra2 n2 rc2)).setCell ⟨w.heap.size+2,1,none⟩ (za la2 l2 lc2)).heap[w.heap.size+2]? =some (zd #[za ra2 n2 rc2,za la2 l2 lc2] 33 (0,0)):=zi8 hQ.o;obtain⟨z0,z1⟩:=za1 hz;obtain⟨a0,a1⟩:=za1 hQ.o;have af:=fun i=>yU _ _ i _ _ hQ.o;obtain⟨b0,b1⟩:=za1 V5;clear hQ hz hpi h5 ho V5;go_wp2;refine yX (v:=.agg #[za ra2 n2 rc2,za la2 l2 lc2]) (by simp[results,Tryz.results36,go_sem,b0,b1]) rfl ?_;show yB2 _ _ _ _ _ _;exact⟨ra2,n2,rc2,la2,l2,lc2,R2,rfl,B5.X,HX.X,P5.X,HO9.X⟩
