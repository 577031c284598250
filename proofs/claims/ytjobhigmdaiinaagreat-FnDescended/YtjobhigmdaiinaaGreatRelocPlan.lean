import Derived.Test.YtjobhigmdaiinaaGreatPack1
import Derived.Test.YtjobhigmdaiinaaGreatPack2
import Derived.Test.YtjobhigmdaiinaaGreatPack3
import Derived.Test.YtjobhigmdaiinaaGreatPack26
import Derived.Test.YtjobhigmdaiinaaGreatWithRoute
import Derived.Test.YtjobhigmdaiinaaGreatPack37
import Derived.Test.YtjobhigmdaiinaaGreatPack44
import Derived.Test.YtjobhigmdaiinaaGreatPack45
import Derived.Deep.RegionHeld3
namespace Go.Proofs.YtjobhigmdaiinaaGreat
open Go.RowKit
def yz0(w:World)(v:Int)(f:Bool)(T:List RT)(L:List Int)(e:Ending)(w':World):Prop:=∃(ra2:Option Addr) (n2 rc2:Nat) (la2:Option Addr) (l2 lc2:Nat) (R2:List RT),e=.returned (.tuple #[.agg #[.slice ra2 n2 rc2,.slice la2 l2 lc2],.int .i64 v,.bool f])/\Below w.heap.size w w'/\za6 w' ra2 R2/\R2.length=n2/\za0 w' la2 L/\L.length=l2/\R2.map RT.key=T.map RT.key/\((la2=none/\L.length=0)∨∃b off,la2=some ⟨b,off,none⟩)
def zG8(w:World)(v:Int)(f:Bool)(T:List RT)(L:List Int)(e:Ending)(w':World):Prop:=∃(ra2:Option Addr) (n2 rc2:Nat) (la2:Option Addr) (l2 lc2:Nat) (R2:List RT),e=.returned (.tuple #[.agg #[.slice ra2 n2 rc2,.slice la2 l2 lc2],.int .i64 v,.bool f])/\Below w.heap.size w w'/\R2.map RT.key=T.map RT.key/\zd4 w' ra2 la2 n2 l2 R2 L
theorem zG8.is{w w':World}{v:Int}{f:Bool}{T:List RT}{L:List Int}{e:Ending}(h:zG8 w v f T L e w'):yz0 w v f T L e w':=by
 obtain⟨ra2,n2,rc2,la2,l2,lc2,R2,h1,h2,h3,h4⟩:=h;exact⟨ra2,n2,rc2,la2,l2,lc2,R2,h1,h2,h4.2.2.1,h4.1,h4.2.2.2.1,h4.2.1,h3,h4.2.2.2.2.2.1.imp (fun h=>⟨h.1,h4.2.1.trans h.2⟩) id⟩
structure RQ(w W:World)(cs ps ss:Array Value):Prop where
 b:Below w.heap.size w W
 c:W.heap[w.heap.size]? =some (.cells cs 30 (0,0))
 p:W.heap[w.heap.size+1]? =some (.cells ps 33 (0,0))
 s:W.heap[w.heap.size+2]? =some (.cells ss 86 (0,0))
 o:W.heap[w.heap.size+3]? =some (.cells #[.slice none 0 0,.slice none 0 0] 33 (0,0))
theorem RQ.below{w W W':World}{cs ps ss:Array Value}(h:RQ w W cs ps ss)(hb:Below W.heap.size W W'):RQ w W' cs ps ss:=
 ⟨h.b.trans (hb.mono h.b.size),za1 hb (za3 h.c) h.c,za1 hb (za3 h.p) h.p,za1 hb (za3 h.s) h.s,za1 hb (za3 h.o) h.o⟩
theorem RQ.size{w W:World}{cs ps ss:Array Value}(h:RQ w W cs ps ss):w.heap.size+4<=W.heap.size:=za3 h.o
theorem RQ.set{w W:World}{cs ps ss:Array Value}(h:RQ w W cs ps ss){k i:Nat}{v:Value}(hk:w.heap.size+4<=k):RQ w (W.setCell ⟨k,i,none⟩ v) cs ps ss:=
 ⟨h.b.setCell (by simp;omega) _,zb1 h.c (by omega),zb1 h.p (by omega),zb1 h.s (by omega),zb1 h.o (by omega)⟩
theorem RQ.new(w:World)(cs ps ss:Array Value):RQ w ((((w.alloc (.cells cs 30)).alloc (.cells ps 33)).alloc (.cells ss 86)).alloc (.cells #[.slice none 0 0,.slice none 0 0] 33)) cs ps ss:=by
 refine⟨((((Below.refl _ _).alloc (Nat.le_refl _) _).alloc (by simp) _).alloc (by simp<;>omega) _).alloc (by simp<;>omega) _,?_,?_,?_,?_⟩
 ·exact(heap_alloc_old _ _ (by simp<;>omega)).trans ((heap_alloc_old _ _ (by simp<;>omega)).trans (heap_alloc2_old _ _ _))
 ·exact(heap_alloc_old _ _ (by simp<;>omega)).trans ((heap_alloc_old _ _ (by simp)).trans (heap_alloc2_new _ _ _))
 ·refine(heap_alloc_old _ _ (by simp)).trans ?_
  have:=heap_alloc_new ((w.alloc (.cells cs 30)).alloc (.cells ps 33)) (.cells ss 86);simpa using this
 ·have:=heap_alloc_new (((w.alloc (.cells cs 30)).alloc (.cells ps 33)).alloc (.cells ss 86)) (.cells #[.slice none 0 0,.slice none 0 0] 33)
  simpa using this
theorem zh1{w:World}{k:Nat}{c0 c1 c2:Value}{T:TypeId}(r:w.heap[k]? =some (.cells #[c0,c1,c2] T (0,0))):w.cell? ⟨k,0,none⟩=some c0/\w.cell? ⟨k,1,none⟩=some c1/\w.cell? ⟨k,2,none⟩=some c2:=by
 refine⟨?_,?_,?_⟩<;>simp[World.cell?,r]
theorem zU2(tv:Int)(xa:Option Addr)(xl xc:Nat)(W:World):(Instr.field 43 (.agg #[.int .i64 tv,.slice xa xl xc]) 1).run Tryz.prog W=.ok (.slice xa xl xc) W:=by
 simp[Instr.field,run_underlying Tryz.underlying43,part,asAgg,Tryz.isAgg24]
theorem y10{W W':World}{ra sa:Option Addr}{n c:Nat}{R:List RT}{r:RT}(h:za6 W ra R)(hb:Below W.heap.size W W')(hr:za0 W' r.a r.ids){base:Nat}(ho:W'.ownsRow base 43 2 (.slice sa n c) n (zi6 (wrL R r))):za6 W' sa (wrL R r):=z05 ho (fun s hs=>by
 rcases yy3 hs with hs|rfl
 ·obtain⟨j,hj,rfl⟩:=zv0 hs
  obtain⟨_,_,_,_,_,h3⟩:=h j hj;exact h3.below hb
 ·exact hr)
theorem yv2(R:List RT)(r:RT):(wrL R r).length<=2*R.length+1:=by
 unfold wrL;have h1:=List.length_filter_le (fun x:RT=>decide (x.v<r.v)) R;have h2:=List.length_filter_le (fun x:RT=>decide (r.v<x.v)) R;simp only[List.length_append];split<;>simp<;>omega
set_option maxRecDepth 10000 in
set_option maxHeartbeats 8000000 in
theorem z40(id tv pl n fine:Int)(a ao av ra la:Option Addr)(zl cap ko co kv cv nr rc ln lc:Nat)(zs os vs L:List Int)(R:List RT)(w:World)(hA:za0 w a zs)(hO:za0 w ao os)(hV:za0 w av vs)(hlz:zs.length=zl)(hlo:os.length=ko*6)(hlv:vs.length=kv*5)(hko:ko<=9223372036854775807)(hkv:kv<=9223372036854775807)(hP:zd4 w ra la nr ln R L)(hpl:zc3 n zs os vs ko kv fine R L=0):
 Calls Tryz.prog 52 #[.agg #[.int .i64 n,.slice a zl cap,.slice ao ko co,.slice av kv cv,.int .i64 fine],.agg #[.slice ra nr rc,.slice la ln lc],.agg #[.int .i64 id,.int .i64 tv,.int .i64 pl]] w (zG8 w (rqD id tv pl n fine zs os vs ko kv R L) (rqB id tv pl n fine zs os vs ko kv R L) (rqR id tv pl n fine zs os vs ko kv R L) (rqL id tv pl n fine zs os vs ko kv R L)):=by
 obtain⟨hc,hr,ho1,hl1,hn1⟩:=zc2 hpl;obtain⟨hp,hok⟩:=zi8.1 hr;have hps:=ze7 hpl;have HCB:Hid _:=hc;have HPW:Hid _:=hp;have HNE:Hid (∀r∈R,r.ids≠[]):=fun r hr=>(hok r hr).1;have HND:Hid ((za7 R R.length).Nodup):=ho1.1;have HIN:Hid (zR6 R):=fun r hr=>⟨(hok r hr).1,zm0 (hok r hr).2,hP.2.2.2.2.2.2 r hr⟩;have HPL:Hid _:=hpl;have HA:Hid (za0 w a zs):=hA;have HO:Hid (za0 w ao os):=hO;have HV:Hid (za0 w av vs):=hV;have HLZ:Hid _:=hlz;have HLO:Hid _:=hlo;have HLV:Hid _:=hlv;have HP:Hid (zd4 w ra la nr ln R L):=hP;have HN:Hid _:=hP.1;have HM:Hid _:=hP.2.1;have hr12:=hps.1;have HNO:Hid (rqB id tv pl n fine zs os vs ko kv R L=false->rqD id tv pl n fine zs os vs ko kv R L=0/\rqB id tv pl n fine zs os vs ko kv R L=false/\rqR id tv pl n fine zs os vs ko kv R L=[]/\rqL id tv pl n fine zs os vs ko kv R L=[]):=fun h=>by
  unfold rqD rqR rqL;rw[h];exact⟨rfl,rfl,rfl,rfl⟩
 have HYE:Hid (rqB id tv pl n fine zs os vs ko kv R L=true->rqD id tv pl n fine zs os vs ko kv R L=zf8 n zs os vs ko kv (rlN R id tv pl.toNat) (fine*L.length) (rlN R id tv pl.toNat).length - zf8 n zs os vs ko kv R (fine*L.length) R.length/\rqR id tv pl n fine zs os vs ko kv R L=rlN R id tv pl.toNat/\rqL id tv pl n fine zs os vs ko kv R L=L):=fun h=>by
  unfold rqD rqR rqL;rw[h];exact⟨rfl,rfl,rfl⟩
 have HBE:Hid (rqB id tv pl n fine zs os vs ko kv R L=(decide (id∈za7 R R.length)&&(inB pl 0 ((zc8 (lvR R id) tv).ids.length:Int)&&decide (zc3 n zs os vs ko kv fine (rlN R id tv pl.toNat) L=0)))):=by
  show _=_;unfold rqB;rw[decide_eq_true HPL.out,Bool.true_and]
 obtain⟨GD,HGD⟩:=nmd (rqD id tv pl n fine zs os vs ko kv R L);obtain⟨GB,HGB⟩:=nmd (rqB id tv pl n fine zs os vs ko kv R L);obtain⟨GR,HGR⟩:=nmd (rqR id tv pl n fine zs os vs ko kv R L);obtain⟨GL,HGL⟩:=nmd (rqL id tv pl n fine zs os vs ko kv R L);rw[HGD.out,HGB.out,HGR.out,HGL.out]at HNO;rw[HGD.out,HGB.out,HGR.out,HGL.out]at HYE;rw[HGB.out]at HBE;rw[HGD.out,HGB.out,HGR.out,HGL.out];clear hA hO hV hlz hlo hlv hP hpl hc hr ho1 hl1 hn1 hp hok hps HGD HGB HGR HGL;have Q0:Hid (RQ w ((((w.alloc (.cells #[.int .i64 n,.slice a zl cap,.slice ao ko co,.slice av kv cv,.int .i64 fine] 30)).alloc (.cells #[.slice ra nr rc,.slice la ln lc] 33)).alloc (.cells #[.int .i64 id,.int .i64 tv,.int .i64 pl] 86)).alloc (.cells #[.slice none 0 0,.slice none 0 0] 33)) #[.int .i64 n,.slice a zl cap,.slice ao ko co,.slice av kv cv,.int .i64 fine] #[.slice ra nr rc,.slice la ln lc] #[.int .i64 id,.int .i64 tv,.int .i64 pl]):=RQ.new _ _ _ _;have SO:=yc4 ra la rc ln lc R id ((((w.alloc (.cells #[.int .i64 n,.slice a zl cap,.slice ao ko co,.slice av kv cv,.int .i64 fine] 30)).alloc (.cells #[.slice ra nr rc,.slice la ln lc] 33)).alloc (.cells #[.int .i64 id,.int .i64 tv,.int .i64 pl] 86)).alloc (.cells #[.slice none 0 0,.slice none 0 0] 33)) (HP.2.2.1.below Q0.b) (by omega) (fun j hj=>by have:=(HIN.out _ (zj7 hj)).2.1;omega);rw[HN.out]at SO;obtain⟨p0,p1⟩:=za2 Q0.p;obtain⟨s0,s1,s2⟩:=zh1 Q0.s;go_enter Tryz.func52,Tryz.ntmps52
 go_wp2_with fail
 generalize(((w.alloc (.cells #[.int .i64 n,.slice a zl cap,.slice ao ko co,.slice av kv cv,.int .i64 fine] 30)).alloc (.cells #[.slice ra nr rc,.slice la ln lc] 33)).alloc (.cells #[.int .i64 id,.int .i64 tv,.int .i64 pl] 86)).alloc (.cells #[.slice none 0 0,.slice none 0 0] 33)=W0 at*;refine SO.mono ?_;rintro e w1 ⟨hst,hb⟩;have Q1:Hid _:=Q0.below hb;clear hb SO p0 p1 s0 s1 s2 Q0;rcases hst with⟨k,hk,hno,hix,rfl⟩|⟨hno,rfl⟩;rotate_left
 ·have hni:id∉za7 R R.length:=fun hm=>by
   rw[zd2]at hm;obtain⟨r,hr,hxr⟩:=List.mem_flatMap.1 hm;obtain⟨j,hj,e⟩:=zv0 hr;obtain⟨i,hi,ei⟩:=zA7 (show id∈(R.getD j rt0).ids by rw[e];exact hxr);have:=hno j hj;have h9:zB5 (R.getD j rt0).ids (R.getD j rt0).ids.length id=i:=zU0 hi ei (fun q hq e9=>zO9 (zt0 hj HND.out) hq hi (by rw[e9,ei]));omega
  clear hno;have QA:Hid (RQ w (w1.alloc (.cells #[.int .i64 0,.slice none 0 0] 43)) #[.int .i64 n,.slice a zl cap,.slice ao ko co,.slice av kv cv,.int .i64 fine] #[.slice ra nr rc,.slice la ln lc] #[.int .i64 id,.int .i64 tv,.int .i64 pl]):=Q1.below ((Below.refl _ _).alloc (Nat.le_refl _) _);obtain⟨g1,g2,g3,g4⟩:=HNO.out (by rw[HBE.out,decide_eq_false hni,Bool.false_and]);subst g1 g2 g3 g4;obtain⟨a0,a1⟩:=za2 QA.o;have af:=fun i=>frozen_of_row _ _ i _ _ QA.o;have B5:=QA.b;clear HNO;go_wp2;refine bodyPost_ret (v:=.tuple #[.agg #[.slice none 0 0,.slice none 0 0],.int .i64 0,.bool false]) (by simp[results,Tryz.results52,go_sem,a0,a1]) rfl ?_;show zG8 _ _ _ _ _ _ _;exact⟨none,0,0,none,0,0,[],rfl,(B5.setCell (by simp<;>omega) _).setCell (by simp<;>omega) _,rfl,rfl,rfl,(fun j hj=>by simp at hj),(fun j hj=>by simp at hj),.inl ⟨rfl,rfl⟩,.inl ⟨rfl,rfl⟩,(fun r hr=>by cases hr)⟩
 ·have hm:id∈(R.getD k rt0).ids:=by
   refine Decidable.byContradiction fun h9=> ?_;have:=zN6 (zs:=(R.getD k rt0).ids) (m:=(R.getD k rt0).ids.length) (id:=id) (fun j hj e9=>h9 (by rw[<-e9];exact zz5 _ _ hj));omega
  have HIM:Hid _:=hm;obtain⟨at_,ha,ea⟩:=zA7 hm;have hyn:=zt0 hk HND.out;have hx:zB5 (R.getD k rt0).ids (R.getD k rt0).ids.length id=at_:=zU0 ha ea (fun j hj e9=>zO9 hyn hj ha (by rw[e9,ea]));rw[hx];have hfl:id∈za7 R R.length:=by rw[zd2];exact List.mem_flatMap.2 ⟨_,zj7 hk,hm⟩
  rw[decide_eq_true hfl,Bool.true_and]at HBE;have HTW:=fun(R2:List RT) (h9:R2.map RT.key=(rlN R id tv pl.toNat).map RT.key)=>yn1 HPL.out hk hm tv pl.toNat h9;have HSM:=zN2 HPL.out hk hm tv pl.toNat;have HLK:=fun(a9:Option Addr) (c9:Nat)=>ya4 (ze4 HPW.out) hk HNE.out HND.out ha ea a9 c9;obtain⟨b0,o0,er,-⟩:=(HP.2.2.1 k hk).choose_spec.choose_spec.2.2.2 at_ ha;have HI0:Hid (∀W,Below w.heap.size w W->za0 W (some ⟨b0,o0,none⟩) (R.getD k rt0).ids):=fun W hW=>by
   obtain⟨_,_,_,_,_,h3⟩:=(HP.2.2.1.below hW) k hk;rw[er]at h3;exact h3
  have h12:=(HIN.out _ (zj7 hk)).2.1;rw[er];have HTW2:Hid _:=HTW;have HSM2:Hid _:=HSM;have HLK2:Hid _:=HLK;clear hno hix hx hfl HTW HSM HLK hm hyn ea er;obtain⟨y,HY⟩:=nmd (R.getD k rt0);rw[HY.out]at ha HTW2 HLK2 HI0 h12 HIM⊢;obtain⟨v0,ya,yids,c0⟩:=y;simp only at ha HTW2 HLK2 HI0 h12 HIM⊢;obtain⟨l0,HL0⟩:=nmd yids.length;rw[HL0.out]at ha h12⊢;have haI:inB (at_:Int) 0 ((l0:Int) - 1)=true:=zm8 (by omega);clear HY;have hA2:Below w1.heap.size w1 (w1.alloc (.cells #[.int .i64 v0,.slice (some ⟨b0,o0,none⟩) l0 c0] 43)):=(Below.refl _ _).alloc (Nat.le_refl _) _;have Q2:Hid _:=Q1.below hA2;have F2:Hid ((w1.alloc (.cells #[.int .i64 v0,.slice (some ⟨b0,o0,none⟩) l0 c0] 43)).heap[w1.heap.size]? =some (.cells #[.int .i64 v0,.slice (some ⟨b0,o0,none⟩) l0 c0] 43 (0,0))):=heap_alloc_new _ _;have HKF:Hid _:=Q1.size;clear hA2 Q1
  go_wp2_with fail
  generalize w1.alloc (.cells #[.int .i64 v0,.slice (some ⟨b0,o0,none⟩) l0 c0] 43)=W2 at*;obtain⟨kf,HKE⟩:=nmd w1.heap.size;rw[HKE.out]at F2 HKF⊢;refine wp_region_held_drew (S:=(fun W=>W.cell? ⟨kf,0,none⟩=some (.int .i64 v0)/\W.cell? ⟨kf,1,none⟩=some (.slice (some ⟨b0,o0,none⟩) l0 c0))) (by kernel_rfl) ?_ (fun hHeld=> ?_)
  ·exact za2 (za1 (Below.refl _ _).drew (za3 F2.out) F2.out)
  have QD:Hid _:=Q2.below (Below.refl _ _).drew;have FD:Hid _:=za1 (Below.refl _ _).drew (za3 F2.out) F2.out;generalize W2.drew=wd at*;refine tkH 0 hHeld ?_;refine tkH 2 hHeld ?_;refine tkH 3 hHeld ?_;refine wpAnyH_ready (rs:=[1]) (by kernel_rfl) (by simp) ?_;refine AllReadyH.cons rfl (fun K hK=> ?_) AllReadyH.nil;go_simp;refine(zG1 (at_:Int) wd).mono ?_;rintro e w3 ⟨pp,-,rfl,hb,hcp⟩;have Q3:Hid _:=QD.below hb;have F3:Hid _:=za1 hb (za3 FD.out) FD.out;have P3:Hid _:=hcp;clear hb hcp
  (try go_wp2_with fail)
  refine hK.out _ _ ?_ (fun hHeld=> ?_)
  ·exact za2 F3.out
  clear hK K
  (try simp only[Act.put,List.setIfInBounds_toArray,List.set_cons_zero,List.set_cons_succ])
  refine wpAnyH_ready (rs:=[4]) (by kernel_rfl) (by simp) ?_;refine AllReadyH.cons rfl (fun K hK=> ?_) AllReadyH.nil;go_simp;have TO:=zQ9 pp (at_:Int) (some ⟨b0,o0,none⟩) c0 yids w3 P3.out (HI0.out w3 Q3.b) (by rw[HL0.out];exact h12);rw[HL0.out,haI]at TO;refine TO.mono ?_;rintro e w4 ⟨hb,⟨h9,_⟩|⟨_,g1,c1,rfl,ho⟩⟩
  ·cases h9
  have Q4:Hid _:=Q3.below hb;have F4:Hid _:=za1 hb (za3 F3.out) F3.out;have I4:Hid (za0 w4 (some ⟨g1,0,none⟩) (zB2 yids at_)):=zq6 ho;have hc1:(zB2 yids at_).length<=c1:=zF6 ho;clear hb ho TO P3
  (try go_wp2_with fail)
  refine hK.out _ _ ?_ (fun hHeld=> ?_)
  ·exact za2 F4.out
  clear hK K
  (try simp only[Act.put,List.setIfInBounds_toArray,List.set_cons_zero,List.set_cons_succ])
  refine tkH 5 hHeld ?_;refine tkH 6 hHeld ?_;refine tkH 7 hHeld ?_;refine tkH 8 hHeld ?_;refine tkH 9 hHeld ?_;refine wpAnyH_done (by kernel_rfl) ?_ _;clear hHeld;obtain⟨M1,HM1⟩:=nmd (zB2 yids at_);have HKY1:=HLK2.out (some ⟨g1,0,none⟩) c1;rw[HM1.out]at I4 hc1 HKY1
  try simp only[Int.toNat_natCast]
  try rw[HM1.out]
  have hM12:M1.length<=12:=by rw[<-HM1.out];unfold zB2;simp;have:=HL0.out;omega
  obtain⟨R1,HR1⟩:=nmd (wrL R ⟨v0,some ⟨g1,0,none⟩,M1,c1⟩);rw[HR1.out]at HKY1;have HPW1:Hid (R1.Pairwise (fun a b=>a.v<b.v)):=by rw[<-HR1.out];exact zM4 HPW.out
  have HIN1:Hid (zR6 R1):=fun r hr=>by
   rw[<-HR1.out]at hr;rcases zt8.1 hr with⟨hm9,_⟩|⟨e9,hn9⟩
   ·exact HIN.out r hm9
   ·rw[e9];exact⟨hn9,hM12,hc1⟩
  have hR1n:R1.length<=25:=by rw[<-HR1.out];have:=yv2 R ⟨v0,some ⟨g1,0,none⟩,M1,c1⟩;omega
  have HK1:Hid _:=HKY1;have WR1:=zy3 ra la rc ln lc R ⟨v0,some ⟨g1,0,none⟩,M1,c1⟩ w4 (HP.2.2.1.below Q4.b) (by omega) (ze4 HPW.out) (by rw[HN.out];exact HP.2.2.2.2.1) (by simp only;omega);rw[HN.out,HR1.out]at WR1;clear HKY1 HLK2;obtain⟨p0,p1⟩:=za2 Q4.p;obtain⟨f0,f1⟩:=za2 F4.out;obtain⟨m1,HM1L⟩:=nmd M1.length;simp only[HM1L.out]at WR1;rw[HM1L.out]at hM12 hc1
  try rw[HM1L.out]
  go_wp2_with fail
  refine WR1.mono ?_;rintro e w5 ⟨sl,rfl,hb,ho⟩;obtain⟨mr,HMR⟩:=nmd R1.length;rw[HMR.out]at ho hR1n;obtain⟨rb,mc,hsl⟩:=z71 ho;subst hsl;have RA5:za6 w5 rb R1:=by
   have h9:=y10 (HP.2.2.1.below Q4.b) hb (r:=⟨v0,some ⟨g1,0,none⟩,M1,c1⟩) (I4.below hb) (sa:=rb) (n:=mr) (c:=mc) (base:=w4.heap.size) (by rw[HR1.out];exact ho);rw[HR1.out]at h9;exact h9
  have HFB:Hid ((rb=none/\R1.length=0)∨∃b off,rb=some ⟨b,off,none⟩):=by
   rcases own_kinds ho with⟨h1,h2⟩|⟨g9,c9,h1,_⟩
   ·injection h1 with h1 _ _
    exact .inl ⟨h1,by rw[HMR.out];exact h2⟩
   ·injection h1 with h1 _ _
    exact .inr ⟨g9,0,h1⟩
  have hA6:Below w5.heap.size w5 (w5.alloc (.cells #[.slice rb mr mc,.slice la ln lc] 33)):=(Below.refl _ _).alloc (Nat.le_refl _) _;have hb6:=hb.trans (hA6.mono hb.size);have Q6:Hid _:=Q4.below hb6;have F6:Hid _:=za1 hb6 (za3 F4.out) F4.out;have N6:Hid ((w5.alloc (.cells #[.slice rb mr mc,.slice la ln lc] 33)).heap[w5.heap.size]? =some (.cells #[.slice rb mr mc,.slice la ln lc] 33 (0,0))):=heap_alloc_new _ _;have RA6:Hid (za6 (w5.alloc (.cells #[.slice rb mr mc,.slice la ln lc] 33)) rb R1):=RA5.below hA6;have HKN:Hid (w.heap.size+4<=w5.heap.size/\w5.heap.size≠kf):=⟨(Q4.below hb).size,by have:=za3 (za1 hb (za3 F4.out) F4.out);omega⟩;clear hb ho WR1 RA5 hA6 hb6 Q4 F4 I4 p0 p1 f0 f1
  go_wp2_with fail
  generalize w5.alloc (.cells #[.slice rb mr mc,.slice la ln lc] 33)=W6 at*;obtain⟨kn,HKNE⟩:=nmd w5.heap.size;rw[HKNE.out]at N6 HKN⊢;have HXK:Hid _:=zv5 HK1.out tv;rw[<-HXK.out]at HBE;have hx12:(zc8 R1 tv).ids.length<=12:=by
   rcases zu3 R1 tv with h9|h9
   ·exact(HIN1.out _ h9).2.1
   ·rw[h9];simp
  have HRO:Hid (∀W,za6 W rb R1->Calls Tryz.prog 62 #[.agg #[.slice rb mr mc,.slice la ln lc],.int .i64 tv] W fun e w'=>e=.returned (.agg #[.int .i64 tv,.slice (zc8 R1 tv).a (zc8 R1 tv).ids.length (zc8 R1 tv).c])/\Below W.heap.size W w'):=fun W hW=>by
   have h9:=zq8 rb la mc ln lc R1 tv W hW (by rw[HMR.out];omega) (ze4 HPW1.out);rw[HMR.out]at h9;exact h9
  have HXI:Hid (∀W,za6 W rb R1->za0 W (zc8 R1 tv).a (zc8 R1 tv).ids/\(((zc8 R1 tv).a=none/\(zc8 R1 tv).ids.length=0)∨∃b off,(zc8 R1 tv).a=some ⟨b,off,none⟩)):=fun W hW=>by
   obtain⟨h1,_,_,h4⟩:=zF8 hW HIN1.out tv;exact⟨h1,h4⟩
  have HR2K:Hid (∀(a9:Option Addr) (c9:Nat),(wrL R1 ⟨tv,a9,insL (zc8 R1 tv).ids pl.toNat id,c9⟩).map RT.key=(rlN R id tv pl.toNat).map RT.key):=fun a9 c9=>zR8 HK1.out (by show(_,_)=(_,_);rw[HXK.out])
  obtain⟨X,HX⟩:=nmd ((zc8 R1 tv).ids);rw[HX.out]at HBE hx12 HRO HXI HR2K;obtain⟨xa,HXA⟩:=nmd ((zc8 R1 tv).a);obtain⟨xc,HXC⟩:=nmd ((zc8 R1 tv).c);rw[HXA.out]at HRO HXI;rw[HXC.out]at HRO;obtain⟨xl,HXL⟩:=nmd X.length;rw[HXL.out]at HBE hx12 HRO;obtain⟨ib,HIB⟩:=nmd (inB pl 0 (xl:Int));rw[HIB.out]at HBE;have HIL:Hid ((insL X pl.toNat id).length<=13):=by show _<=_;unfold insL;simp;have:=HXL.out;omega
  have hfld:=zU2 tv xa xl xc;clear HX HXA HXC HXK;have hD6:Below W6.heap.size W6 W6.drew:=(Below.refl _ _).drew;refine wp_region_held_drew (S:=(fun W=>W.cell? ⟨w.heap.size+2,0,none⟩=some (.int .i64 id)/\W.cell? ⟨w.heap.size+2,1,none⟩=some (.int .i64 tv)/\W.cell? ⟨w.heap.size+2,2,none⟩=some (.int .i64 pl)/\W.cell? ⟨kn,0,none⟩=some (.slice rb mr mc)/\W.cell? ⟨kn,1,none⟩=some (.slice la ln lc))) (by kernel_rfl) ?_ (fun hHeld=> ?_)
  ·exact(fun(h1:W6.drew.heap[w.heap.size+2]? =some (.cells #[.int .i64 id,.int .i64 tv,.int .i64 pl] 86 (0,0))) (h2:W6.drew.heap[kn]? =some (.cells #[.slice rb mr mc,.slice la ln lc] 33 (0,0)))=>And.intro (zh1 h1).1 (And.intro (zh1 h1).2.1 (And.intro (zh1 h1).2.2 (And.intro (za2 h2).1 (za2 h2).2)))) (za1 hD6 (za3 Q6.s) Q6.s) (za1 hD6 (za3 N6.out) N6.out)
  clear hD6;have hKS:Hid (∀W:World,W.heap[w.heap.size+2]? =some (.cells #[.int .i64 id,.int .i64 tv,.int .i64 pl] 86 (0,0))->W.heap[kn]? =some (.cells #[.slice rb mr mc,.slice la ln lc] 33 (0,0))->(fun W=>W.cell? ⟨w.heap.size+2,0,none⟩=some (.int .i64 id)/\W.cell? ⟨w.heap.size+2,1,none⟩=some (.int .i64 tv)/\W.cell? ⟨w.heap.size+2,2,none⟩=some (.int .i64 pl)/\W.cell? ⟨kn,0,none⟩=some (.slice rb mr mc)/\W.cell? ⟨kn,1,none⟩=some (.slice la ln lc)) W):=fun W h1 h2=>by
   obtain⟨x0,x1,x2⟩:=zh1 h1;obtain⟨y0,y1⟩:=za2 h2;exact⟨x0,x1,x2,y0,y1⟩
  have QD6:Hid _:=Q6.below (Below.refl _ _).drew;have FD6:Hid _:=za1 (Below.refl _ _).drew (za3 F6.out) F6.out;have ND6:Hid _:=za1 (Below.refl _ _).drew (za3 N6.out) N6.out;have RD6:Hid (za6 W6.drew rb R1):=RA6.below (Below.refl _ _).drew;clear Q6 F6 N6 RA6;generalize W6.drew=wd6 at*;refine tkH 0 hHeld ?_;refine tkH 1 hHeld ?_;refine tkH 2 hHeld ?_;refine tkH 3 hHeld ?_;refine tkH 5 hHeld ?_;refine tkH 6 hHeld ?_;refine tkH 7 hHeld ?_;refine wpAnyH_ready (rs:=[4]) (by kernel_rfl) (by simp) ?_;refine AllReadyH.cons rfl (fun K hK=> ?_) AllReadyH.nil;go_simp;refine(zH4 id pl wd6).mono ?_;rintro e w7 ⟨pp,qq,rfl,hb,hcp,hcq⟩;have Q7:Hid _:=QD6.below hb;have F7:Hid _:=za1 hb (za3 FD6.out) FD6.out;have N7:Hid _:=za1 hb (za3 ND6.out) ND6.out;have RA7:Hid (za6 w7 rb R1):=RD6.below hb;have PQ7:Hid (w7.cell? ⟨pp,0,none⟩=some (.int .i64 pl)/\w7.cell? ⟨qq,0,none⟩=some (.int .i64 id)):=⟨hcp,hcq⟩;clear hb hcp hcq
  (try go_wp2_with fail)
  refine hK.out _ _ ?_ (fun hHeld=> ?_)
  ·exact hKS.out _ Q7.s N7.out
  clear hK K
  (try simp only[Act.put,List.setIfInBounds_toArray,List.set_cons_zero,List.set_cons_succ])
  refine wpAnyH_ready (rs:=[8]) (by kernel_rfl) (by simp) ?_;refine AllReadyH.cons rfl (fun K hK=> ?_) AllReadyH.nil;go_simp;refine(HRO.out w7 RA7.out).mono ?_;rintro e w8 ⟨rfl,hb⟩;have Q8:Hid _:=Q7.below hb;have F8:Hid _:=za1 hb (za3 F7.out) F7.out;have N8:Hid _:=za1 hb (za3 N7.out) N7.out;have RA8:Hid (za6 w8 rb R1):=RA7.below hb;have PQ8:Hid (w8.cell? ⟨pp,0,none⟩=some (.int .i64 pl)/\w8.cell? ⟨qq,0,none⟩=some (.int .i64 id)):=⟨keepL PQ7.1 hb,keepL PQ7.2 hb⟩;clear hb
  (try go_wp2_with fail)
  refine hK.out _ _ ?_ (fun hHeld=> ?_)
  ·exact hKS.out _ Q8.s N8.out
  clear hK K
  (try simp only[Act.put,List.setIfInBounds_toArray,List.set_cons_zero,List.set_cons_succ])
  refine tkH 9 hHeld ?_;refine wpAnyH_ready (rs:=[10]) (by kernel_rfl) (by simp) ?_;refine AllReadyH.cons rfl (fun K hK=> ?_) AllReadyH.nil;go_simp;have PI:=ym9 pp qq pl id xa xc X w8 PQ8.1 PQ8.2 (HXI.out w8 RA8.out).1 (by rw[HXL.out];exact hx12) (HXI.out w8 RA8.out).2;rw[HXL.out,HIB.out]at PI;cases ib
  ·refine PI.mono ?_
   rintro e w9 ⟨hb,⟨_,rfl⟩|⟨h9,_⟩⟩;rotate_left
   ·cases h9
   have Q9:Hid _:=Q8.below hb;have N9:Hid _:=za1 hb (za3 N8.out) N8.out;clear hb PI
   (try go_wp2_with fail)
   refine hK.out _ _ ?_ (fun hHeld=> ?_)
   ·exact hKS.out _ Q9.s N9.out
   clear hK K
   (try simp only[Act.put,List.setIfInBounds_toArray,List.set_cons_zero,List.set_cons_succ])
   refine tkH 11 hHeld ?_;refine tkH 12 hHeld ?_;refine tkH 13 hHeld ?_;refine tkH 14 hHeld ?_;refine tkH 15 hHeld ?_;refine wpAnyH_done (by kernel_rfl) ?_ _;clear hHeld;obtain⟨g1,g2,g3,g4⟩:=HNO.out (by rw[HBE.out,Bool.false_and]);subst g1 g2 g3 g4;obtain⟨a0,a1⟩:=za2 Q9.o;have af:=fun i=>frozen_of_row _ _ i _ _ Q9.o;have B5:=Q9.b;clear HNO;go_wp2;refine bodyPost_ret (v:=.tuple #[.agg #[.slice none 0 0,.slice none 0 0],.int .i64 0,.bool false]) (by simp[results,Tryz.results52,go_sem,a0,a1]) rfl ?_;show zG8 _ _ _ _ _ _ _;exact⟨none,0,0,none,0,0,[],rfl,(B5.setCell (by simp<;>omega) _).setCell (by simp<;>omega) _,rfl,rfl,rfl,(fun j hj=>by simp at hj),(fun j hj=>by simp at hj),.inl ⟨rfl,rfl⟩,.inl ⟨rfl,rfl⟩,(fun r hr=>by cases hr)⟩
  refine PI.mono ?_;rintro e w9 ⟨hb,⟨h9,_⟩|⟨_,g2,c2,rfl,ho⟩⟩
  ·cases h9
  have Q9:Hid _:=Q8.below hb;have F9:Hid _:=za1 hb (za3 F8.out) F8.out;have N9:Hid _:=za1 hb (za3 N8.out) N8.out;have RA9:Hid (za6 w9 rb R1):=RA8.below hb;have I9:Hid (za0 w9 (some ⟨g2,0,none⟩) (insL X pl.toNat id)):=zq6 ho;have hc2:=zF6 ho;clear hb ho PI PQ8 PQ7
  (try go_wp2_with fail)
  refine hK.out _ _ ?_ (fun hHeld=> ?_)
  ·exact hKS.out _ Q9.s N9.out
  clear hK K
  (try simp only[Act.put,List.setIfInBounds_toArray,List.set_cons_zero,List.set_cons_succ])
  refine tkH 11 hHeld ?_;refine tkH 12 hHeld ?_;refine tkH 13 hHeld ?_;refine tkH 14 hHeld ?_;refine tkH 15 hHeld ?_;refine wpAnyH_done (by kernel_rfl) ?_ _;clear hHeld;rw[Bool.true_and]at HBE;obtain⟨M2,HM2⟩:=nmd (insL X pl.toNat id);rw[HM2.out]at I9 hc2 HIL HR2K
  try rw[HM2.out]
  have HKY2:=HR2K.out (some ⟨g2,0,none⟩) c2;obtain⟨R2,HR2⟩:=nmd (wrL R1 ⟨tv,some ⟨g2,0,none⟩,M2,c2⟩);rw[HR2.out]at HKY2;have HK2:Hid _:=HKY2;have HPW2:Hid (R2.Pairwise (fun a b=>a.v<b.v)):=by rw[<-HR2.out];exact zM4 HPW1.out
  have HIN2:Hid (zR6 R2):=fun r hr=>by
   obtain⟨h1,h2⟩:=z93 HK2.out HSM2.out r hr;refine⟨h1,h2,?_⟩;rw[<-HR2.out]at hr;rcases zt8.1 hr with⟨hm9,_⟩|⟨e9,hn9⟩
   ·exact(HIN1.out r hm9).2.2
   ·rw[e9];exact hc2
  have hR2n:R2.length<=51:=by rw[<-HR2.out];have:=yv2 R1 ⟨tv,some ⟨g2,0,none⟩,M2,c2⟩;have:=HMR.out;omega
  have HCM:=HTW2.out R2 HK2.out;have WR2:=zy3 rb la mc ln lc R1 ⟨tv,some ⟨g2,0,none⟩,M2,c2⟩ w9 RA9.out (by rw[HMR.out];omega) (ze4 HPW1.out) HFB.out (by simp only;have:=HIL.out;omega);rw[HMR.out,HR2.out]at WR2;obtain⟨m2,HM2L⟩:=nmd M2.length;simp only[HM2L.out]at WR2
  try rw[HM2L.out]
  obtain⟨s0,s1,s2⟩:=zh1 Q9.s;obtain⟨n0,n1⟩:=za2 N9.out
  go_wp2_with fail
  refine WR2.mono ?_;rintro e w10 ⟨sl,rfl,hb,ho⟩;obtain⟨nr2,HNR2⟩:=nmd R2.length;rw[HNR2.out]at ho hR2n;obtain⟨rd,rdc,hsl⟩:=z71 ho;subst hsl;have RA10:za6 w10 rd R2:=by
   have h9:=y10 RA9.out hb (r:=⟨tv,some ⟨g2,0,none⟩,M2,c2⟩) (I9.below hb) (sa:=rd) (n:=nr2) (c:=rdc) (base:=w9.heap.size) (by rw[HR2.out];exact ho);rw[HR2.out]at h9;exact h9
  have HFD:Hid ((rd=none/\nr2=0)∨∃b off,rd=some ⟨b,off,none⟩):=by
   rcases own_kinds ho with⟨h1,h2⟩|⟨g9,c9,h1,_⟩
   ·injection h1 with h1 _ _
    exact .inl ⟨h1,h2⟩
   ·injection h1 with h1 _ _
    exact .inr ⟨g9,0,h1⟩
  have N10:=za1 hb (za3 N9.out) N9.out;have F10:=za1 hb (za3 F9.out) F9.out;have s1':=heap_setCell_same w10 kn 0 _ _ (Value.slice rd nr2 rdc) N10;simp only[List.setIfInBounds_toArray,List.set_cons_zero]at s1';have s2':=heap_setCell_same _ kn 1 _ _ (Value.slice la ln lc) s1';simp only[List.setIfInBounds_toArray,List.set_cons_zero,List.set_cons_succ]at s2';have N11:Hid _:=s2';have Q11:Hid (RQ w ((w10.setCell ⟨kn,0,none⟩ (.slice rd nr2 rdc)).setCell ⟨kn,1,none⟩ (.slice la ln lc)) #[.int .i64 n,.slice a zl cap,.slice ao ko co,.slice av kv cv,.int .i64 fine] #[.slice ra nr rc,.slice la ln lc] #[.int .i64 id,.int .i64 tv,.int .i64 pl]):=((Q9.below hb).set HKN.1).set HKN.1;have F11:Hid (((w10.setCell ⟨kn,0,none⟩ (.slice rd nr2 rdc)).setCell ⟨kn,1,none⟩ (.slice la ln lc)).heap[kf]? =some (.cells #[.int .i64 v0,.slice (some ⟨b0,o0,none⟩) l0 c0] 43 (0,0))):=zb1 (zb1 F10 (Ne.symm HKN.2)) (Ne.symm HKN.2);have RA11:Hid (za6 ((w10.setCell ⟨kn,0,none⟩ (.slice rd nr2 rdc)).setCell ⟨kn,1,none⟩ (.slice la ln lc)) rd R2):=zh5 (zh5 RA10 N10 0 _) s1' 1 _;have nf:=fun i=>frozen_of_row _ _ i _ _ N10;obtain⟨n0,n1⟩:=za2 N10;clear hb ho WR2 Q9 N9 F9 RA9 I9 F10 s1' s2' s0 s1 s2 RA10;obtain⟨c0',c1',c2',c3',c4'⟩:=za8 Q11.c;obtain⟨p0,p1⟩:=za2 Q11.p;obtain⟨s0,s1,s2⟩:=zh1 Q11.s;obtain⟨f0,f1⟩:=za2 F11.out;obtain⟨m0,m1'⟩:=za2 N11.out
  go_wp2_with fail
  clear n0 n1 nf N10;generalize((w10.setCell ⟨kn,0,none⟩ (.slice rd nr2 rdc)).setCell ⟨kn,1,none⟩ (.slice la ln lc))=W11 at*;obtain⟨CB,HCB2⟩:=nmd ((z06 v0 tv).all (cmK n zs os vs ko kv R2));obtain⟨CD,HCD⟩:=nmd (if CB=true then((z06 v0 tv).map (cmF n zs os vs ko kv R R2)).sum else 0);have CM:=zI4 n fine v0 tv a ao av ra la rd la zl cap ko co kv cv nr rc ln lc nr2 rdc ln lc zs os vs R R2 W11 (HA.below Q11.b) (HO.below Q11.b) (HV.below Q11.b) HLZ.out HLO.out HLV.out hko hkv HCB.out (HP.2.2.1.below Q11.b) HN.out (by have:=HN.out;omega) (ze4 HPW.out) HIN.out RA11.out HNR2.out (by omega) (ze4 HPW2.out) HIN2.out CB HCB2.out CD HCD.out;refine CM.mono ?_;rintro e w12 ⟨rfl,hb⟩;have Q12:Hid _:=Q11.below hb;have N12:Hid _:=za1 hb (za3 N11.out) N11.out;have RA12:Hid (za6 w12 rd R2):=RA11.below hb;clear hb CM Q11 N11 F11 RA11 c0' c1' c2' c3' c4' p0 p1 s0 s1 s2 f0 f1 m0 m1';rw[<-HCM.1,HCB2.out]at HBE;cases CB
  ·skip
   obtain⟨g1,g2,g3,g4⟩:=HNO.out (by rw[HBE.out]);subst g1 g2 g3 g4;obtain⟨a0,a1⟩:=za2 Q12.o;have af:=fun i=>frozen_of_row _ _ i _ _ Q12.o;have B5:=Q12.b;clear HNO;go_wp2;refine bodyPost_ret (v:=.tuple #[.agg #[.slice none 0 0,.slice none 0 0],.int .i64 0,.bool false]) (by simp[results,Tryz.results52,go_sem,a0,a1]) rfl ?_;show zG8 _ _ _ _ _ _ _;exact⟨none,0,0,none,0,0,[],rfl,(B5.setCell (by simp<;>omega) _).setCell (by simp<;>omega) _,rfl,rfl,rfl,(fun j hj=>by simp at hj),(fun j hj=>by simp at hj),.inl ⟨rfl,rfl⟩,.inl ⟨rfl,rfl⟩,(fun r hr=>by cases hr)⟩
  ·obtain⟨y1,y2,y3⟩:=HYE.out HBE.out
   have hdv:zc3 n zs os vs ko kv fine (rlN R id tv pl.toNat) L=0:=by
    have h9:=HCM.1;rw[HCB2.out]at h9;exact of_decide_eq_true h9.symm
   have HDD:Hid (CD=GD):=by
    show _=_;rw[<-HCD.out,if_pos rfl,HCM.2 hdv (fine*L.length),y1]
   have HKG:Hid (R2.map RT.key=GR.map RT.key):=by show _=_;rw[y2];exact HK2.out
   have HBT:=HBE.out;clear y1 y2 hdv;rw[HDD.out];subst HBT;subst y3;obtain⟨a0,a1⟩:=za2 Q12.o;have af:=fun i=>frozen_of_row _ _ i _ _ Q12.o;obtain⟨n0,n1⟩:=za2 N12.out;have s1':=heap_setCell_same w12 (w.heap.size+3) 0 _ _ (Value.slice rd nr2 rdc) Q12.o;simp only[List.setIfInBounds_toArray,List.set_cons_zero]at s1';have RAE:Hid (za6 ((w12.setCell ⟨w.heap.size+3,0,none⟩ (.slice rd nr2 rdc)).setCell ⟨w.heap.size+3,1,none⟩ (.slice la ln lc)) rd R2):=zh5 (zh5 RA12.out Q12.o 0 _) s1' 1 _;have LAE:Hid (za0 ((w12.setCell ⟨w.heap.size+3,0,none⟩ (.slice rd nr2 rdc)).setCell ⟨w.heap.size+3,1,none⟩ (.slice la ln lc)) la GL):=zo7 (zo7 (HP.2.2.2.1.below Q12.b) Q12.o 0 _) s1' 1 _;have BE:Hid (Below w.heap.size w ((w12.setCell ⟨w.heap.size+3,0,none⟩ (.slice rd nr2 rdc)).setCell ⟨w.heap.size+3,1,none⟩ (.slice la ln lc))):=(Q12.b.setCell (by simp<;>omega) _).setCell (by simp<;>omega) _;clear s1';go_wp2;refine bodyPost_ret (v:=.tuple #[.agg #[.slice rd nr2 rdc,.slice la ln lc],.int .i64 GD,.bool true]) (by simp[results,Tryz.results52,go_sem,a0,a1]) rfl ?_;show zG8 _ _ _ _ _ _ _;exact⟨rd,nr2,rdc,la,ln,lc,R2,rfl,BE.out,HKG.out,HNR2.out,HM.out,RAE.out,LAE.out,HFD.out,HP.2.2.2.2.2.1,fun r hr=>(HIN2.out r hr).2.2⟩
theorem zJ1(id tv pl n fine:Int)(a ao av ra la:Option Addr)(zl cap ko co kv cv nr rc ln lc:Nat)(zs os vs L:List Int)(R:List RT)(w:World)(hA:za0 w a zs)(hO:za0 w ao os)(hV:za0 w av vs)(hlz:zs.length=zl)(hlo:os.length=ko*6)(hlv:vs.length=kv*5)(hko:ko<=9223372036854775807)(hkv:kv<=9223372036854775807)(hP:zd4 w ra la nr ln R L)(hpl:zc3 n zs os vs ko kv fine R L=0):
 Calls Tryz.prog 52 #[.agg #[.int .i64 n,.slice a zl cap,.slice ao ko co,.slice av kv cv,.int .i64 fine],.agg #[.slice ra nr rc,.slice la ln lc],.agg #[.int .i64 id,.int .i64 tv,.int .i64 pl]] w (yz0 w (rqD id tv pl n fine zs os vs ko kv R L) (rqB id tv pl n fine zs os vs ko kv R L) (rqR id tv pl n fine zs os vs ko kv R L) (rqL id tv pl n fine zs os vs ko kv R L)):=(z40 id tv pl n fine a ao av ra la zl cap ko co kv cv nr rc ln lc zs os vs L R w hA hO hV hlz hlo hlv hko hkv hP hpl).mono (fun _ _ h=>h.is)
end Go.Proofs.YtjobhigmdaiinaaGreat
