import Derived.Test.YtjobhigmdaiinaaGreatPack3
import Derived.Test.YtjobhigmdaiinaaGreatPack28
namespace Go.Proofs.YtjobhigmdaiinaaGreat
open Go.RowKit
theorem yo8{n:Int}{zs os vs:List Int}{ko kv:Nat}{fine:Int}{R:List RT}{k m:Nat}(hc:zb8 n zs os vs ko kv fine=true)(hk:k<m)(h:¬zT7 R k<(R.getD k rt0).v):¬zf0 n zs os vs ko kv R m:=fun H=>
 h ((zQ2 hc (H k hk).2.2).1 (H k hk).1)
set_option maxRecDepth 100000 in
set_option maxHeartbeats 2000000 in
theorem zI4(n fine:Int)(a ao av ra:Option Addr)(cap ko co kv cv rc:Nat)(zs os vs:List Int)(R:List RT)(w:World)(hA:za0 w a zs)(hO:za0 w ao os)(hV:za0 w av vs)(hR:za6 w ra R)(hlo:os.length=ko*6)(hlv:vs.length=kv*5)(hko:ko<=9223372036854775807)(hkv:kv<=9223372036854775807)(hn:R.length<=1048576)(hi:∀r∈R,r.ids.length<=1048576)(hrc:∀r∈R,r.ids.length<=r.c)(hcB:zb8 n zs os vs ko kv fine=true):
 Calls Tryz.prog 74 #[.agg #[.int .i64 n,.slice a zs.length cap,.slice ao ko co,.slice av kv cv,.int .i64 fine],.slice ra R.length rc] w fun e w'=>Below w.heap.size w w'/\((e=.returned (.bool true)/\zf0 n zs os vs ko kv R R.length)∨(e=.returned (.bool false)/\¬zf0 n zs os vs ko kv R R.length)):=by
 have HA:Hid (za0 w a zs):=hA;have HO:Hid (za0 w ao os):=hO;have HV:Hid (za0 w av vs):=hV;have HR:Hid (za6 w ra R):=hR;have HLO:Hid _:=hlo;have HLV:Hid _:=hlv;have HI:Hid _:=hi;have HRC:Hid _:=hrc;have HC:Hid _:=hcB;clear hA hO hV hR hlo hlv hi hrc hcB;obtain⟨m,HN⟩:=nmd R.length;rw[HN.out]at hn⊢;have hnn:=HN.out;have B0:Hid (Below w.heap.size w (w.alloc (.cells #[.int .i64 n,.slice a zs.length cap,.slice ao ko co,.slice av kv cv,.int .i64 fine] 30))):=(Below.refl _ _).alloc (Nat.le_refl _) _;have G0:Hid ((w.alloc (.cells #[.int .i64 n,.slice a zs.length cap,.slice ao ko co,.slice av kv cv,.int .i64 fine] 30)).heap[w.heap.size]? =_):=heap_alloc_new _ _;go_enter Tryz.func74,Tryz.ntmps74
 go_wp2_with fail
 generalize(w.alloc (.cells #[.int .i64 n,.slice a zs.length cap,.slice ao ko co,.slice av kv cv,.int .i64 fine] 30))=W0 at*;go_loopw[5,12] (fun tl t wr=>∃k:Nat,k<=m/\t=.int .i64 k/\tl=.int .i64 (zT7 R k)/\zf0 n zs os vs ko kv R k/\Below w.heap.size w wr/\wr.heap[w.heap.size]? =some (.cells #[.int .i64 n,.slice a zs.length cap,.slice ao ko co,.slice av kv cv,.int .i64 fine] 30 (0,0))) (fun _ t _=>m - (intOf t).toNat)
 case atStart=>exact⟨0,Nat.zero_le _,rfl,rfl,zf0.zero _ _ _ _ _ _ _,B0.out,G0.out⟩
 case round=>
  clear B0 G0;obtain⟨k,hk,rfl,rfl,hok,hb,hp⟩:=hrel;have OK:Hid (zf0 n zs os vs ko kv R k):=hok;have B1:Hid _:=hb;have P1:Hid (wr.heap[w.heap.size]? =_):=hp;clear hok hb hp;by_cases hlt:k<m
  ·have hkl:k<R.length:=by omega
   have hmem:R.getD k rt0∈R:=by rw[List.getD_eq_getElem?_getD,List.getElem?_eq_getElem hkl];simp
   obtain⟨b,off,rfl,h1,h2,h3⟩:=(HR.below B1.out) k hkl;have hml:=HI.out _ hmem;have hrcl:=HRC.out _ hmem;have HLOW:Hid (¬zT7 R k<(R.getD k rt0).v->¬zf0 n zs os vs ko kv R m):=yo8 HC.out hlt;have HNIL:Hid ((R.getD k rt0).ids=[]->¬zf0 n zs os vs ko kv R m):=fun h H=>(H k hlt).2.1 h;have HCOD:Hid (codeV true n zs os vs ko kv (R.getD k rt0).v (R.getD k rt0).ids≠0->¬zf0 n zs os vs ko kv R m):=fun h H=>h (H k hlt).2.2;have HSTEP:Hid _:=fun h1 h2 h3=>OK.step ((zQ2 HC.out h3).2 h1) h2 h3;have HLN:Hid (zT7 R (k+1)=(R.getD k rt0).v):=rfl;obtain⟨r,HRT⟩:=nmd (R.getD k rt0);obtain⟨last,HLA⟩:=nmd (zT7 R k);rw[HRT.out]at h1 h2 h3 hml hrcl HLOW HNIL HCOD HSTEP HLN;rw[HLA.out]at HLOW HSTEP;rw[HLA.out];have IR:Hid (za0 wr r.a r.ids):=h3;clear h3 hmem;have HQ:Hid (r.ids.length=0↔r.ids=[]):=List.length_eq_zero_iff;have HRCL:Hid _:=hrcl;clear hrcl;have HMAT:Hid (za0 wr a zs):=HA.below B1.out;have HORD:Hid (za0 wr ao os):=HO.below B1.out;have HVEH:Hid (za0 wr av vs):=HV.below B1.out;by_cases hv:last<r.v
   ·have hv1:¬(r.v<=last):=by omega
    by_cases hq:r.ids.length=0
    ·have HNOT:Hid _:=HNIL.out (HQ.1 hq)
     have HQE:Hid _:=hq;rw[HQE.out]at h2;clear hq hml;go_wp2;go_ret;exact⟨B1.alloc B1.size _,.inr ⟨rfl,HNOT.out⟩⟩
    ·have HNE:Hid (r.ids≠[]):=fun e=>hq (HQ.2 e)
     have BX:Hid (Below wr.heap.size wr (wr.alloc (.cells #[Value.int .i64 r.v,Value.slice r.a r.ids.length r.c] 43))):=(Below.refl _ _).alloc (Nat.le_refl _) _;have GX:Hid ((wr.alloc (.cells #[Value.int .i64 r.v,Value.slice r.a r.ids.length r.c] 43)).heap[wr.heap.size]? =_):=heap_alloc_new _ _;obtain⟨c0,c1,c2,c3,c4⟩:=za8 (za1 BX.out (za3 P1.out) P1.out);obtain⟨d0,d1⟩:=za2 GX.out
     go_wp2_with fail
     clear c0 c1 c2 c3 c4 d0 d1;generalize(wr.alloc (.cells #[Value.int .i64 r.v,Value.slice r.a r.ids.length r.c] 43))=W1 at*;refine(zs5 n fine r.v a ao av r.a cap ko co kv cv r.c zs os vs r.ids W1 (HMAT.below BX.out) (HORD.below BX.out) (HVEH.below BX.out) (IR.below BX.out) HLO.out HLV.out hko hkv (by omega) HRCL.out HC.out).mono ?_;have B2:Hid _:=B1.trans (BX.mono B1.size);have P2:Hid (W1.heap[w.heap.size]? =_):=za1 BX.out (za3 P1.out) P1.out;clear HMAT HORD HVEH IR BX B1 P1 h1 h2;rintro e w2 ⟨hb,⟨hcode,rfl⟩|⟨hcode,g,-,rfl,-⟩⟩
     ·have HNOT:Hid _:=HCOD.out hcode
      have B3:Hid _:=B2.trans (hb.mono B2.size);clear hb;obtain⟨cd,HCD⟩:=nmd (codeV true n zs os vs ko kv r.v r.ids);rw[HCD.out]at hcode⊢;go_wp2;go_ret;exact⟨B3.alloc B3.size _,.inr ⟨rfl,HNOT.out⟩⟩
     ·have HST:Hid _:=HSTEP.out hv HNE.out hcode
      have B3:Hid _:=B2.trans (hb.mono B2.size);have P3:Hid (w2.heap[w.heap.size]? =_):=za1 hb (za3 P2.out) P2.out;have BY:Hid (Below w2.heap.size w2 (w2.alloc (.cells #[.int .i64 n,.slice a zs.length cap,.int .i64 (zb5 vs kv r.v 0),.int .i64 (zb5 vs kv r.v 1),.int .i64 (zb5 vs kv r.v 2),.int .i64 (zb5 vs kv r.v 3),.int .i64 (zb5 vs kv r.v 4),.slice (some ⟨g,0,none⟩) r.ids.length r.ids.length] 60))):=(Below.refl _ _).alloc (Nat.le_refl _) _;have GY:Hid (w2.heap[wr.heap.size]? =_):=za1 hb (za3 GX.out) GX.out;have GZ:Hid _:=za1 BY.out (za3 GY.out) GY.out;obtain⟨d0,d1⟩:=za2 GZ.out;clear hb hcode d1;go_wp2;clear d0
      first
       |exact⟨⟨k+1,by omega,by go_num,by rw[HLN.out],HST.out,B3.trans (BY.mono B3.size),za1 BY.out (za3 P3.out) P3.out⟩,by simp[intOf];omega⟩
       |(go_roundw
         case rel=>exact⟨k+1,by omega,by go_num,by rw[HLN.out],HST.out,B3.trans (BY.mono B3.size),za1 BY.out (za3 P3.out) P3.out⟩
         case measure=>simp[intOf];omega)
   ·have HNOT:Hid _:=HLOW.out hv
    have hv1:r.v<=last:=by omega
    clear hv;go_wp2;go_ret;exact⟨B1.alloc B1.size _,.inr ⟨rfl,HNOT.out⟩⟩
  ·have hkn:k=m:=by omega
   have HALL:Hid (zf0 n zs os vs ko kv R m):=hkn▸OK.out;clear hkn;go_wp2;go_ret;exact⟨B1.out,.inl ⟨rfl,HALL.out⟩⟩
end Go.Proofs.YtjobhigmdaiinaaGreat
