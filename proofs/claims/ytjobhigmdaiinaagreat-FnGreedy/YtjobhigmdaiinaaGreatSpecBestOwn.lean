import Derived.Test.YtjobhigmdaiinaaGreatPack13
import Derived.Test.YtjobhigmdaiinaaGreatPack29
namespace Go.Proofs.YtjobhigmdaiinaaGreat
open Go.RowKit
set_option maxHeartbeats 4000000 in
theorem zz5(n fine veh:Int)(a ao av:Option Addr)(bi:Option Addr)(cap ko co kv cv c2:Nat)(zs os vs ids:List Int)(w:World)(hA:za0 w a zs)(hO:za0 w ao os)(hV:za0 w av vs)(hI:za0 w bi ids)(hlo:os.length=ko*6)(hlv:vs.length=kv*5)(hko:ko<=9223372036854775807)(hkv:kv<=9223372036854775807)(hli:ids.length<=1048576)(hc2:ids.length<=c2)(hbi:(bi=none/\ids=[]/\c2=0)∨∃g,bi=some ⟨g,0,none⟩)(id:Int)(s0:PS)(hs0:bpV (zb8 n zs os vs ko kv fine) n zs os vs ko kv veh ids id=s0):
 Calls Tryz.prog 67 #[.agg #[.int .i64 n,.slice a zs.length cap,.slice ao ko co,.slice av kv cv,.int .i64 fine],.agg #[.int .i64 veh,.slice bi ids.length c2],.int .i64 id] w fun e w'=>e=.returned (.tuple #[.int .i64 (s0.i:Int),.int .i64 s0.v,.bool s0.f])/\Below w.heap.size w w':=by
 have HA:Hid (za0 w a zs):=hA;have HO:Hid (za0 w ao os):=hO;have HV:Hid (za0 w av vs):=hV;have HI:Hid (za0 w bi ids):=hI;have HLO:Hid _:=hlo;have HLV:Hid _:=hlv;have HBI:Hid ((bi=none/\ids=[]/\c2=0)∨∃g,bi=some ⟨g,0,none⟩):=hbi;clear hA hO hV hI hlo hlv hbi;have HS0:Hid (bpV (zb8 n zs os vs ko kv fine) n zs os vs ko kv veh ids id=s0):=hs0;clear hs0;have C0:Hid (CR w ((w.alloc (.cells #[Value.int .i64 n,Value.slice a zs.length cap,Value.slice ao ko co,Value.slice av kv cv,Value.int .i64 fine] 30)).alloc (.cells #[Value.int .i64 veh,Value.slice bi ids.length c2] 43)) _ _):=CR.new w _ _;obtain⟨ok,HOK⟩:=nmd (plB (zb8 n zs os vs ko kv fine) n zs os vs ko kv veh ids id);obtain⟨dl,HDL⟩:=nmd (plD (zb8 n zs os vs ko kv fine) n zs os vs ko kv veh ids id);have HF:Hid (pst ok dl (ids.length+1)=s0):=by
  show pst ok dl (ids.length+1)=s0;rw[<-HS0.out,<-HOK.out,<-HDL.out];rfl
 clear HS0;go_enter Tryz.func67,Tryz.ntmps67
 go_wp2_with fail
 go_loopw[9,10,11,12] (fun ta tv tf t wr=>∃i:Nat,i<=ids.length+1/\t=.int .i64 i/\ta=.int .i64 ((pst ok dl i).i:Int)/\tv=.int .i64 (pst ok dl i).v/\tf=.bool (pst ok dl i).f/\CR w wr #[Value.int .i64 n,Value.slice a zs.length cap,Value.slice ao ko co,Value.slice av kv cv,Value.int .i64 fine] #[Value.int .i64 veh,Value.slice bi ids.length c2]) (fun _ _ _ t _=>ids.length+1 - (intOf t).toNat)
 case atStart=>exact⟨0,Nat.zero_le _,rfl,rfl,rfl,rfl,C0.out⟩
 case round=>
  clear C0;obtain⟨i,hi,rfl,rfl,rfl,rfl,hC⟩:=hrel;have C1:Hid (CR w wr _ _):=hC;clear hC;obtain⟨d0,d1⟩:=za2 C1.out.2.2;by_cases hlt:i<=ids.length
  ·have h1:(i:Int)<=(ids.length:Int):=by omega
   have hwr:IntKind.i64.wrap ((i:Int)+1)=((i+1:Nat):Int):=by rw[IntWalk.i64_in _ (by omega)];omega
   have HN:Hid (pst ok dl (i+1)=z83 ok dl (pst ok dl i) i):=rfl;obtain⟨s,HS⟩:=nmd (pst ok dl i);rw[HS.out]at HN⊢;obtain⟨sf,si,sv⟩:=s;simp only at HN⊢;obtain⟨ch,HCH⟩:=nmd (ok i);obtain⟨D,HDD⟩:=nmd (dl i);obtain⟨c0,c1,c2',c3,c4⟩:=za8 C1.out.2.1;obtain⟨xs,HXX⟩:=nmd (chL ch (insL ids i id))
   go_wp2_with fail
   clear c0 c1 c2' c3 c4 d0 d1;refine(z18 n fine veh a ao av bi cap ko co kv cv c2 zs os vs ids wr (HA.out.below C1.out.1) (HO.out.below C1.out.1) (HV.out.below C1.out.1) (HI.out.below C1.out.1) HLO.out HLV.out hko hkv (by omega) hc2 HBI.out id (i:Int) ch (by rw[<-HCH.out,<-HOK.out];rfl) D (by rw[<-HDD.out,<-HDL.out,<-HCH.out,<-HOK.out];rfl) xs HXX.out).mono ?_;rintro e w2 ⟨hb,ad,c,rfl,_⟩;obtain⟨vv,HVV⟩:=nmd (chI ch veh);rw[HVV.out];have C3:Hid (CR w (w2.alloc (.cells #[Value.int .i64 vv,Value.slice ad xs.length c] 43)) _ _):=(C1.out.below hb).alloc _;clear hb;cases ch
   ·have HN':Hid (pst ok dl (i+1)=⟨sf,si,sv⟩):=HN.out.trans (z78 HCH.out)
    go_wp2;go_roundw
    case rel=>exact⟨i+1,by omega,by first|rfl|go_num,by rw[HN'.out],by rw[HN'.out],by rw[HN'.out],C3.out⟩
    case measure=>simp[intOf];omega
   ·cases sf
    ·have HN':Hid (pst ok dl (i+1)=⟨true,i,D⟩):=HN.out.trans (by rw[<-HDD.out];exact zJ1 HCH.out rfl)
     go_wp2;go_roundw
     case rel=>exact⟨i+1,by omega,by first|rfl|go_num,by rw[HN'.out],by rw[HN'.out],by rw[HN'.out],C3.out⟩
     case measure=>simp[intOf];omega
    ·by_cases hdv:D<sv
     ·have HN':Hid (pst ok dl (i+1)=⟨true,i,D⟩):=HN.out.trans (by rw[<-HDD.out];exact zH9 HCH.out (by rw[HDD.out];exact hdv))
      go_wp2;go_roundw
      case rel=>exact⟨i+1,by omega,by first|rfl|go_num,by rw[HN'.out],by rw[HN'.out],by rw[HN'.out],C3.out⟩
      case measure=>simp[intOf];omega
     ·have HN':Hid (pst ok dl (i+1)=⟨true,si,sv⟩):=HN.out.trans (zH5 rfl (by rw[HDD.out];exact hdv))
      go_wp2;go_roundw
      case rel=>exact⟨i+1,by omega,by first|rfl|go_num,by rw[HN'.out],by rw[HN'.out],by rw[HN'.out],C3.out⟩
      case measure=>simp[intOf];omega
  ·have hie:i=ids.length+1:=by omega
   have h1:¬((i:Int)<=(ids.length:Int)):=by omega
   have HFi:Hid (pst ok dl i=s0):=by
    show pst ok dl i=s0;rw[hie];exact HF.out
   rw[HFi.out];clear hie HFi;go_wp2
   go_ret3
   exact⟨rfl,C1.out.1⟩
end Go.Proofs.YtjobhigmdaiinaaGreat
