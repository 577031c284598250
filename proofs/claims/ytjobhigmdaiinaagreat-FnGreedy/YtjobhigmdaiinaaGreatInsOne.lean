import Derived.Test.YtjobhigmdaiinaaGreatPack17
import Derived.Test.YtjobhigmdaiinaaGreatPack25
namespace Go.Proofs.YtjobhigmdaiinaaGreat
open Go.RowKit
set_option maxHeartbeats 2000000 in
set_option maxRecDepth 10000 in
theorem zU1(sl:Value)(vb base n:Nat)(x:Int)(ids:List Int)(w:World)(hn:ids.length=n)(ho:w.ownsRow base 2 1 sl n (ids.map (Value.int .i64)))(hbw:base<=w.heap.size)(hv:w.heap[vb]? =some (.cells #[.int .i64 x] 2 (0,0)))(hl:n<=1000):
 Calls Tryz.prog 81 #[sl,.int .i64 n,.slice (some ⟨vb,0,none⟩) 1 1] w fun e w'=>∃sl',e=.returned sl'/\Below base w w'/\w'.ownsRow base 2 1 sl' (n+1) ((insL ids n x).map (Value.int .i64)):=by
 have HO:Hid (w.ownsRow base 2 1 sl n (ids.map (Value.int .i64))):=ho;have HV:Hid (za0 w (some ⟨vb,0,none⟩) [x]):=za0.of_row hv;have HIN:Hid (insL ids n x=ids++[x]):=by
  show _=_;unfold insL;rw[<-hn,List.take_length,List.drop_length]
 rw[HIN.out];rcases zk3 ho with rfl|⟨g,c,rfl⟩
 ·have h0:n=0:=by
   obtain⟨_,⟨_,h2⟩|⟨_,_,_,h3,_⟩⟩:=ho
   ·exact h2
   ·cases h3
  subst h0;clear ho hv;go_enter Tryz.func81,Tryz.ntmps81
  go_wp2_with(
   at_builtin;refine zf4 _ rfl _ _ rfl base _ 0 ids rfl HO.out vb 0 1 1 [x] rfl rfl HV.out (by omega) (by omega) hbw ?_;intro v' w4 hown hg hz9 hnl;have O4:Hid (w4.ownsRow base 2 1 v' (0+1) ((ids++[x]).map (Value.int .i64))):=hown;have B4:Hid _:=(Below.refl _ _).grown hg hbw (fun k e=>(HO.lt k e).1);clear hown hg hnl hz9)
  go_ret;exact⟨_,rfl,B4.out,O4.out⟩
 ·have hnc:n<=c/\c<=9223372036854775807:=by
   obtain⟨_,⟨h1,_⟩|⟨g',cap,cur,h3,_,_,h4,h5,_⟩⟩:=ho
   ·cases h1
   ·simp at h3
    obtain⟨rfl,rfl⟩:=h3;unfold maxLen at h5;omega
  obtain⟨hnc1,hnc2⟩:=hnc;have hin:n<=n:=Nat.le_refl _;clear ho hv;by_cases hcn:c=n
  ·subst hcn
   go_enter Tryz.func81,Tryz.ntmps81
   go_wp2_with(
    at_builtin;refine zf4 _ rfl _ _ rfl base _ c ids rfl HO.out vb 0 1 1 [x] rfl rfl HV.out (by omega) (by omega) hbw ?_;intro v' w4 hown hg hz9 hnl;have O4:Hid (w4.ownsRow base 2 1 v' (c+1) ((ids++[x]).map (Value.int .i64))):=hown;have B4:Hid _:=(Below.refl _ _).grown hg hbw (fun k e=>(HO.lt k e).1);clear hown hg hnl hz9)
   go_ret;exact⟨_,rfl,B4.out,O4.out⟩
  ·go_enter Tryz.func81,Tryz.ntmps81
   go_wp2_with(
    at_builtin;refine zf4 _ rfl _ _ rfl base _ n ids rfl HO.out vb 0 1 1 [x] rfl rfl HV.out (by omega) (by omega) hbw ?_;intro v' w4 hown hg hz9 hnl;have O4:Hid (w4.ownsRow base 2 1 v' (n+1) ((ids++[x]).map (Value.int .i64))):=hown;have B4:Hid _:=(Below.refl _ _).grown hg hbw (fun k e=>(HO.lt k e).1);clear hown hg hnl hz9)
   go_ret;exact⟨_,rfl,B4.out,O4.out⟩
theorem zA3(sl:Value)(i vb base n:Nat)(x:Int)(ids:List Int)(w:World)(hn:ids.length=n)(ho:w.ownsRow base 2 1 sl n (ids.map (Value.int .i64)))(hbw:base<=w.heap.size)(hv:w.heap[vb]? =some (.cells #[.int .i64 x] 2 (0,0)))(hvb:sl.ownBlock≠some vb)(hi:i<=n)(hl:n<=1000):
 Calls Tryz.prog 81 #[sl,.int .i64 i,.slice (some ⟨vb,0,none⟩) 1 1] w fun e w'=>∃g' c',e=.returned (.slice (some ⟨g',0,none⟩) (n+1) c')/\Below base w w'/\w'.ownsRow base 2 1 (.slice (some ⟨g',0,none⟩) (n+1) c') (n+1) ((insL ids i x).map (Value.int .i64)):=by
 have key:Calls Tryz.prog 81 #[sl,.int .i64 i,.slice (some ⟨vb,0,none⟩) 1 1] w fun e w'=>∃sl',e=.returned sl'/\Below base w w'/\w'.ownsRow base 2 1 sl' (n+1) ((insL ids i x).map (Value.int .i64)):=by
  by_cases he:i=n
  ·subst he
   exact zU1 sl vb base i x ids w hn ho hbw hv hl
  ·rcases zk3 ho with rfl|⟨g,c,rfl⟩
   ·exfalso
    obtain⟨_,⟨_,h2⟩|⟨_,_,_,h3,_⟩⟩:=ho
    ·omega
    ·cases h3
   ·by_cases hroom:n+1<=c
    ·exact zM6 g c i vb base n x ids w hn ho hv (fun e=>hvb (by rw[e];rfl)) (by omega) hroom hl
    ·exact zO4 g c i vb base n x ids w hn ho hbw hv (by omega) (by omega) hl
 refine key.mono ?_;rintro e w' ⟨sl',rfl,hb,h9⟩;obtain⟨g',c',rfl,_⟩:=zj7 h9;exact⟨g',c',rfl,hb,h9⟩
end Go.Proofs.YtjobhigmdaiinaaGreat
