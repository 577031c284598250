import Derived.Test.YtkchnomkiboihaaGreatPack9
import Derived.Test.YtkchnomkiboihaaGreatPack14
set_option maxHeartbeats 2000000
namespace Go.Proofs.YtkchnomkiboihaaGreat
open Value renaming slice→za,int→zc
open IntKind renaming i64→zb
open Proofs.Tryz renaming prog→ze
open Go.RowKit
open Q
set_option maxRecDepth 10000 in
theorem yn3(sl:Value)(vb base n:Nat)(x:Int)(ids:List Int)(w:World)(hn:ids.length=n)(ho:w.ownsRow base 2 1 sl n (ids.map (zc zb)))(hbw:base<=w.heap.size)(hv:w.heap[vb]? =some (.cells #[zc zb x] 2 (0,0)))(hl:n<=1000):
 Calls ze 147 #[sl,zc zb n,za (some ⟨vb,0,none⟩) 1 1] w fun e w'=>∃sl',e=.returned sl'/\Below base w w'/\w'.ownsRow base 2 1 sl' (n+1) ((insL ids n x).map (zc zb)):=by
 have HO:=za4 ho;have HV:Hid (za3 w (some ⟨vb,0,none⟩) [x]):=za3.of_row hv;have HIN:Hid (insL ids n x=ids++[x]):=by
  show _=_;unfold insL;rw[<-hn,yc,List.drop_length]
 rw[HIN.X];rcases zu0 ho with rfl|⟨g,c,rfl⟩
 ·have h0:n=0:=by
   obtain⟨_,⟨_,h2⟩|⟨_,_,_,h3,_⟩⟩:=ho
   ·exact h2
   ·cases h3
  subst h0;clear ho hv;go_enter Tryz.func147,Tryz.ntmps147
  go_wp2_with(
   at_builtin;refine zc9 _ rfl _ _ rfl base _ 0 ids rfl HO.X vb 0 1 1 [x] rfl rfl HV.X (by omega) (by omega) hbw ?_;intro v' w4 hown hg hz9 hnl;have O4:=za4 hown;have B4:Hid _:=(yV _ _).grown hg hbw (fun k e=>(HO.lt k e).1);clear hown hg hnl hz9)
  go_ret;exact⟨_,rfl,B4.X,O4.X⟩
 ·have hnc:n<=c/\c<=9223372036854775807:=by
   obtain⟨_,⟨h1,_⟩|⟨g',cap,cur,h3,_,_,h4,h5,_⟩⟩:=ho
   ·cases h1
   ·simp at h3
    obtain⟨rfl,rfl⟩:=h3;unfold maxLen at h5;omega
  obtain⟨hnc1,hnc2⟩:=hnc;have hin:n<=n:=zQ _;clear ho hv;by_cases hcn:c=n
  ·subst hcn
   go_enter Tryz.func147,Tryz.ntmps147
   go_wp2_with(
    at_builtin;refine zc9 _ rfl _ _ rfl base _ c ids rfl HO.X vb 0 1 1 [x] rfl rfl HV.X (by omega) (by omega) hbw ?_;intro v' w4 hown hg hz9 hnl;have O4:=za4 hown;have B4:Hid _:=(yV _ _).grown hg hbw (fun k e=>(HO.lt k e).1);clear hown hg hnl hz9)
   go_ret;exact⟨_,rfl,B4.X,O4.X⟩
  ·go_enter Tryz.func147,Tryz.ntmps147
   go_wp2_with(
    at_builtin;refine zc9 _ rfl _ _ rfl base _ n ids rfl HO.X vb 0 1 1 [x] rfl rfl HV.X (by omega) (by omega) hbw ?_;intro v' w4 hown hg hz9 hnl;have O4:=za4 hown;have B4:Hid _:=(yV _ _).grown hg hbw (fun k e=>(HO.lt k e).1);clear hown hg hnl hz9)
   go_ret;exact⟨_,rfl,B4.X,O4.X⟩
theorem z75(sl:Value)(i vb base n:Nat)(x:Int)(ids:List Int)(w:World)(hn:ids.length=n)(ho:w.ownsRow base 2 1 sl n (ids.map (zc zb)))(hbw:base<=w.heap.size)(hv:w.heap[vb]? =some (.cells #[zc zb x] 2 (0,0)))(hvb:sl.ownBlock≠some vb)(hi:i<=n)(hl:n<=1000):
 Calls ze 147 #[sl,zc zb i,za (some ⟨vb,0,none⟩) 1 1] w fun e w'=>∃g' c',e=.returned (za (some ⟨g',0,none⟩) (n+1) c')/\Below base w w'/\w'.ownsRow base 2 1 (za (some ⟨g',0,none⟩) (n+1) c') (n+1) ((insL ids i x).map (zc zb)):=by
 have key:Calls ze 147 #[sl,zc zb i,za (some ⟨vb,0,none⟩) 1 1] w fun e w'=>∃sl',e=.returned sl'/\Below base w w'/\w'.ownsRow base 2 1 sl' (n+1) ((insL ids i x).map (zc zb)):=by
  by_cases he:i=n
  ·subst he
   exact yn3 sl vb base i x ids w hn ho hbw hv hl
  ·rcases zu0 ho with rfl|⟨g,c,rfl⟩
   ·exfalso
    obtain⟨_,⟨_,h2⟩|⟨_,_,_,h3,_⟩⟩:=ho
    ·omega
    ·cases h3
   ·by_cases hroom:n+1<=c
    ·exact yc7 g c i vb base n x ids w hn ho hv (fun e=>hvb (by rw[e];rfl)) (by omega) hroom hl
    ·exact yi1 g c i vb base n x ids w hn ho hbw hv (by omega) (by omega) hl
 refine key.mono ?_;rintro e w' ⟨sl',rfl,hb,h9⟩;obtain⟨g',c',rfl,_⟩:=y51 h9;exact⟨g',c',rfl,hb,h9⟩
