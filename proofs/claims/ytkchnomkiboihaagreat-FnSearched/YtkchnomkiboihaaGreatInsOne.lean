import Derived.Test.YtkchnomkiboihaaGreatPack19
import Derived.Test.YtkchnomkiboihaaGreatPack27
set_option maxHeartbeats 2000000
namespace Go.Proofs.YtkchnomkiboihaaGreat
open Value renaming slice→za,int→ze
open IntKind renaming i64→zd
open Proofs.Tryz renaming prog→zh
open Go.RowKit
open Q
set_option maxRecDepth 10000 in
theorem yq5(sl:Value)(vb base n:Nat)(x:Int)(ids:List Int)(w:World)(hn:ids.length=n)(ho:w.ownsRow base 2 1 sl n (ids.map (ze zd)))(dx:base<=w.heap.size)(hv:w.heap[vb]? =some (.cells #[ze zd x] 2 (0,0)))(hl:n<=1000):
 Calls zh 147 #[sl,ze zd n,za (some ⟨vb,0,none⟩) 1 1] w fun e w'=>∃de,e=.returned de/\Below base w w'/\w'.ownsRow base 2 1 de (n+1) ((insL ids n x).map (ze zd)):=by
 have HO:=za4 ho;have HV:Hid (za3 w (some ⟨vb,0,none⟩) [x]):=za3.of_row hv;have gi:Hid (insL ids n x=ids++[x]):=by
  show _=_;unfold insL;rw[<-hn,ym,List.drop_length]
 rw[gi.X];rcases zm3 ho with rfl|⟨g,c,rfl⟩
 ·have h0:n=0:=by
   obtain⟨_,⟨_,h2⟩|⟨_,_,_,h3,_⟩⟩:=ho
   ·exact h2
   ·cases h3
  subst h0;clear ho hv;go_enter Tryz.func147,Tryz.ntmps147
  go_wp2_with(
   at_builtin;refine zc9 _ rfl _ _ rfl base _ 0 ids rfl HO.X vb 0 1 1 [x] rfl rfl HV.X (by omega) (by omega) dx ?_;intro v' w4 ae hg jU aX;have O4:=za4 ae;have B4:Hid _:=(y5 _ _).grown hg dx (fun k e=>(HO.lt k e).1);clear ae hg aX jU)
  go_ret;exact⟨_,rfl,B4.X,O4.X⟩
 ·have jE:n<=c/\c<=9223372036854775807:=by
   obtain⟨_,⟨h1,_⟩|⟨g',ac,az,h3,_,_,h4,h5,_⟩⟩:=ho
   ·cases h1
   ·simp at h3
    obtain⟨rfl,rfl⟩:=h3;unfold maxLen at h5;omega
  obtain⟨FN,FG⟩:=jE;have be:n<=n:=zT _;clear ho hv;by_cases tE:c=n
  ·subst tE
   go_enter Tryz.func147,Tryz.ntmps147
   go_wp2_with(
    at_builtin;refine zc9 _ rfl _ _ rfl base _ c ids rfl HO.X vb 0 1 1 [x] rfl rfl HV.X (by omega) (by omega) dx ?_;intro v' w4 ae hg jU aX;have O4:=za4 ae;have B4:Hid _:=(y5 _ _).grown hg dx (fun k e=>(HO.lt k e).1);clear ae hg aX jU)
   go_ret;exact⟨_,rfl,B4.X,O4.X⟩
  ·go_enter Tryz.func147,Tryz.ntmps147
   go_wp2_with(
    at_builtin;refine zc9 _ rfl _ _ rfl base _ n ids rfl HO.X vb 0 1 1 [x] rfl rfl HV.X (by omega) (by omega) dx ?_;intro v' w4 ae hg jU aX;have O4:=za4 ae;have B4:Hid _:=(y5 _ _).grown hg dx (fun k e=>(HO.lt k e).1);clear ae hg aX jU)
   go_ret;exact⟨_,rfl,B4.X,O4.X⟩
theorem z79(sl:Value)(i vb base n:Nat)(x:Int)(ids:List Int)(w:World)(hn:ids.length=n)(ho:w.ownsRow base 2 1 sl n (ids.map (ze zd)))(dx:base<=w.heap.size)(hv:w.heap[vb]? =some (.cells #[ze zd x] 2 (0,0)))(eW:sl.ownBlock≠some vb)(hi:i<=n)(hl:n<=1000):
 Calls zh 147 #[sl,ze zd i,za (some ⟨vb,0,none⟩) 1 1] w fun e w'=>∃g' c',e=.returned (za (some ⟨g',0,none⟩) (n+1) c')/\Below base w w'/\w'.ownsRow base 2 1 (za (some ⟨g',0,none⟩) (n+1) c') (n+1) ((insL ids i x).map (ze zd)):=by
 have key:Calls zh 147 #[sl,ze zd i,za (some ⟨vb,0,none⟩) 1 1] w fun e w'=>∃de,e=.returned de/\Below base w w'/\w'.ownsRow base 2 1 de (n+1) ((insL ids i x).map (ze zd)):=by
  by_cases he:i=n
  ·subst he
   exact yq5 sl vb base i x ids w hn ho dx hv hl
  ·rcases zm3 ho with rfl|⟨g,c,rfl⟩
   ·exfalso
    obtain⟨_,⟨_,h2⟩|⟨_,_,_,h3,_⟩⟩:=ho
    ·omega
    ·cases h3
   ·by_cases bE:n+1<=c
    ·exact yd4 g c i vb base n x ids w hn ho hv (fun e=>eW (by rw[e];rfl)) (by omega) bE hl
    ·exact ye2 g c i vb base n x ids w hn ho dx hv (by omega) (by omega) hl
 refine key.mono ?_;rintro e w' ⟨de,rfl,hb,h9⟩;obtain⟨g',c',rfl,_⟩:=zo1 h9;exact⟨g',c',rfl,hb,h9⟩
