import Derived.Test.YtjobhigmdaiinaaGreatPack35
import Derived.Test.YtjobhigmdaiinaaGreatPack36
namespace Go.Proofs.YtjobhigmdaiinaaGreat
end Go.Proofs.YtjobhigmdaiinaaGreat
namespace Go.Proofs.YtjobhigmdaiinaaGreat
open Go.RowKit
theorem zQ1(g cap i base:Nat)(x:Int)(ids:List Int)(w:World)(ho:w.ownsRow base 2 1 (.slice (some ⟨g,0,none⟩) ids.length cap) ids.length (ids.map (Value.int .i64)))(hi:i<ids.length)(hx:x=i+1):
 Calls Tryz.prog 127 #[.slice (some ⟨g,0,none⟩) ids.length cap,.int .i64 (i:Nat),.int .i64 x] w fun e w'=>e=.returned (.slice (some ⟨g,0,none⟩) (zB2 ids i).length cap)/\Below base w w'/\w'.ownsRow base 2 1 (.slice (some ⟨g,0,none⟩) (zB2 ids i).length cap) (zB2 ids i).length ((zB2 ids i).map (Value.int .i64)):=by
 subst hx;rw[zR0 hi];exact zT3 g cap i base ids w ho hi
set_option maxHeartbeats 1000000 in
theorem zQ9(p:Nat)(at_:Int)(bi:Option Addr)(c2:Nat)(ids:List Int)(w:World)(hp:w.cell? ⟨p,0,none⟩=some (.int .i64 at_))(hI:za0 w bi ids)(hl:ids.length<=12):
 Calls Tryz.prog 126 #[.slice bi ids.length c2,.pointer (some ⟨p,0,none⟩)] w (y14 w (inB at_ 0 ((ids.length:Int) - 1)) (zB2 ids at_.toNat)):=by
 have HI:Hid (za0 w bi ids):=hI;clear hI;obtain⟨v,HV⟩:=nmd (inB at_ 0 ((ids.length:Int) - 1));rw[HV.out];cases v
 ·go_enter Tryz.func126,Tryz.ntmps126
  go_wp2_with(first|(go_at_call 44;refine(zz0 at_ 0 ((ids.length:Int) - 1) w false HV.out).mono ?_;rintro e w1 ⟨rfl,rfl⟩))
  go_ret2;exact⟨Below.refl _ _,.inl ⟨rfl,rfl⟩⟩
 ·have h1:=zd5 HV.out
  obtain⟨i,rfl⟩:∃i:Nat,at_=i:=⟨at_.toNat,by omega⟩;have hi:i<ids.length:=by omega
  rw[show((i:Int)).toNat=i by omega];obtain⟨b,off,rfl,_⟩:=HI.out.some hi;go_enter Tryz.func126,Tryz.ntmps126
  go_wp2_with(first|(go_at_call 44;refine(zz0 i 0 ((ids.length:Int) - 1) w true HV.out).mono ?_;rintro e w1 ⟨rfl,rfl⟩))
  have hwr:IntKind.i64.wrap ((i:Int)+1)=i+1:=IntWalk.i64_in _ (by omega)
  go_region_held3 (fun W=>W.cell? ⟨p,0,none⟩=some (.int .i64 (i:Int))) (first|with_reducible exact kS|go_keep) ((first
   |(go_at_call 53
     with_reducible refine(z08 b off c2 ids w1.drew (HI.out.below (Below.refl _ _).drew) (by omega)).mono ?_
     rintro e w2 ⟨g,cap,rfl,hb,ho⟩;have B2:Hid (Below w1.heap.size w1 w2):=(Below.refl _ _).drew.trans hb;have O2:Hid (w2.ownsRow w1.heap.size 2 1 (.slice (some ⟨g,0,none⟩) ids.length cap) ids.length (ids.map (Value.int .i64))):=ho;have kS:=(B2.out.cell (p:=⟨p,0,none⟩) (block_lt_of_cell hp)).trans hp;clear hb ho)
   |(go_at_call 127
     with_reducible refine(zQ1 g cap i w1.heap.size _ ids w2 O2.out hi rfl).mono ?_
     rintro e w3 ⟨rfl,hb,ho⟩;have B3:Hid _:=B2.out.trans hb;have O3:Hid (w3.ownsRow w1.heap.size 2 1 (.slice (some ⟨g,0,none⟩) (zB2 ids i).length cap) (zB2 ids i).length ((zB2 ids i).map (Value.int .i64))):=ho;have kS:=(B3.out.cell (p:=⟨p,0,none⟩) (block_lt_of_cell hp)).trans hp;clear hb ho)))
  all_goals
   go_wp2;go_ret2;exact⟨B3.out,.inr ⟨rfl,g,cap,rfl,O3.out⟩⟩
end Go.Proofs.YtjobhigmdaiinaaGreat
