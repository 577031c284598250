import Derived.Test.YtkchnomkiboihaaGreatPack26
import Derived.Test.YtkchnomkiboihaaGreatInsOne
set_option linter.unusedSimpArgs false
set_option maxHeartbeats 2000000
namespace Go.Proofs.YtkchnomkiboihaaGreat
open Value renaming slice→za,int→ze
open IntKind renaming i64→zd
open Obj renaming cells→zg
open Go.RowKit Go.Lib
open Q
theorem zW3(p q:Nat)(at_ x:Int)(bi:Option Addr)(c2:Nat)(ids:List Int)(w:World)(hp:w.cell? ⟨p,0,none⟩=some (ze zd at_))(hq:w.cell? ⟨q,0,none⟩=some (ze zd x))(hI:za3 w bi ids)(hl:ids.length<=12)(mY:(bi=none/\ids.length=0)∨∃b off,bi=some ⟨b,off,none⟩):
 Calls Tryz.prog 180 #[za bi ids.length c2,.pointer (some ⟨p,0,none⟩),.pointer (some ⟨q,0,none⟩)] w (yC1 w (inB at_ 0 (ids.length:Int)) (insL ids at_.toNat x)):=by
 have HI:=za4 hI;have oA:Hid _:=mY;clear hI mY;obtain⟨v,HV⟩:=nmd (inB at_ 0 (ids.length:Int));rw[HV.X];cases v
 ·go_enter Tryz.func180,Tryz.ntmps180
  go_wp2_with(first|(go_at_call 32;refine(z64 at_ 0 (ids.length:Int) w false HV.X).mono ?_;rintro e w1 ⟨rfl,rfl⟩))
  go_ret2;exact⟨y5 _ _,.inl ⟨rfl,rfl⟩⟩
 ·have h1:=zc8 HV.X
  obtain⟨i,rfl⟩:∃i:Nat,at_=i:=⟨at_.toNat,by omega⟩;have hi:i<=ids.length:=by omega
  rw[show((i:Int)).toNat=i by omega];have Eo:Hid _:=zr2 x hi;obtain⟨n,HN⟩:=nmd ids.length;rw[HN.X]at hl hi Eo oA⊢;have jO:Hid (∀W:World,Below w.heap.size w W->Calls Tryz.prog 83 #[za bi n c2] W fun e w'=>∃sl,e=.returned sl/\Below W.heap.size W w'/\w'.ownsRow W.heap.size 2 1 sl n (ids.map (ze zd))):=fun W hW=>z45 bi c2 n ids W (HI.X.below hW) HN.X (by omega) oA.X
  go_enter Tryz.func180,Tryz.ntmps180
  go_wp2_with(first|(go_at_call 32;refine(z64 i 0 (n:Int) w true (by rw[<-HN.X];exact HV.X)).mono ?_;rintro e w1 ⟨rfl,rfl⟩))
  have KS:Hid (∀W:World,Below w1.heap.size w1 W->W.cell? ⟨p,0,none⟩=some (ze zd (i:Int))/\W.cell? ⟨q,0,none⟩=some (ze zd x)):=fun W hW=>⟨(hW.cell (p:=⟨p,0,none⟩) (zV hp)).trans hp,(hW.cell (p:=⟨q,0,none⟩) (zV hq)).trans hq⟩;have k0:=KS.X _ (y5 _ _).drew;have k1:=KS.X _ (zP (zg #[ze zd x] 2)).drew
  go_region_held3 (fun W=>W.cell? ⟨p,0,none⟩=some (ze zd (i:Int))/\W.cell? ⟨q,0,none⟩=some (ze zd x)) (first|with_reducible exact k0|with_reducible exact k1|with_reducible exact kS|with_reducible exact kB|go_keep) ((first
   |(go_at_call 83
     with_reducible refine(jO.X w1.drew (y5 _ _).drew).mono ?_
     rintro e w2 ⟨sl,rfl,hb,ho⟩;have B2:Hid (Below w1.heap.size w1 w2):=(y5 _ _).drew.trans hb;have O2:Hid ((w2.alloc (zg #[ze zd x] 2)).ownsRow w1.heap.size 2 1 sl n (ids.map (ze zd))):=ho.alloc _;have V2:Hid ((w2.alloc (zg #[ze zd x] 2)).heap[w2.heap.size]? =some (zg #[ze zd x] 2 (0,0))):=zS _ _;have N2:Hid (sl.ownBlock≠some w2.heap.size):=fun e9=>by have:=(ho.lt _ e9).2;omega
     have sN:Hid (Below w1.heap.size w1 (w2.alloc (zg #[ze zd x] 2))):=B2.X.alloc B2.X.size _;have kS:=KS.X _ B2.X;have kB:=KS.X _ sN.X;clear hb ho)
   |(go_at_call 83
     with_reducible refine(jO.X (w1.alloc (zg #[ze zd x] 2)).drew (zP _).drew).mono ?_
     rintro e w2 ⟨sl,rfl,hb,ho⟩;have sN:Hid _:=(zP _).drew.trans (hb.mono (by simp));have O2:Hid (w2.ownsRow w1.heap.size 2 1 sl n (ids.map (ze zd))):=zb5 ho (by simp);have V2:Hid _:=za0 hb (by simp) (zS _ _);have N2:Hid (sl.ownBlock≠some w1.heap.size):=fun e9=>by have h9:=(ho.lt _ e9).1;simp at h9;omega
     have kS:=KS.X _ sN.X;clear hb ho)
   |(go_at_call 147
     with_reducible refine(z79 sl i w2.heap.size w1.heap.size n x ids (w2.alloc (zg #[ze zd x] 2)) HN.X O2.X sN.X.size V2.X N2.X hi (by omega)).mono ?_
     rintro e w3 ⟨g3,c3,rfl,hb,ho⟩;have B3:Hid _:=sN.X.trans hb;have O3:=za4 ho;have kS:=KS.X _ B3.X;clear hb ho)
   |(go_at_call 147
     with_reducible refine(z79 sl i w1.heap.size w1.heap.size n x ids w2 HN.X O2.X sN.X.size V2.X N2.X hi (by omega)).mono ?_
     rintro e w3 ⟨g3,c3,rfl,hb,ho⟩;have B3:Hid _:=sN.X.trans hb;have O3:=za4 ho;have kS:=KS.X _ B3.X;clear hb ho)))
  all_goals
   go_wp2;go_ret2;refine⟨B3.X,.inr ⟨rfl,g3,c3,?_,?_⟩⟩
   ·rw[Eo.X];rfl
   ·rw[Eo.X]
    exact O3.X
end Go.Proofs.YtkchnomkiboihaaGreat
namespace Go.Proofs.YtkchnomkiboihaaGreat
open IntKind renaming i64→zd
open Value renaming int→ze
open Obj renaming cells→zg
open Go.RowKit
open Q
theorem zh6(x y:Int)(w:World):
 Calls Tryz.prog 154 #[ze zd x,ze zd y] w fun e w'=>∃p q,e=.returned (.func (.func 180) #[] #[.pointer (some ⟨p,0,none⟩),.pointer (some ⟨q,0,none⟩)])/\Below w.heap.size w w'/\w'.cell? ⟨p,0,none⟩=some (ze zd y)/\w'.cell? ⟨q,0,none⟩=some (ze zd x):=by
 have Cd:∀(fn:Fn) (first ac:Array Value) (w:World),(Instr.makeFunc fn first ac).run Tryz.prog w=.ok (.func fn first ac) w:=fun _ _ _ _=>rfl;have h1:=zU _ _ 0 _ _ _ (xm w (zg #[ze zd x] 2) (zg #[ze zd y] 2));have h2:=zU _ _ 0 _ _ _ (xh w (zg #[ze zd x] 2) (zg #[ze zd y] 2));have H1:Hid _:=h1;have H2:Hid _:=h2;clear h1 h2;go_enter Tryz.func154,Tryz.ntmps154;go_wp2;go_ret;exact⟨w.heap.size+1,w.heap.size,rfl,(zP _).alloc (by simp) _,H2.X,H1.X⟩
