import Derived.Test.YtkchnomkiboihaaGreatPack13
import Derived.Test.YtkchnomkiboihaaGreatInsOne
set_option linter.unusedSimpArgs false
set_option maxHeartbeats 2000000
namespace Go.Proofs.YtkchnomkiboihaaGreat
open Value renaming slice→za,int→zc
open IntKind renaming i64→zb
open Obj renaming cells→zd
open Go.RowKit Go.Lib
open Q
theorem zU6(p q:Nat)(at_ x:Int)(bi:Option Addr)(c2:Nat)(ids:List Int)(w:World)(hp:w.cell? ⟨p,0,none⟩=some (zc zb at_))(hq:w.cell? ⟨q,0,none⟩=some (zc zb x))(hI:za3 w bi ids)(hl:ids.length<=12)(hbi:(bi=none/\ids.length=0)∨∃b off,bi=some ⟨b,off,none⟩):
 Calls Tryz.prog 180 #[za bi ids.length c2,.pointer (some ⟨p,0,none⟩),.pointer (some ⟨q,0,none⟩)] w (yD8 w (inB at_ 0 (ids.length:Int)) (insL ids at_.toNat x)):=by
 have HI:=za4 hI;have HBI:Hid _:=hbi;clear hI hbi;obtain⟨v,HV⟩:=nmd (inB at_ 0 (ids.length:Int));rw[HV.X];cases v
 ·go_enter Tryz.func180,Tryz.ntmps180
  go_wp2_with(first|(go_at_call 32;refine(z55 at_ 0 (ids.length:Int) w false HV.X).mono ?_;rintro e w1 ⟨rfl,rfl⟩))
  go_ret2;exact⟨yV _ _,.inl ⟨rfl,rfl⟩⟩
 ·have h1:=zc7 HV.X
  obtain⟨i,rfl⟩:∃i:Nat,at_=i:=⟨at_.toNat,by omega⟩;have hi:i<=ids.length:=by omega
  rw[show((i:Int)).toNat=i by omega];have HLI:Hid _:=zr4 x hi;obtain⟨n,HN⟩:=nmd ids.length;rw[HN.X]at hl hi HLI HBI⊢;have HCL:Hid (∀W:World,Below w.heap.size w W->Calls Tryz.prog 83 #[za bi n c2] W fun e w'=>∃sl,e=.returned sl/\Below W.heap.size W w'/\w'.ownsRow W.heap.size 2 1 sl n (ids.map (zc zb))):=fun W hW=>z59 bi c2 n ids W (HI.X.below hW) HN.X (by omega) HBI.X
  go_enter Tryz.func180,Tryz.ntmps180
  go_wp2_with(first|(go_at_call 32;refine(z55 i 0 (n:Int) w true (by rw[<-HN.X];exact HV.X)).mono ?_;rintro e w1 ⟨rfl,rfl⟩))
  have KS:Hid (∀W:World,Below w1.heap.size w1 W->W.cell? ⟨p,0,none⟩=some (zc zb (i:Int))/\W.cell? ⟨q,0,none⟩=some (zc zb x)):=fun W hW=>⟨(hW.cell (p:=⟨p,0,none⟩) (zT hp)).trans hp,(hW.cell (p:=⟨q,0,none⟩) (zT hq)).trans hq⟩;have k0:=KS.X _ (yV _ _).drew;have k1:=KS.X _ (zK (zd #[zc zb x] 2)).drew
  go_region_held3 (fun W=>W.cell? ⟨p,0,none⟩=some (zc zb (i:Int))/\W.cell? ⟨q,0,none⟩=some (zc zb x)) (first|with_reducible exact k0|with_reducible exact k1|with_reducible exact kS|with_reducible exact kB|go_keep) ((first
   |(go_at_call 83
     with_reducible refine(HCL.X w1.drew (yV _ _).drew).mono ?_
     rintro e w2 ⟨sl,rfl,hb,ho⟩;have B2:Hid (Below w1.heap.size w1 w2):=(yV _ _).drew.trans hb;have O2:Hid ((w2.alloc (zd #[zc zb x] 2)).ownsRow w1.heap.size 2 1 sl n (ids.map (zc zb))):=ho.alloc _;have V2:Hid ((w2.alloc (zd #[zc zb x] 2)).heap[w2.heap.size]? =some (zd #[zc zb x] 2 (0,0))):=zN _ _;have N2:Hid (sl.ownBlock≠some w2.heap.size):=fun e9=>by have:=(ho.lt _ e9).2;omega
     have B2':Hid (Below w1.heap.size w1 (w2.alloc (zd #[zc zb x] 2))):=B2.X.alloc B2.X.size _;have kS:=KS.X _ B2.X;have kB:=KS.X _ B2'.X;clear hb ho)
   |(go_at_call 83
     with_reducible refine(HCL.X (w1.alloc (zd #[zc zb x] 2)).drew (zK _).drew).mono ?_
     rintro e w2 ⟨sl,rfl,hb,ho⟩;have B2':Hid _:=(zK _).drew.trans (hb.mono (by simp));have O2:Hid (w2.ownsRow w1.heap.size 2 1 sl n (ids.map (zc zb))):=zc4 ho (by simp);have V2:Hid _:=za0 hb (by simp) (zN _ _);have N2:Hid (sl.ownBlock≠some w1.heap.size):=fun e9=>by have h9:=(ho.lt _ e9).1;simp at h9;omega
     have kS:=KS.X _ B2'.X;clear hb ho)
   |(go_at_call 147
     with_reducible refine(z75 sl i w2.heap.size w1.heap.size n x ids (w2.alloc (zd #[zc zb x] 2)) HN.X O2.X B2'.X.size V2.X N2.X hi (by omega)).mono ?_
     rintro e w3 ⟨g3,c3,rfl,hb,ho⟩;have B3:Hid _:=B2'.X.trans hb;have O3:=za4 ho;have kS:=KS.X _ B3.X;clear hb ho)
   |(go_at_call 147
     with_reducible refine(z75 sl i w1.heap.size w1.heap.size n x ids w2 HN.X O2.X B2'.X.size V2.X N2.X hi (by omega)).mono ?_
     rintro e w3 ⟨g3,c3,rfl,hb,ho⟩;have B3:Hid _:=B2'.X.trans hb;have O3:=za4 ho;have kS:=KS.X _ B3.X;clear hb ho)))
  all_goals
   go_wp2;go_ret2;refine⟨B3.X,.inr ⟨rfl,g3,c3,?_,?_⟩⟩
   ·rw[HLI.X];rfl
   ·rw[HLI.X]
    exact O3.X
end Go.Proofs.YtkchnomkiboihaaGreat
namespace Go.Proofs.YtkchnomkiboihaaGreat
open IntKind renaming i64→zb
open Value renaming int→zc
open Obj renaming cells→zd
open Go.RowKit
open Q
theorem zh4(x y:Int)(w:World):
 Calls Tryz.prog 154 #[zc zb x,zc zb y] w fun e w'=>∃p q,e=.returned (.func (.func 180) #[] #[.pointer (some ⟨p,0,none⟩),.pointer (some ⟨q,0,none⟩)])/\Below w.heap.size w w'/\w'.cell? ⟨p,0,none⟩=some (zc zb y)/\w'.cell? ⟨q,0,none⟩=some (zc zb x):=by
 have hmf:∀(fn:Fn) (first cap:Array Value) (w:World),(Instr.makeFunc fn first cap).run Tryz.prog w=.ok (.func fn first cap) w:=fun _ _ _ _=>rfl;have h1:=zR _ _ 0 _ _ _ (xb w (zd #[zc zb x] 2) (zd #[zc zb y] 2));have h2:=zR _ _ 0 _ _ _ (y8 w (zd #[zc zb x] 2) (zd #[zc zb y] 2));have H1:Hid _:=h1;have H2:Hid _:=h2;clear h1 h2;go_enter Tryz.func154,Tryz.ntmps154;go_wp2;go_ret;exact⟨w.heap.size+1,w.heap.size,rfl,(zK _).alloc (by simp) _,H2.X,H1.X⟩
