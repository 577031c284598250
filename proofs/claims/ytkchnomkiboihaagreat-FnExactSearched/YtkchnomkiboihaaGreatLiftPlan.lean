import Derived.Test.YtkchnomkiboihaaGreatPack3
import Derived.Test.YtkchnomkiboihaaGreatPack47
set_option maxRecDepth 100000
namespace Go.Proofs.YtkchnomkiboihaaGreat
open Value renaming slice→za,int→zc
open IntKind renaming i64→zb
open Proofs.Tryz renaming prog→ze
open List renaming length→zj,range→zo
open Addr renaming add→zG
open Go.ChangeShapes Go.WideShapes Go.ChangeAt Go.RowKit Go.Joins Go.Deep
open Q
theorem Tryz.cellsPlan:Tryz.prog.cellsOf 48=2:=by kernel_rfl
theorem Tryz.cellsRoutes:Tryz.prog.cellsOf 46=1:=by kernel_rfl
theorem zV8{H:Type}{enc:TypeId×Value->H}{W:World}{fuel:Nat}{cs:List Value}{y:DataW H×List MemPlace}(h:DataW.trod enc ze W 0 (fun _=>true) true fuel 24 cs=some y):
 ∃a len cap zs,cs=[za a len cap]/\zs.length=len/\len<=9223372036854775807/\za3 W a zs/\∀x∈zs,(Lit.int zb x).wf=true:=by
 rcases open_ints xi Tryz.underlying2 Tryz.cellsInt h with⟨hcs,_⟩|⟨x,l,c,zs,hcs,_,hl,hm,hz,_,hcell,hwf⟩
 ·exact⟨none,0,0,[],hcs,rfl,by omega,fun j hj=>by simp at hj,fun x hx=>by cases hx⟩
 ·simp[maxLen]at hm
  have hzc:zs.length=c:=by simpa using hz
  have htl:(zs.take l).length=l:=by rw[zZ];omega
  refine⟨some x,l,c,zs.take l,hcs,htl,by omega,fun j hj=> ?_,fun x hx=>hwf x (List.mem_of_mem_take hx)⟩;rw[htl]at hj;obtain⟨b,off,rfl,hc⟩:=ints_at hcell (by omega);refine⟨b,off,rfl,?_⟩;rw[hc j (by omega)];simp[List.getD,hj]
theorem ye7{H:Type}{enc:TypeId×Value->H}{W:World}{fuel:Nat}{cs:List Value}{y:DataW H×List MemPlace}(h:DataW.trod enc ze W 0 (fun _=>true) true fuel 46 cs=some y):
 ∃ra rc R,cs=[za ra (zj R) rc]/\zj R<=9223372036854775807/\(∀r∈R,(RT.ids r).length<=9223372036854775807)/\za9 W ra R:=by
 rcases open_slice Tryz.underlying46 h with⟨hcs,_⟩|⟨x,len,cap,m,n,D,Pl,hcs,_,hl,hm,hmm,_,hel⟩
 ·exact⟨none,0,[],hcs,by simp,(fun r hr=>absurd hr (by simp)),fun j hj=>by simp at hj⟩
 ·simp[maxLen]at hm
  have hmc:m=cap:=by simpa using hmm
  have hone:∀i,i<len->∃r:RT,W.cell? ((x.add (i*2)).add 0)=some (zc zb r.v)/\W.cell? ((x.add (i*2)).add 1)=some (za r.a r.ids.length r.c)/\r.ids.length<=9223372036854775807/\za3 W r.a r.ids:=by
   intro i hi;obtain⟨cs',hc,htr⟩:=hel i (by omega);rw[Tryz.cellsRoute]at hc;obtain⟨_,_,hcc⟩:=World.cells?_some hc;obtain⟨z0,z1,m',_,_,k0,k1⟩:=trod_struct2 Tryz.underlying150 htr;simp only[Tryz.cellsInt,Tryz.cellsInts,List.drop_zero]at k0 k1;obtain⟨n,e0,_,_⟩:=DataW.trod_int Tryz.underlying2 k0;obtain⟨a,lt,cap,zs,e1,rfl,hlt,hA⟩:=zW2 k1;refine⟨⟨n,a,zs,cap⟩,?_,?_,hlt,hA⟩
   ·rw[hcc 0 (by omega)]
    have:=congrArg (fun l=>l[0]?) e0;simpa[yq,List.getElem?_drop]using this
   ·rw[hcc 1 (by omega)]
    have:=congrArg (fun l=>l[0]?) e1;simpa[yq,List.getElem?_drop]using this
  by_cases hlen:len=0
  ·subst hlen
   exact⟨some x,cap,[],hcs,by simp,(fun r hr=>absurd hr (by simp)),fun j hj=>by simp at hj⟩
  ·obtain⟨b,off,spot⟩:=x
   have hspot:spot=none:=by
    obtain⟨r,hv,_⟩:=hone 0 (by omega);simpa[zG]using World.cell?_spot hv
   subst hspot;have hch:∃f:Nat->RT,∀i,i<len->W.cell? ((zG ⟨b,off,none⟩ (i*2)).add 0)=some (zc zb (f i).v)/\W.cell? ((zG ⟨b,off,none⟩ (i*2)).add 1)=some (.slice (f i).a (f i).ids.length (f i).c)/\(f i).ids.length<=9223372036854775807/\za3 W (f i).a (f i).ids:=by
    refine⟨fun i=>if hi:i<len then Classical.choose (hone i hi)else rt0,fun i hi=> ?_⟩;simp only[dif_pos hi];exact Classical.choose_spec (hone i hi)
   obtain⟨f,hf⟩:=hch;have hR:((zo len).map f).length=len:=by simp
   refine⟨some ⟨b,off,none⟩,cap,(zo len).map f,by rw[hR];exact hcs,by rw[hR];omega,fun r hr=> ?_,fun j hj=> ?_⟩
   ·obtain⟨i,hi,rfl⟩:=yy.1 hr
    exact(hf i (by simpa using hi)).2.2.1
   ·rw[hR]at hj
    obtain⟨h1,h2,_,h4⟩:=hf j hj;rw[add_plain,add_plain]at h1 h2;have e:((zo len).map f).getD j rt0=f j:=by
     rw[zM,ye,List.getElem?_range hj];rfl
    rw[e];exact⟨b,off,rfl,h1,h2,h4⟩
theorem y03{H:Type}{enc:TypeId×Value->H}{W:World}{r:Reach}{base:Nat}{v:Value}{d:DataW H}{p:List MemPlace}
 (hv:Value.okWide ze W r base 48 v) (h:DataW.Trod enc ze W 0 (fun _=>true) true 48 v d p):
 ∃ra rc la lc R L,v=.agg #[za ra (zj R) rc,za la (zj L) lc]/\zj R<=9223372036854775807/\(∀r∈R,(RT.ids r).length<=9223372036854775807)/\zj L<=9223372036854775807/\za9 W ra R/\za3 W la L/\∀x∈L,(Lit.int zb x).wf=true:=by
 obtain⟨cs,rfl,hsz⟩:=okWide_struct Tryz.underlying48 hv;obtain⟨c0,c1,rfl⟩:=yI1 (hsz.trans Tryz.cellsPlan);obtain⟨fuel,hf⟩:=h;simp only[Value.cells]at hf;obtain⟨z0,z1,m',_,_,k0,k1⟩:=trod_struct2 Tryz.underlying48 hf;simp only[Tryz.cellsRoutes,Tryz.cellsInts,List.drop_zero,List.drop_succ_cons,yM,List.take_zero]at k0 k1;obtain⟨ra,rc,R,e0,hRn,hRi,hR⟩:=ye7 k0;obtain⟨la,lt,lc,L,e1,rfl,hlt,hL,hw⟩:=zV8 k1;simp at e0 e1;subst e0 e1;exact⟨ra,rc,la,lc,R,L,rfl,hRn,hRi,hlt,hR,hL,hw⟩
