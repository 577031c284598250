import Derived.Test.YtjobhigmdaiinaaGreatPack1
import Derived.Test.YtjobhigmdaiinaaGreatPack3
import Derived.Shelf.SlicesE.Clone
namespace Go.Proofs.YtjobhigmdaiinaaGreat
open Go.RowKit Go.Shelf
def Tryz.lCloneR_ren:Go.Shelf.Ren:=⟨fun|41=>103|n=>n,fun|4=>4|22=>31|23=>43|n=>n,fun|n=>n⟩
theorem Tryz.lCloneR:SlLaysE0.n41 Tryz.prog Tryz.lCloneR_ren:={
 mixed:=by kernel_rfl
 f41:=⟨Tryz.f103.name,by decide,Tryz.func103.trans (congrArg some (by kernel_rfl))⟩
 t4:=Tryz.underlying4
 a4:=Tryz.isAgg4
 z4:=Tryz.sizeOf4
 v4:=Tryz.zeroValue4
 t22:=Tryz.underlying31
 a22:=Tryz.isAgg31
 z22:=Tryz.sizeOf31
 v22:=Tryz.zeroValue31}
theorem z27(R:List RT):∀v∈zg9 R,v.oneCell'=true:=fun v hv=>by
 unfold zg9 at hv;obtain⟨r,_,h⟩:=List.mem_flatMap.1 hv;simp[zm5]at h;rcases h with rfl|rfl<;>rfl
theorem za6.cells{w:World}{b off:Nat}{R:List RT}(h:za6 w (some ⟨b,off,none⟩) R):∀j u,(zg9 R)[j]? =some u->w.cell? ⟨b,off+j,none⟩=some u:=fun j u hj=>by
 have hlt:j<(zg9 R).length:=by
  rcases Nat.lt_or_ge j (zg9 R).length with h|h
  ·exact h
  ·rw[List.getElem?_eq_none h]at hj;cases hj
 rw[ze7]at hlt;obtain⟨b',off',e,c1,c2,_⟩:=h (j / 2) (by omega);simp only[Option.some.injEq,Addr.mk.injEq,and_true]at e;obtain⟨rfl,rfl⟩:=e;obtain⟨r1,r2⟩:=z71 R (j / 2) (by omega);rcases Nat.mod_two_eq_zero_or_one j with e|e
 ·rw[show j / 2*2=j by omega]at r1 c1
  rw[hj]at r1;rw[c1,<-r1]
 ·rw[show j / 2*2+1=j by omega]at r2
  rw[show off+j / 2*2+1=off+j by omega]at c2;rw[hj]at r2;rw[c2,<-r2]
theorem yp2(w:World):(Go.sizeOf 43).run Tryz.prog w=.ok 2 w:=by
 cases hq:Tryz.prog.info? 43 with
 |none=>have:=zk4;rw[hq]at this;simp at this
 |some i0=>
  have h:=zk4;rw[hq]at h;simp only[Option.map_some,Option.some.injEq,Prod.mk.injEq]at h;simp[Go.sizeOf,typeInfo,hq,h.2.1]
theorem yr8(ra:Option Addr)(rc n:Nat)(R:List RT)(w:World)(hR:za6 w ra R)(hn:R.length=n)(h:n<=1000)(hra:(ra=none/\n=0)∨∃b off,ra=some ⟨b,off,none⟩):
 Calls Tryz.prog 103 #[.slice ra n rc] w fun e w'=>∃sl,e=.returned sl/\Below w.heap.size w w'/\w'.ownsRow w.heap.size 43 2 sl n (zg9 R):=by
 rcases hra with⟨rfl,rfl⟩|⟨b,off,rfl⟩
 ·refine(AnyE.slices_Clone_nil Tryz.lCloneR 0 rc w).mono ?_
  rintro e w' ⟨rfl,rfl⟩;have e:R=[]:=List.length_eq_zero_iff.1 hn;subst e;exact⟨_,rfl,Below.refl _ _,⟨rfl,.inl ⟨rfl,rfl⟩⟩⟩
 ·cases hq:Tryz.prog.info? 43 with
  |none=>have:=zk4;rw[hq]at this;simp at this
  |some i0=>
   have hi:=zk4;rw[hq]at hi;simp only[Option.map_some,Option.some.injEq,Prod.mk.injEq]at hi;refine(AnyE.slices_Clone Tryz.lCloneR i0 _ 2 32 hq hi.1 hi.2.1 hi.2.2 rfl (by omega) yp2 b off n rc (zg9 R) w (by rw[ze7,hn]) (by unfold maxLen;omega) (by omega) hR.cells (z27 R)).mono ?_;rintro e w' ⟨v',rfl,ho,_,hb⟩;exact⟨v',rfl,hb,ho⟩
end Go.Proofs.YtjobhigmdaiinaaGreat
