import Derived.Test.YtkchnomkiboihaaGreatPack46
set_option linter.unusedSimpArgs false
namespace Go.Proofs.YtkchnomkiboihaaGreat
open Value renaming slice→za,int→zc
open IntKind renaming i64→zb
open Proofs.Tryz renaming prog→ze
open List renaming length→zj,range→zo
open Go.ChangeShapes Go.WideShapes Go.ChangeAt Go.RowKit Go.Joins Go.Deep
open Q
def yG2(w:World)(b off j:Nat):Int:=match w.cell? ⟨b,off+j,none⟩with
 |some (.int _ m)=>m
 |_=>0
theorem y68{w:World}{b off j:Nat}{m:Int}(h:w.cell? ⟨b,off+j,none⟩=some (zc zb m)):w.cell? ⟨b,off+j,none⟩=some (zc zb (yG2 w b off j)):=by
 unfold yG2;rw[h]
theorem ya7{H:Type}{enc:TypeId×Value->H}{W:World}{fuel:Nat}{cs:List Value}{y:DataW H×List MemPlace}{t e:TypeId}{fs:Array Field}{k:Nat}
 (ht:Tryz.prog.underlying t=some (.slice e)) (he:Tryz.prog.underlying e=some (.struct fs)) (hk:Tryz.prog.cellsOf e=k) (hk0:0<k)
 (hfs:fs.toList.map (fun f=>(f.offset,f.type))=(zo k).map fun f=>(f,2))
 (h:DataW.trod enc ze W 0 (fun _=>true) true fuel t cs=some y):
 ∃a len cap zs,cs=[za a len cap]/\zs.length=len*k/\len<=9223372036854775807/\za3 W a zs:=by
 rcases open_slice ht h with⟨hcs,_⟩|⟨x,len,cap,m,n,D,Pl,hcs,_,hl,hm,hmm,_,hel⟩
 ·exact⟨none,0,0,[],hcs,by simp,by omega,fun j hj=>by simp at hj⟩
 ·simp[maxLen]at hm
  have hmc:m=cap:=by simpa using hmm
  have hcell:∀i f,i<len->f<k->∃v,W.cell? ((x.add (i*k)).add f)=some (zc zb v):=by
   intro i f hi hf;obtain⟨cs',hc,htr⟩:=hel i (by omega);rw[hk]at hc;obtain⟨xs,n',_,_,hlen,hxl,hff⟩:=DataW.trod_struct he htr;rw[hk]at hlen;have hsz:fs.size=k:=by
    have:=congrArg zj hfs;simpa using this
   have hfl:fs[f]? =some fs[f]:=by simp[hsz,hf]
   have hft:(fs[f].offset,fs[f].type)=(f,2):=by
    have:=congrArg (fun l=>l[f]?) hfs;simp[hsz,hf]at this;simp[this]
   simp at hft;have h1:=hff f _ hfl;rw[hft.1,hft.2,Tryz.cellsInt]at h1;have h2:xs[f]? =some xs[f]:=by simp
   rw[h2]at h1;obtain⟨v,hv,_,_⟩:=DataW.trod_int Tryz.underlying2 h1;have h3:cs'[f]? =some (zc zb v):=by
    have:=congrArg (fun l=>l[0]?) hv;simpa[yq,List.getElem?_drop]using this
   obtain⟨_,_,hcc⟩:=World.cells?_some hc;exact⟨v,by rw[hcc f hf,h3]⟩
  by_cases hlen:len=0
  ·subst hlen
   exact⟨some x,0,cap,[],hcs,by simp,by omega,fun j hj=>by simp at hj⟩
  ·obtain⟨b,off,spot⟩:=x
   have hspot:spot=none:=by
    obtain⟨v,hv⟩:=hcell 0 0 (by omega) hk0;simpa[Addr.add]using World.cell?_spot hv
   subst hspot;refine⟨some ⟨b,off,none⟩,len,cap,(zo (len*k)).map fun j=>yG2 W b off j,hcs,by simp,by omega,fun j hj=>⟨b,off,rfl,?_⟩⟩;have hj':j<len*k:=by simpa using hj
   obtain⟨v,hv⟩:=hcell (j / k) (j % k) ((Nat.div_lt_iff_lt_mul hk0).2 hj') (Nat.mod_lt _ hk0);rw[add_plain,add_plain,yx,Nat.mul_comm,Nat.div_add_mod]at hv;rw[zM,ye,List.getElem?_range hj'];exact y68 hv
theorem yH8{α:Type}{cs:Array α}(h:cs.size=5):∃c0 c1 c2 c3 c4,cs= #[c0,c1,c2,c3,c4]:=by
 obtain⟨l⟩:=cs
 match l,h with
 |[c0,c1,c2,c3,c4],_=>exact⟨c0,c1,c2,c3,c4,rfl⟩
theorem Tryz.cellsCase:Tryz.prog.cellsOf 45=5:=by kernel_rfl
theorem Tryz.cellsOrd:Tryz.prog.cellsOf 152=6:=by kernel_rfl
theorem Tryz.cellsVeh:Tryz.prog.cellsOf 154=5:=by kernel_rfl
theorem Tryz.cellsOrds:Tryz.prog.cellsOf 42=1:=by kernel_rfl
theorem Tryz.cellsVehs:Tryz.prog.cellsOf 43=1:=by kernel_rfl
theorem Tryz.cellsInts:Tryz.prog.cellsOf 24=1:=by kernel_rfl
set_option maxRecDepth 100000 in
theorem y16{H:Type}{enc:TypeId×Value->H}{W:World}{r:Reach}{base:Nat}{v:Value}{d:DataW H}{p:List MemPlace}
 (hv:Value.okWide ze W r base 45 v) (h:DataW.Trod enc ze W 0 (fun _=>true) true 45 v d p):
 ∃n fine a ao av cap ko co kv cv zs os vs,v=.agg #[zc zb n,za a (zj zs) cap,za ao ko co,za av kv cv,zc zb fine]/\zj os=ko*6/\zj vs=kv*5∧
  zj zs<=9223372036854775807/\ko<=9223372036854775807/\kv<=9223372036854775807/\za3 W a zs/\za3 W ao os/\za3 W av vs:=by
 obtain⟨cs,rfl,hsz⟩:=okWide_struct Tryz.underlying45 hv;obtain⟨c0,c1,c2,c3,c4,rfl⟩:=yH8 (hsz.trans Tryz.cellsCase);obtain⟨fuel,hf⟩:=h;obtain⟨y0,y1,y2,y3,m,_,_,h0,h1,h2,h3⟩:=trod_struct4 Tryz.underlying45 hf;simp only[Value.cells,Tryz.cellsMat,Tryz.cellsOrds,Tryz.cellsVehs,Tryz.cellsInt,List.drop_zero,List.drop_succ_cons,yM,List.take_zero]at h0 h1 h2 h3;obtain⟨z0,z1,m',_,_,k0,k1⟩:=trod_struct2 Tryz.underlying41 h0;simp only[Tryz.cellsInt,Tryz.cellsInts,List.drop_zero,List.drop_succ_cons,yM,List.take_zero]at k0 k1;obtain⟨n,e0,_,_⟩:=DataW.trod_int Tryz.underlying2 k0;obtain⟨a,lt,cap,zs,e1,rfl,hlt,hA⟩:=zW2 k1;obtain⟨ao,ko,co,os,e2,hlo,hko,hO⟩:=ya7 Tryz.underlying42 Tryz.underlying152 Tryz.cellsOrd (by omega) (by kernel_rfl) h1;obtain⟨av,kv,cv,vs,e3,hlv,hkv,hV⟩:=ya7 Tryz.underlying43 Tryz.underlying154 Tryz.cellsVeh (by omega) (by kernel_rfl) h2;obtain⟨fine,e4,_,_⟩:=DataW.trod_int Tryz.underlying2 h3;simp at e0 e1 e2 e3 e4;subst e0 e1 e2 e3 e4;exact⟨n,fine,a,ao,av,cap,ko,co,kv,cv,zs,os,vs,rfl,hlo,hlv,hlt,hko,hkv,hA,hO,hV⟩
theorem yI1{α:Type}{cs:Array α}(h:cs.size=2):∃c0 c1,cs= #[c0,c1]:=by
 match cs,h with
 |⟨[c0,c1]⟩,_=>exact⟨c0,c1,rfl⟩
theorem Tryz.cellsRoute:Tryz.prog.cellsOf 150=2:=by kernel_rfl
