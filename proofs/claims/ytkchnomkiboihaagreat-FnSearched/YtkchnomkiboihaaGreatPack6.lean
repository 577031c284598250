import Derived.Test.YtkchnomkiboihaaGreatPack4
import Derived.Deep.AppendSrc
set_option linter.unusedSimpArgs false
namespace Go.Proofs.YtkchnomkiboihaaGreat
open Value renaming slice→za,int→ze,cells→zO
open IntKind renaming i64→zd
open Proofs.Tryz renaming prog→zh
open Go renaming World→zi
open Region renaming wanted→zn
open Builtin renaming append_→zu,append→zx,zeroCells→zB
open Callee renaming builtin→zw
open List renaming replicate→zE
open Oper renaming wp→zG
open Go.RowKit
open Q
theorem z10(w:zi)(ty:TypeId)(g n c c2:Nat)(h:n<=c):(zu #[24,24] ty #[za (some ⟨g,0,none⟩) n c,za none 0 c2]).run zh w=.ok (za (some ⟨g,0,none⟩) n c) w:=by
 obtain⟨i0,hi,bR,ba,bS⟩:=zr4;simp[zu,xI qb,sizeOf,typeInfo,hi,Builtin.lenOf,h,run_firstCells_none,storeCells]
theorem zE6{ap:Array Oper}{o:Oper}{a:Act}{w:zi}{K:Act->zi->Prop}{Q:Exit->Act->zi->Prop}{E:Prop}
 (hg:o.guard=none) (s x:Operand) (du:o.op=Op.call {callee:=zw zx,args:=#[s,x],argTypes:=#[24,24]})
 (g n c c2:Nat) (hs:a.eval s=za (some ⟨g,0,none⟩) n c) (hx:a.eval x=za none 0 c2) (h:n<=c) (hK:∀w',w'=w->K (a.put o.dst (za (some ⟨g,0,none⟩) n c)) w'):
 if zn o (yielded ap a.tmps)=true then zG zh o a w K Q else E:=by
 have hw:zn o (yielded ap a.tmps)=true:=by simp[zn,hg]
 rw[z7 hw];unfold zG;simp[execOp,du,resolve,invoke,builtin,hs,hx,z10 w o.type g n c c2 h,Result.andThen];exact hK _ rfl
theorem zL6(w:zi){ap:Array Oper}{rest:List Oper}{o:Oper}{a:Act}{Q:Exit->Act->zi->Prop}
 (hg:o.guard=none) (s x:Operand) (du:o.op=Op.call {callee:=zw zx,args:=#[s,x],argTypes:=#[24,24]})
 (g n c c2:Nat) (hs:a.eval s=za (some ⟨g,0,none⟩) n c) (hx:a.eval x=za none 0 c2) (h:n<=c)
 (hK:wpList zh ap Q rest (a.put o.dst (za (some ⟨g,0,none⟩) n c)) w):wpList zh ap Q (o::rest) a w:=
 zz4 _ hg (zx6 s x _ _ _ du hs hx (z10 w o.type g n c c2 h)) hK
theorem yH5:(Tryz.prog.info? 2).map (fun i=>(i.zero,i.size,i.bytes))=some (some (ze zd 0),1,8):=by kernel_rfl
theorem zZ5:∃i0,Tryz.prog.info? 2=some i0/\i0.zero=some (ze zd 0)/\i0.size=1/\i0.bytes=8:=by
 have h:=yH5;cases hq:Tryz.prog.info? 2 with
 |none=>rw[hq]at h;simp at h
 |some i0=>
  rw[hq]at h;simp only[yG,x7,qw]at h;exact⟨i0,rfl,h.1,h.2.1,h.2.2⟩
theorem zK1(r:Nat):zB (ze zd 0).cells r=cellsOf (zE r 0):=by
 apply Array.ext
 ·simp[zB,cellsOf,zO]
 ·intro i h1 h2
  simp[zB,cellsOf,zO,Nat.mod_one]
theorem yq1(zs ys:List Int):(zs.map (ze zd)).toArray++cellsOf ys=cellsOf (zs++ys):=by simp[cellsOf]
theorem yx3{W:zi}{b off:Nat}{zs:List Int}(h:∀j,j<zs.length->W.cell? ⟨b,off+j,none⟩=some (ze zd (zs.getD j 0))):
 ∀j u,(zs.map (ze zd))[j]? =some u->W.cell? ((⟨b,off,none⟩:Addr).add j)=some u:=by
 intro j u hu;have hj:j<zs.length:=by
  rcases qp j zs.length with h'|h'
  ·exact h'
  ·simp[yg (by simpa using h':(zs.map (ze zd)).length<=j)]at hu
 have dI:(⟨b,off,none⟩:Addr).add j=⟨b,off+j,none⟩:=by unfold Addr.add;split<;>simp_all
 rw[dI,h j hj,<-hu];simp[List.getD,hj]
theorem yh4(W:zi)(ty:TypeId)(gb ac:Nat)(a:Option Addr)(zs:List Int)(hA:za3 W a zs)(h0:0<zs.length)(h1:zs.length<=1048576):
 (zu #[24,24] ty #[za (some ⟨gb,0,none⟩) 0 0,za a zs.length ac]).run zh W=
   .ok (za (some ⟨W.heap.size,0,none⟩) zs.length (grownCap W zs.length 0 2)) (W.drew.alloc (.cells (cellsOf (zs++zE (grownCap W zs.length 0 2 - zs.length) 0)) 2)):=by
 obtain⟨b,off,rfl,aJ⟩:=hA.some h0;obtain⟨i,hq,hz,hs,hb⟩:=zZ5;have sP:Src zh i.size 24 (za (some ⟨b,off,none⟩) zs.length ac) zs.length (zs.map (ze zd)) W:=
  Src.ofSlice W qb ⟨b,off,none⟩ zs.length ac _ (by rw[hs];simp) (yx3 aJ) (by simp[Value.oneCell'])
 have:=run_append_grow_src (P:=zh) W 24 24 ty 2 i (ze zd 0) qb hq hz (some ⟨gb,0,none⟩) 0 0 [] (by simp[Builtin.firstCells,loadCells,loadCellsFrom]) _ zs.length _ sP (by omega) (by omega) (by rw[hb];unfold Builtin.nextslicecap;rw[z7 (by omega)];omega);rw[yb,yw]at this;rw[this,zK1,yq1]
theorem zO4{P:Program}{ap:Array Oper}{o:Oper}{a:Act}{w w':zi}{K:Act->zi->Prop}{Q:Exit->Act->zi->Prop}{E:Prop}(v:Value)(uz:o.guard=none)
 (aQ:(execOp a.eval o).run P w=.ok (.value v) w') (h:K (a.put o.dst v) w'):if zn o (yielded ap a.tmps)=true then zG P o a w K Q else E:=by
 have hw:zn o (yielded ap a.tmps)=true:=by simp[zn,uz]
 rw[z7 hw];unfold zG;rw[aQ];exact h
theorem z31{P:Program}{o:Oper}{a:Act}{w w':zi}{v:Value}(s x:Operand)(t:TypeId)(vs vx:Value)(ho:o.op=.call {callee:=.builtin .append,args:=#[s,x],argTypes:=#[t,t]})
 (hs:a.eval s=vs) (hx:a.eval x=vx) (hr:(zu #[t,t] o.type #[vs,vx]).run P w=.ok v w'):(execOp a.eval o).run P w=.ok (.value v) w':=by
 unfold execOp;simp only[ho,resolve,invoke,builtin,Sem.run_bind,Sem.run_pure,Result.andThen_ok,List.map_toArray,xH,xK,hs,hx,hr]
theorem zN8{w1 X:zi}{b o:Nat}{v:Value}(hc:w1.cell? ⟨b,o,none⟩=some v)(hb:Below w1.heap.size w1 X):X.cell? ⟨b,o,none⟩=some v:=by
 rw[hb.cell (p:=⟨b,o,none⟩) (zV hc)];exact hc
