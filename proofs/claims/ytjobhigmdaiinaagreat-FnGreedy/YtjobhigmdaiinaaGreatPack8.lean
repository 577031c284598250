import Derived.Test.YtjobhigmdaiinaaGreatPack0
import Derived.Test.YtjobhigmdaiinaaGreatPack1
import Derived.Deep.AppendSrc
namespace Go.Proofs.YtjobhigmdaiinaaGreat
open Go.RowKit
theorem yt1:(Tryz.prog.info? 2).map (fun i=>(i.zero,i.size,i.bytes))=some (some (Value.int .i64 0),1,8):=by kernel_rfl
theorem zH4:∃i0,Tryz.prog.info? 2=some i0/\i0.zero=some (Value.int .i64 0)/\i0.size=1/\i0.bytes=8:=by
 have h:=yt1;cases hq:Tryz.prog.info? 2 with
 |none=>rw[hq]at h;simp at h
 |some i0=>
  rw[hq]at h;simp only[Option.map_some,Option.some.injEq,Prod.mk.injEq]at h;exact⟨i0,rfl,h.1,h.2.1,h.2.2⟩
theorem z91(r:Nat):Builtin.zeroCells (Value.int .i64 0).cells r=cellsOf (List.replicate r 0):=by
 apply Array.ext
 ·simp[Builtin.zeroCells,cellsOf,Value.cells]
 ·intro i h1 h2
  simp[Builtin.zeroCells,cellsOf,Value.cells,Nat.mod_one]
theorem zU5(zs ys:List Int):(zs.map (Value.int .i64)).toArray++cellsOf ys=cellsOf (zs++ys):=by simp[cellsOf]
theorem yf3{W:World}{b off:Nat}{zs:List Int}(h:∀j,j<zs.length->W.cell? ⟨b,off+j,none⟩=some (.int .i64 (zs.getD j 0))):
 ∀j u,(zs.map (Value.int .i64))[j]? =some u->W.cell? ((⟨b,off,none⟩:Addr).add j)=some u:=by
 intro j u hu;have hj:j<zs.length:=by
  rcases Nat.lt_or_ge j zs.length with h'|h'
  ·exact h'
  ·simp[List.getElem?_eq_none (by simpa using h':(zs.map (Value.int .i64)).length<=j)]at hu
 have hadd:(⟨b,off,none⟩:Addr).add j=⟨b,off+j,none⟩:=by unfold Addr.add;split<;>simp_all
 rw[hadd,h j hj,<-hu];simp[List.getD,hj]
theorem zN3(W:World)(ty:TypeId)(gb cap:Nat)(a:Option Addr)(zs:List Int)(hA:za0 W a zs)(h0:0<zs.length)(h1:zs.length<=1048576):
 (Builtin.append_ #[24,24] ty #[.slice (some ⟨gb,0,none⟩) 0 0,.slice a zs.length cap]).run Tryz.prog W=
   .ok (.slice (some ⟨W.heap.size,0,none⟩) zs.length (grownCap W zs.length 0 2)) (W.drew.alloc (.cells (cellsOf (zs++List.replicate (grownCap W zs.length 0 2 - zs.length) 0)) 2)):=by
 obtain⟨b,off,rfl,hcs⟩:=hA.some h0;obtain⟨i,hq,hz,hs,hb⟩:=zH4;have hsrc:Src Tryz.prog i.size 24 (.slice (some ⟨b,off,none⟩) zs.length cap) zs.length (zs.map (Value.int .i64)) W:=
  Src.ofSlice W Tryz.underlying24 ⟨b,off,none⟩ zs.length cap _ (by rw[hs];simp) (yf3 hcs) (by simp[Value.oneCell'])
 have:=run_append_grow_src (P:=Tryz.prog) W 24 24 ty 2 i (.int .i64 0) Tryz.underlying24 hq hz (some ⟨gb,0,none⟩) 0 0 [] (by simp[Builtin.firstCells,loadCells,loadCellsFrom]) _ zs.length _ hsrc (by omega) (by omega) (by rw[hb];unfold Builtin.nextslicecap;rw[if_pos (by omega)];omega);rw[Nat.zero_add,List.nil_append]at this;rw[this,z91,zU5]
theorem zC8{P:Program}{ops:Array Oper}{o:Oper}{a:Act}{w w':World}{K:Act->World->Prop}{Q:Exit->Act->World->Prop}{E:Prop}(v:Value)(hgd:o.guard=none)
 (hrun:(execOp a.eval o).run P w=.ok (.value v) w') (h:K (a.put o.dst v) w'):if Region.wanted o (yielded ops a.tmps)=true then Oper.wp P o a w K Q else E:=by
 have hw:Region.wanted o (yielded ops a.tmps)=true:=by simp[Region.wanted,hgd]
 rw[if_pos hw];unfold Oper.wp;rw[hrun];exact h
theorem zw2{P:Program}{o:Oper}{a:Act}{w w':World}{v:Value}(s x:Operand)(t:TypeId)(vs vx:Value)(ho:o.op=.call {callee:=.builtin .append,args:=#[s,x],argTypes:=#[t,t]})
 (hs:a.eval s=vs) (hx:a.eval x=vx) (hr:(Builtin.append_ #[t,t] o.type #[vs,vx]).run P w=.ok v w'):(execOp a.eval o).run P w=.ok (.value v) w':=by
 unfold execOp;simp only[ho,resolve,invoke,builtin,Sem.run_bind,Sem.run_pure,Result.andThen_ok,List.map_toArray,List.map_cons,List.map_nil,hs,hx,hr]
theorem zA4{w1 X:World}{b o:Nat}{v:Value}(hc:w1.cell? ⟨b,o,none⟩=some v)(hb:Below w1.heap.size w1 X):X.cell? ⟨b,o,none⟩=some v:=by
 rw[hb.cell (p:=⟨b,o,none⟩) (block_lt_of_cell hc)];exact hc
end Go.Proofs.YtjobhigmdaiinaaGreat
