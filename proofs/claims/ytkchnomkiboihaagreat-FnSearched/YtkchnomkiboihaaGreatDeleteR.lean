import Derived.Test.YtkchnomkiboihaaGreatPack19
set_option maxHeartbeats 4000000
namespace Go.Proofs.YtkchnomkiboihaaGreat
open Value renaming slice→za,int→ze
open IntKind renaming i64→zd
open Proofs.Tryz renaming prog→zh
open Go.RowKit Go.Lib
open Q
theorem yI3:(Tryz.prog.info? 80).map (fun i=>(i.zero,i.size,i.bytes))=some (some (.agg #[ze zd 0,za none 0 0]),2,32):=by kernel_rfl
theorem yK5(w:World):(zeroValue 80).run zh w=.ok (.agg #[ze zd 0,za none 0 0]) w:=by
 obtain⟨i0,hi,hz,_,_⟩:=zq4 yI3;simp[zeroValue,typeInfo,hi,hz]
set_option maxRecDepth 100000 in
theorem yC9(g c i base n:Nat)(xs:List Value)(w:World)(hx:xs.length=n*2)(ci:∀v∈xs,v.oneCell'=true)(ho:w.ownsRow base 80 2 (za (some ⟨g,0,none⟩) n c) n xs)(hi:i<n)(hl:n<=1000):
 Calls zh 172 #[za (some ⟨g,0,none⟩) n c,ze zd i,ze zd ((i:Int)+1)] w fun e w'=>e=.returned (za (some ⟨g,0,none⟩) (n - 1) c)/\Below base w w'/\w'.ownsRow base 80 2 (za (some ⟨g,0,none⟩) (n - 1) c) (n - 1) (xs.take (i*2)++xs.drop ((i+1)*2)):=by
 obtain⟨aL,⟨h0,_⟩|⟨g',ac,az,h2,dW,aM,jE,iF,aJ,jB⟩⟩:=id ho
 ·cases h0
 simp at h2;obtain⟨rfl,rfl⟩:=h2;obtain⟨i0,jl,bR,ba,bS⟩:=zq4 yI3;have Bg:c<=9223372036854775807:=by unfold maxLen at iF;omega
 have O1:w.ownsRow base 80 2 (za (some ⟨g,0,none⟩) i c) i (xs.take (i*2)):=by
  refine⟨by rw[yh,hx];omega,.inr ⟨g,c,az,rfl,dW,aM,by omega,iF,aJ,?_⟩⟩;rw[<-jB,List.take_take,Nat.min_eq_left (by omega)]
 obtain⟨D,HD⟩:∃D:List Value,Hid (xs.drop ((i+1)*2)=D):=⟨_,rfl⟩;have kG:D.length=n*2 - (i+1)*2:=by rw[<-HD.X,qj,hx]
 have hD:∀j,D[j]? =xs[(i+1)*2+j]? :=fun j=>by rw[<-HD.X,qr]
 have jR:∀v∈D,v.oneCell'=true:=fun v fK=>by
  rw[<-HD.X]at fK;exact ci v (yQ fK)
 obtain⟨m,rfl⟩:∃m,n=m+1:=⟨n - 1,by omega⟩;have tU:i+(m - i)=m:=by omega
 obtain⟨W1,aQ,ae,oX⟩:∃w',(Builtin.append_ #[31,31] 31 #[za (some ⟨g,0,none⟩) i c,za (if c=i+1 then some ⟨g,0,none⟩else some ⟨g,(i+1)*2,none⟩) (m - i) (c - (i+1))]).run zh w.drew=.ok (za (some ⟨g,0,none⟩) m c) w'/\w'.ownsRow base 80 2 (za (some ⟨g,0,none⟩) m c) m (xs.take (i*2)++D)/\w.drew.grownBy w' (some g):=by
  split
  ·have:=run_append_fits (P:=zh) w.drew base 31 31 80 i0 2 qS jl ba g i c _ O1 ⟨g,0,none⟩ (m - i) (c - (i+1)) D (by omega)
    (fun j u hj=>by rw[yg (by omega)]at hj;cases hj) jR (by omega)
   rw[tU]at this;exact this
  ·have:=run_append_fits (P:=zh) w.drew base 31 31 80 i0 2 qS jl ba g i c _ O1 ⟨g,(i+1)*2,none⟩ (m - i) (c - (i+1)) D (by omega)
    (fun j u hj=>by
      have nY:(i+1)*2+j<xs.length:=by
       rcases qp ((i+1)*2+j) xs.length with h|h
       ·exact h
       ·rw[hD,yg h]at hj;cases hj
      have h9:=zR nY;rw[qX,<-hj,hD,h9];exact(zh0 ho h9).1) jR (by omega)
   rw[tU]at this;exact this
 obtain⟨_,⟨h0,_⟩|⟨g',ac,gW,h2,_,kY,_,_,AY,Fv⟩⟩:=id ae
 ·cases h0
 simp at h2;obtain⟨rfl,rfl⟩:=h2;have jI:∀ty cc,(Builtin.clear_ #[31] ty #[za (some ⟨g,m*2,none⟩) 1 cc]).run zh W1=.ok (.tuple #[]) (W1.setCells g (m*2) [ze zd 0,za none 0 0]):=fun ty cc=>by
  exact yq2 (P:=zh) W1 31 80 ty _ qS yK5 g (m*2) 1 cc (by omega) [ze zd 0,za none 0 0] (by kernel_rfl) (by intro v fK;simp at fK;rcases fK with rfl|rfl<;>rfl) (fun j hj=>by rw[zU _ _ _ _ _ _ kY,qW (by simp at hj;omega)];rfl) (fun j _=>yZ _ _ _ _ _ kY)
 have lg:Hid (Below base w (W1.setCells g (m*2) [ze zd 0,za none 0 0])/\(W1.setCells g (m*2) [ze zd 0,za none 0 0]).ownsRow base 80 2 (za (some ⟨g,0,none⟩) m c) m (xs.take (i*2)++D)):=by
  have ow:Below base w W1:=(y5 _ _).drew.grown oX (by have:=za2 aM;show base<=w.heap.size;omega) (fun k e=>by simp at e;omega);refine⟨zg9 dW _ _ ow,?_⟩;obtain⟨pQ,ix,gR⟩:=zj9 g 80 [ze zd 0,za none 0 0] (m*2) W1 gW kY;refine zu2 ix (by rw[gR,AY]) (by omega) iF dW ae.1 fun j hj=> ?_;rw[qU g _ _ _ _ (fun _ _=>by simp;omega)];have h9:(xs.take (i*2)++D)[j]? =some (xs.take (i*2)++D)[j]:=zR (by rw[ae.1];exact hj);rw[h9];exact(zh0 ae h9).1
 have mixed:Tryz.prog.follows .mixedOrders=true:=by kernel_rfl
 have jD:¬((i:Int)=(i:Int)+1):=by omega
 have og:(0:Int)<=(i:Int)+1:=by omega
 have QQ:(i:Int)<=(i:Int)+1:=by omega
 have QJ:((i:Int)+1).toNat=i+1:=by omega
 have Js:i+1<=m+1:=by omega
 have QP:m+1<=c:=jE;have Rq:i<=c:=by omega
 have QK:i+1<=c:=by omega
 have QI:i<=m:=by omega
 have Ma:¬(c=m):=by omega
 rw[HD.X];clear ho aL jB aM iF aJ jE hx ci kG hD jR O1 ae oX kY AY Fv jl bR ba bS tU hl;go_enter Tryz.func172,Tryz.ntmps172
 go_wp2_with fail
 go_region_law (refine zB6 rfl (.tmp 22) (.tmp 25) 31 31 rfl _ _ (by simp[Act.eval,Act.put]) (by simp[Act.eval,Act.put]) aQ ?_)
 all_goals
  go_wp2
  all_goals
   go_ret
   first|exact⟨rfl,lg.X⟩|(subst_vars;exact⟨rfl,lg.X⟩)
