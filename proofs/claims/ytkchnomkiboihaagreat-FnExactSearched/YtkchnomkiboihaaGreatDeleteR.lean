import Derived.Test.YtkchnomkiboihaaGreatPack9
set_option maxHeartbeats 4000000
namespace Go.Proofs.YtkchnomkiboihaaGreat
open Value renaming slice→za,int→zc
open IntKind renaming i64→zb
open Proofs.Tryz renaming prog→ze
open Go.RowKit Go.Lib
open Q
theorem yG8:(Tryz.prog.info? 80).map (fun i=>(i.zero,i.size,i.bytes))=some (some (.agg #[zc zb 0,za none 0 0]),2,32):=by kernel_rfl
theorem yJ9(w:World):(zeroValue 80).run ze w=.ok (.agg #[zc zb 0,za none 0 0]) w:=by
 obtain⟨i0,hi,hz,_,_⟩:=zq4 yG8;simp[zeroValue,typeInfo,hi,hz]
set_option maxRecDepth 100000 in
theorem yD2(g c i base n:Nat)(xs:List Value)(w:World)(hx:xs.length=n*2)(hx1:∀v∈xs,v.oneCell'=true)(ho:w.ownsRow base 80 2 (za (some ⟨g,0,none⟩) n c) n xs)(hi:i<n)(hl:n<=1000):
 Calls ze 172 #[za (some ⟨g,0,none⟩) n c,zc zb i,zc zb ((i:Int)+1)] w fun e w'=>e=.returned (za (some ⟨g,0,none⟩) (n - 1) c)/\Below base w w'/\w'.ownsRow base 80 2 (za (some ⟨g,0,none⟩) (n - 1) c) (n - 1) (xs.take (i*2)++xs.drop ((i+1)*2)):=by
 obtain⟨hlen,⟨h0,_⟩|⟨g',cap,cur,h2,hbg,hrow,hnc,hcm,hcs,htk⟩⟩:=id ho
 ·cases h0
 simp at h2;obtain⟨rfl,rfl⟩:=h2;obtain⟨i0,hi0,hz0,hz1,hz2⟩:=zq4 yG8;have hc63:c<=9223372036854775807:=by unfold maxLen at hcm;omega
 have O1:w.ownsRow base 80 2 (za (some ⟨g,0,none⟩) i c) i (xs.take (i*2)):=by
  refine⟨by rw[zZ,hx];omega,.inr ⟨g,c,cur,rfl,hbg,hrow,by omega,hcm,hcs,?_⟩⟩;rw[<-htk,List.take_take,Nat.min_eq_left (by omega)]
 obtain⟨D,HD⟩:∃D:List Value,Hid (xs.drop ((i+1)*2)=D):=⟨_,rfl⟩;have hdl:D.length=n*2 - (i+1)*2:=by rw[<-HD.X,x7,hx]
 have hD:∀j,D[j]? =xs[(i+1)*2+j]? :=fun j=>by rw[<-HD.X,x6]
 have hD1:∀v∈D,v.oneCell'=true:=fun v hv9=>by
  rw[<-HD.X]at hv9;exact hx1 v (yI hv9)
 obtain⟨m,rfl⟩:∃m,n=m+1:=⟨n - 1,by omega⟩;have hin1:i+(m - i)=m:=by omega
 obtain⟨W1,hrun,hown,hgr⟩:∃w',(Builtin.append_ #[31,31] 31 #[za (some ⟨g,0,none⟩) i c,za (if c=i+1 then some ⟨g,0,none⟩else some ⟨g,(i+1)*2,none⟩) (m - i) (c - (i+1))]).run ze w.drew=.ok (za (some ⟨g,0,none⟩) m c) w'/\w'.ownsRow base 80 2 (za (some ⟨g,0,none⟩) m c) m (xs.take (i*2)++D)/\w.drew.grownBy w' (some g):=by
  split
  ·have:=run_append_fits (P:=ze) w.drew base 31 31 80 i0 2 ql hi0 hz1 g i c _ O1 ⟨g,0,none⟩ (m - i) (c - (i+1)) D (by omega)
    (fun j u hj=>by rw[yb (by omega)]at hj;cases hj) hD1 (by omega)
   rw[hin1]at this;exact this
  ·have:=run_append_fits (P:=ze) w.drew base 31 31 80 i0 2 ql hi0 hz1 g i c _ O1 ⟨g,(i+1)*2,none⟩ (m - i) (c - (i+1)) D (by omega)
    (fun j u hj=>by
      have hj9:(i+1)*2+j<xs.length:=by
       rcases qc ((i+1)*2+j) xs.length with h|h
       ·exact h
       ·rw[hD,yb h]at hj;cases hj
      have h9:=zO hj9;rw[qr,<-hj,hD,h9];exact(zd5 ho h9).1) hD1 (by omega)
   rw[hin1]at this;exact this
 obtain⟨_,⟨h0,_⟩|⟨g',cap,cur1,h2,_,hrow1,_,_,hcs1,htk1⟩⟩:=id hown
 ·cases h0
 simp at h2;obtain⟨rfl,rfl⟩:=h2;have hcl:∀ty cc,(Builtin.clear_ #[31] ty #[za (some ⟨g,m*2,none⟩) 1 cc]).run ze W1=.ok (.tuple #[]) (W1.setCells g (m*2) [zc zb 0,za none 0 0]):=fun ty cc=>by
  exact yr4 (P:=ze) W1 31 80 ty _ ql yJ9 g (m*2) 1 cc (by omega) [zc zb 0,za none 0 0] (by kernel_rfl) (by intro v hv9;simp at hv9;rcases hv9 with rfl|rfl<;>rfl) (fun j hj=>by rw[zR _ _ _ _ _ _ hrow1,qp (by simp at hj;omega)];rfl) (fun j _=>yU _ _ _ _ _ hrow1)
 have FIN:Hid (Below base w (W1.setCells g (m*2) [zc zb 0,za none 0 0])/\(W1.setCells g (m*2) [zc zb 0,za none 0 0]).ownsRow base 80 2 (za (some ⟨g,0,none⟩) m c) m (xs.take (i*2)++D)):=by
  have hB1:Below base w W1:=(yV _ _).drew.grown hgr (by have:=za2 hrow;show base<=w.heap.size;omega) (fun k e=>by simp at e;omega);refine⟨zg8 hbg _ _ hB1,?_⟩;obtain⟨cur2,hr2,hs2⟩:=zk0 g 80 [zc zb 0,za none 0 0] (m*2) W1 cur1 hrow1;refine zm7 hr2 (by rw[hs2,hcs1]) (by omega) hcm hbg hown.1 (fun j hj=> ?_);rw[qm g _ _ _ _ (fun _ _=>by simp;omega)];have h9:(xs.take (i*2)++D)[j]? =some (xs.take (i*2)++D)[j]:=zO (by rw[hown.1];exact hj);rw[h9];exact(zd5 hown h9).1
 have mixed:Tryz.prog.follows .mixedOrders=true:=by kernel_rfl
 have hq1:¬((i:Int)=(i:Int)+1):=by omega
 have hq2:(0:Int)<=(i:Int)+1:=by omega
 have hq3:(i:Int)<=(i:Int)+1:=by omega
 have hq4:((i:Int)+1).toNat=i+1:=by omega
 have hq5:i+1<=m+1:=by omega
 have hq6:m+1<=c:=hnc;have hq7:i<=c:=by omega
 have hq8:i+1<=c:=by omega
 have hq9:i<=m:=by omega
 have hq10:¬(c=m):=by omega
 rw[HD.X];clear ho hlen htk hrow hcm hcs hnc hx hx1 hdl hD hD1 O1 hown hgr hrow1 hcs1 htk1 hi0 hz0 hz1 hz2 hin1 hl;go_enter Tryz.func172,Tryz.ntmps172
 go_wp2_with fail
 go_region_law (refine zB7 rfl (.tmp 22) (.tmp 25) 31 31 rfl _ _ (by simp[Act.eval,Act.put]) (by simp[Act.eval,Act.put]) hrun ?_)
 all_goals
  go_wp2
  all_goals
   go_ret
   first|exact⟨rfl,FIN.X⟩|(subst_vars;exact⟨rfl,FIN.X⟩)
