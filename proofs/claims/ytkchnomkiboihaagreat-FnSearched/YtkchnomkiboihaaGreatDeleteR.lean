import Derived.Test.YtkchnomkiboihaaGreatPack19
set_option maxHeartbeats 4000000
namespace Go.Proofs.YtkchnomkiboihaaGreat
open Value renaming slice→za,int→ze
open IntKind renaming i64→zd
open Proofs.Tryz renaming prog→zh
open Go.RowKit Go.Lib
open Q
theorem yJ9:(Tryz.prog.info? 80).map (fun i=>(i.zero,i.size,i.bytes))=some (some (.agg #[ze zd 0,za none 0 0]),2,32):=by kernel_rfl
theorem yJ8(w:World):(zeroValue 80).run zh w=.ok (.agg #[ze zd 0,za none 0 0]) w:=by
 obtain⟨i0,hi,hz,_,_⟩:=zq7 yJ9;simp[zeroValue,typeInfo,hi,hz]
set_option maxRecDepth 100000 in
theorem yD4(g c i base n:Nat)(xs:List Value)(w:World)(hx:xs.length=n*2)(ci:∀v∈xs,v.oneCell'=true)(ho:w.ownsRow base 80 2 (za (some ⟨g,0,none⟩) n c) n xs)(hi:i<n)(hl:n<=1000):
 Calls zh 172 #[za (some ⟨g,0,none⟩) n c,ze zd i,ze zd ((i:Int)+1)] w fun e w'=>e=.returned (za (some ⟨g,0,none⟩) (n - 1) c)/\Below base w w'/\w'.ownsRow base 80 2 (za (some ⟨g,0,none⟩) (n - 1) c) (n - 1) (xs.take (i*2)++xs.drop ((i+1)*2)):=by
 obtain⟨aL,⟨h0,_⟩|⟨g',ac,az,h2,dR,aM,js,iL,aJ,jx⟩⟩:=id ho
 ·cases h0
 simp at h2;obtain⟨rfl,rfl⟩:=h2;obtain⟨i0,iP,bN,ba,bR⟩:=zq7 yJ9;have Be:c<=9223372036854775807:=by unfold maxLen at iL;omega
 have O1:w.ownsRow base 80 2 (za (some ⟨g,0,none⟩) i c) i (xs.take (i*2)):=by
  refine⟨by rw[yh,hx];omega,.inr ⟨g,c,az,rfl,dR,aM,by omega,iL,aJ,?_⟩⟩;rw[<-jx,List.take_take,Nat.min_eq_left (by omega)]
 obtain⟨D,HD⟩:∃D:List Value,Hid (xs.drop ((i+1)*2)=D):=⟨_,rfl⟩;have kC:D.length=n*2 - (i+1)*2:=by rw[<-HD.X,qj,hx]
 have hD:∀j,D[j]? =xs[(i+1)*2+j]? :=fun j=>by rw[<-HD.X,qr]
 have j_:∀v∈D,v.oneCell'=true:=fun v fG=>by
  rw[<-HD.X]at fG;exact ci v (yQ fG)
 obtain⟨m,rfl⟩:∃m,n=m+1:=⟨n - 1,by omega⟩;have su:i+(m - i)=m:=by omega
 obtain⟨W1,aS,ae,pj⟩:∃w',(Builtin.append_ #[31,31] 31 #[za (some ⟨g,0,none⟩) i c,za (if c=i+1 then some ⟨g,0,none⟩else some ⟨g,(i+1)*2,none⟩) (m - i) (c - (i+1))]).run zh w.drew=.ok (za (some ⟨g,0,none⟩) m c) w'/\w'.ownsRow base 80 2 (za (some ⟨g,0,none⟩) m c) m (xs.take (i*2)++D)/\w.drew.grownBy w' (some g):=by
  split
  ·have:=run_append_fits (P:=zh) w.drew base 31 31 80 i0 2 qS iP ba g i c _ O1 ⟨g,0,none⟩ (m - i) (c - (i+1)) D (by omega)
    (fun j u hj=>by rw[yg (by omega)]at hj;cases hj) j_ (by omega)
   rw[su]at this;exact this
  ·have:=run_append_fits (P:=zh) w.drew base 31 31 80 i0 2 qS iP ba g i c _ O1 ⟨g,(i+1)*2,none⟩ (m - i) (c - (i+1)) D (by omega)
    (fun j u hj=>by
      have nc:(i+1)*2+j<xs.length:=by
       rcases qp ((i+1)*2+j) xs.length with h|h
       ·exact h
       ·rw[hD,yg h]at hj;cases hj
      have h9:=zR nc;rw[qX,<-hj,hD,h9];exact(zg8 ho h9).1) j_ (by omega)
   rw[su]at this;exact this
 obtain⟨_,⟨h0,_⟩|⟨g',ac,gU,h2,_,kU,_,_,vW,Hn⟩⟩:=id ae
 ·cases h0
 simp at h2;obtain⟨rfl,rfl⟩:=h2;have jv:∀ty cc,(Builtin.clear_ #[31] ty #[za (some ⟨g,m*2,none⟩) 1 cc]).run zh W1=.ok (.tuple #[]) (W1.setCells g (m*2) [ze zd 0,za none 0 0]):=fun ty cc=>by
  exact yp4 (P:=zh) W1 31 80 ty _ qS yJ8 g (m*2) 1 cc (by omega) [ze zd 0,za none 0 0] (by kernel_rfl) (by intro v fG;simp at fG;rcases fG with rfl|rfl<;>rfl) (fun j hj=>by rw[zU _ _ _ _ _ _ kU,qW (by simp at hj;omega)];rfl) (fun j _=>yZ _ _ _ _ _ kU)
 have kM:Hid (Below base w (W1.setCells g (m*2) [ze zd 0,za none 0 0])/\(W1.setCells g (m*2) [ze zd 0,za none 0 0]).ownsRow base 80 2 (za (some ⟨g,0,none⟩) m c) m (xs.take (i*2)++D)):=by
  have oN:Below base w W1:=(y5 _ _).drew.grown pj (by have:=za2 aM;show base<=w.heap.size;omega) (fun k e=>by simp at e;omega);refine⟨zg9 dR _ _ oN,?_⟩;obtain⟨pC,iB,g_⟩:=zk1 g 80 [ze zd 0,za none 0 0] (m*2) W1 gU kU;refine zu2 iB (by rw[g_,vW]) (by omega) iL dR ae.1 fun j hj=> ?_;rw[qU g _ _ _ _ (fun _ _=>by simp;omega)];have h9:(xs.take (i*2)++D)[j]? =some (xs.take (i*2)++D)[j]:=zR (by rw[ae.1];exact hj);rw[h9];exact(zg8 ae h9).1
 have mixed:Tryz.prog.follows .mixedOrders=true:=by kernel_rfl
 have jB:¬((i:Int)=(i:Int)+1):=by omega
 have oM:(0:Int)<=(i:Int)+1:=by omega
 have QG:(i:Int)<=(i:Int)+1:=by omega
 have QI:((i:Int)+1).toNat=i+1:=by omega
 have I0:i+1<=m+1:=by omega
 have Rt:m+1<=c:=js;have Rc:i<=c:=by omega
 have Rk:i+1<=c:=by omega
 have Rf:i<=m:=by omega
 have LW:¬(c=m):=by omega
 rw[HD.X];clear ho aL jx aM iL aJ js hx ci kC hD j_ O1 ae pj kU vW Hn iP bN ba bR su hl;go_enter Tryz.func172,Tryz.ntmps172
 go_wp2_with fail
 go_region_law (refine zC5 rfl (.tmp 22) (.tmp 25) 31 31 rfl _ _ (by simp[Act.eval,Act.put]) (by simp[Act.eval,Act.put]) aS ?_)
 all_goals
  go_wp2
  all_goals
   go_ret
   first|exact⟨rfl,kM.X⟩|(subst_vars;exact⟨rfl,kM.X⟩)
