import Derived.Test.YtjobhigmdaiinaaGreatPack17
import Derived.Laws.OwnMore
namespace Go.Proofs.YtjobhigmdaiinaaGreat
open Go.RowKit Go.Lib
theorem yr9:(Tryz.prog.info? 43).map (fun i=>(i.zero,i.size,i.bytes))=some (some (.agg #[.int .i64 0,.slice none 0 0]),2,32):=by kernel_rfl
theorem yq8(w:World):(zeroValue 43).run Tryz.prog w=.ok (.agg #[.int .i64 0,.slice none 0 0]) w:=by
 obtain⟨i0,hi,hz,_,_⟩:=zm1 yr9;simp[zeroValue,typeInfo,hi,hz]
set_option maxHeartbeats 4000000 in
set_option maxRecDepth 100000 in
theorem yo0(g c i base n:Nat)(xs:List Value)(w:World)(hx:xs.length=n*2)(hx1:∀v∈xs,v.oneCell'=true)(ho:w.ownsRow base 43 2 (.slice (some ⟨g,0,none⟩) n c) n xs)(hi:i<n)(hl:n<=1000):
 Calls Tryz.prog 104 #[.slice (some ⟨g,0,none⟩) n c,.int .i64 i,.int .i64 ((i:Int)+1)] w fun e w'=>e=.returned (.slice (some ⟨g,0,none⟩) (n - 1) c)/\Below base w w'/\w'.ownsRow base 43 2 (.slice (some ⟨g,0,none⟩) (n - 1) c) (n - 1) (xs.take (i*2)++xs.drop ((i+1)*2)):=by
 obtain⟨hlen,⟨h0,_⟩|⟨g',cap,cur,h2,hbg,hrow,hnc,hcm,hcs,htk⟩⟩:=id ho
 ·cases h0
 simp at h2;obtain⟨rfl,rfl⟩:=h2;obtain⟨i0,hi0,hz0,hz1,hz2⟩:=zm1 yr9;have hc63:c<=9223372036854775807:=by unfold maxLen at hcm;omega
 have O1:w.ownsRow base 43 2 (.slice (some ⟨g,0,none⟩) i c) i (xs.take (i*2)):=by
  refine⟨by rw[List.length_take,hx];omega,.inr ⟨g,c,cur,rfl,hbg,hrow,by omega,hcm,hcs,?_⟩⟩;rw[<-htk,List.take_take,Nat.min_eq_left (by omega)]
 obtain⟨D,HD⟩:∃D:List Value,Hid (xs.drop ((i+1)*2)=D):=⟨_,rfl⟩;have hdl:D.length=n*2 - (i+1)*2:=by rw[<-HD.out,List.length_drop,hx]
 have hD:∀j,D[j]? =xs[(i+1)*2+j]? :=fun j=>by rw[<-HD.out,List.getElem?_drop]
 have hD1:∀v∈D,v.oneCell'=true:=fun v hv9=>by
  rw[<-HD.out]at hv9;exact hx1 v (List.mem_of_mem_drop hv9)
 obtain⟨m,rfl⟩:∃m,n=m+1:=⟨n - 1,by omega⟩;have hin1:i+(m - i)=m:=by omega
 obtain⟨W1,hrun,hown,hgr⟩:∃w',(Builtin.append_ #[31,31] 31 #[.slice (some ⟨g,0,none⟩) i c,.slice (if c=i+1 then some ⟨g,0,none⟩else some ⟨g,(i+1)*2,none⟩) (m - i) (c - (i+1))]).run Tryz.prog w.drew=.ok (.slice (some ⟨g,0,none⟩) m c) w'/\w'.ownsRow base 43 2 (.slice (some ⟨g,0,none⟩) m c) m (xs.take (i*2)++D)/\w.drew.grownBy w' (some g):=by
  split
  ·have:=run_append_fits (P:=Tryz.prog) w.drew base 31 31 43 i0 2 Tryz.underlying31 hi0 hz1 g i c _ O1 ⟨g,0,none⟩ (m - i) (c - (i+1)) D (by omega)
    (fun j u hj=>by rw[List.getElem?_eq_none (by omega)]at hj;cases hj) hD1 (by omega)
   rw[hin1]at this;exact this
  ·have:=run_append_fits (P:=Tryz.prog) w.drew base 31 31 43 i0 2 Tryz.underlying31 hi0 hz1 g i c _ O1 ⟨g,(i+1)*2,none⟩ (m - i) (c - (i+1)) D (by omega)
    (fun j u hj=>by
      have hj9:(i+1)*2+j<xs.length:=by
       rcases Nat.lt_or_ge ((i+1)*2+j) xs.length with h|h
       ·exact h
       ·rw[hD,List.getElem?_eq_none h]at hj;cases hj
      have h9:=List.getElem?_eq_getElem hj9;rw[Addr.add_lit,<-hj,hD,h9];exact(zf6 ho h9).1) hD1 (by omega)
   rw[hin1]at this;exact this
 obtain⟨_,⟨h0,_⟩|⟨g',cap,cur1,h2,_,hrow1,_,_,hcs1,htk1⟩⟩:=id hown
 ·cases h0
 simp at h2;obtain⟨rfl,rfl⟩:=h2;have hcl:∀ty cc,(Builtin.clear_ #[31] ty #[.slice (some ⟨g,m*2,none⟩) 1 cc]).run Tryz.prog W1=.ok (.tuple #[]) (W1.setCells g (m*2) [.int .i64 0,.slice none 0 0]):=fun ty cc=>by
  exact zV5 (P:=Tryz.prog) W1 31 43 ty _ Tryz.underlying31 yq8 g (m*2) 1 cc (by omega) [.int .i64 0,.slice none 0 0] (by kernel_rfl) (by intro v hv9;simp at hv9;rcases hv9 with rfl|rfl<;>rfl) (fun j hj=>by rw[cell_of_row _ _ _ _ _ _ hrow1,Array.getElem?_eq_getElem (by simp at hj;omega)];rfl) (fun j _=>frozen_of_row _ _ _ _ _ hrow1)
 have FIN:Hid (Below base w (W1.setCells g (m*2) [.int .i64 0,.slice none 0 0])/\(W1.setCells g (m*2) [.int .i64 0,.slice none 0 0]).ownsRow base 43 2 (.slice (some ⟨g,0,none⟩) m c) m (xs.take (i*2)++D)):=by
  have hB1:Below base w W1:=(Below.refl _ _).drew.grown hgr (by have:=za3 hrow;show base<=w.heap.size;omega) (fun k e=>by simp at e;omega);refine⟨ze9 hbg _ _ hB1,?_⟩;obtain⟨cur2,hr2,hs2⟩:=zh5 g 43 [.int .i64 0,.slice none 0 0] (m*2) W1 cur1 hrow1;refine zp9 hr2 (by rw[hs2,hcs1]) (by omega) hcm hbg hown.1 (fun j hj=> ?_);rw[World.cell?_setCells_out g _ _ _ _ (fun _ _=>by simp;omega)];have h9:(xs.take (i*2)++D)[j]? =some (xs.take (i*2)++D)[j]:=List.getElem?_eq_getElem (by rw[hown.1];exact hj);rw[h9];exact(zf6 hown h9).1
 have mixed:Tryz.prog.follows .mixedOrders=true:=by kernel_rfl
 have hq1:¬((i:Int)=(i:Int)+1):=by omega
 have hq2:(0:Int)<=(i:Int)+1:=by omega
 have hq3:(i:Int)<=(i:Int)+1:=by omega
 have hq4:((i:Int)+1).toNat=i+1:=by omega
 have hq5:i+1<=m+1:=by omega
 have hq6:m+1<=c:=hnc;have hq7:i<=c:=by omega
 have hq8:i+1<=c:=by omega
 have hq9:i<=m:=by omega
 have hq10:¬(c=m):=by omega
 rw[HD.out];clear ho hlen htk hrow hcm hcs hnc hx hx1 hdl hD hD1 O1 hown hgr hrow1 hcs1 htk1 hi0 hz0 hz1 hz2 hin1 hl;go_enter Tryz.func104,Tryz.ntmps104
 go_wp2_with fail
 go_region_law (refine z16 rfl (.tmp 22) (.tmp 25) 31 31 rfl _ _ (by simp[Act.eval,Act.put]) (by simp[Act.eval,Act.put]) hrun ?_)
 all_goals
  go_wp2
  all_goals
   go_ret
   first|exact⟨rfl,FIN.out⟩|(subst_vars;exact⟨rfl,FIN.out⟩)
end Go.Proofs.YtjobhigmdaiinaaGreat
