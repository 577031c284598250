import Derived.Test.YtjobhigmdaiinaaGreatPack5
import Derived.Test.YtjobhigmdaiinaaGreatPack17
import Derived.Test.YtjobhigmdaiinaaGreatPack29
import Derived.Test.YtjobhigmdaiinaaGreatPack33
namespace Go.Proofs.YtjobhigmdaiinaaGreat
open Go.RowKit
theorem yk9:(Tryz.prog.info? 86).map (fun i=>(i.zero,i.size,i.bytes))=some (some (.agg #[Value.int .i64 0,Value.int .i64 0,Value.int .i64 0]),3,24):=by kernel_rfl
structure SW(w W:World)(cs ps:Array Value)(sl:Value)(l:List zh4):Prop where
 b:Below w.heap.size w W
 c:W.heap[w.heap.size]? =some (.cells cs 30 (0,0))
 p:W.heap[w.heap.size+1]? =some (.cells ps 33 (0,0))
 o:W.ownsRow (w.heap.size+2) 86 3 sl l.length ((spF l).map (Value.int .i64))
theorem SW.below{w W W':World}{cs ps:Array Value}{sl:Value}{l:List zh4}(h:SW w W cs ps sl l)(hb:Below W.heap.size W W'):SW w W' cs ps sl l:=
 ⟨h.b.trans (hb.mono h.b.size),za1 hb (za3 h.c) h.c,za1 hb (za3 h.p) h.p,zc2 h.o hb⟩
theorem SW.add{w W W':World}{cs ps:Array Value}{sl sl':Value}{l:List zh4}{s:zh4}(h:SW w W cs ps sl l)(hg:W.grownBy W' sl.ownBlock)(ho:W'.ownsRow (w.heap.size+2) 86 3 sl' (l.length+1) ((spF l).map (Value.int .i64)++[.int .i64 s.1,.int .i64 s.2.1,.int .i64 (s.2.2:Int)])):SW w W' cs ps sl' (l++[s]):=by
 refine⟨h.b.grown hg h.b.size (fun k e=>by have:=(h.o.lt k e).1;omega),za5 hg h.c (fun e=>zi4 h.o h.c (by decide) e),za5 hg h.p (fun e=>zi4 h.o h.p (by decide) e),?_⟩;rw[List.length_append,zZ9,List.map_append];exact ho
theorem zL9(W:World)(o0 o1 o2:Value)(T:TypeId)(g:Nat)(hg:W.heap.size=g):∀j u,[o0,o1,o2][j]? =some u->(W.alloc (.cells #[o0,o1,o2] T)).cell? ⟨g,0+j,none⟩=some u:=by
 intro j u hu;subst hg;rw[cell_of_row _ _ _ _ _ _ (heap_alloc_new W (.cells #[o0,o1,o2] T)),Nat.zero_add];simpa using hu
theorem zT4{w W:World}{g:Nat}{q:Option Nat}{ys:List Int}(hI:za0 w (some ⟨g,0,none⟩) ys)(hg:w.grownBy W q)(hq:q≠some g):za0 W (some ⟨g,0,none⟩) ys:=fun j hj=>by
 obtain⟨b,o,e1,h1⟩:=hI j hj;simp only[Option.some.injEq,Addr.mk.injEq,and_true]at e1;obtain⟨rfl,rfl⟩:=e1;refine⟨_,_,rfl,?_⟩;have h2:=hg.block g (block_lt_of_cell h1) (fun e=>hq e.symm);rw[<-h1];simp only[World.cell?];rw[h2]
set_option maxRecDepth 10000 in
set_option maxHeartbeats 4000000 in
theorem zG6(n fine:Int)(a ao av ra la bi:Option Addr)(zl cap ko co kv cv rc ln lc c2:Nat)(vs ids:List Int)(R:List RT)(w:World)(hV:za0 w av vs)(hlv:vs.length=kv*5)(hkv:kv<=5)(hR:za6 w ra R)(hn:R.length<=100)(hS:ze1 R)(hr:∀r∈R,r.ids.length<=12)(hI:za0 w bi ids)(hl:ids.length<=12):
 Calls Tryz.prog 60 #[.agg #[.int .i64 n,.slice a zl cap,.slice ao ko co,.slice av kv cv,.int .i64 fine],.agg #[.slice ra R.length rc,.slice la ln lc],.slice bi ids.length c2] w fun e w'=>∃sl,e=.returned sl/\Below w.heap.size w w'/\w'.ownsRow w.heap.size 86 3 sl (sp3 R vs kv ids ids.length).length ((spF (sp3 R vs kv ids ids.length)).map (Value.int .i64)):=by
 have HV:Hid (za0 w av vs):=hV;have HLV:Hid (vs.length=kv*5):=hlv;have HR:Hid (za6 w ra R):=hR;have HS:Hid (ze1 R):=hS;have HRL:Hid (∀r∈R,r.ids.length<=12):=hr;have HI:Hid (za0 w bi ids):=hI;clear hV hlv hR hS hr hI;obtain⟨nr,HN⟩:=nmd R.length;obtain⟨m,HM⟩:=nmd ids.length;rw[HN.out]at hn⊢;rw[HM.out]at hl⊢;have Q0:Hid (SW w ((w.alloc (.cells #[.int .i64 n,.slice a zl cap,.slice ao ko co,.slice av kv cv,.int .i64 fine] 30)).alloc (.cells #[.slice ra nr rc,.slice la ln lc] 33)) #[.int .i64 n,.slice a zl cap,.slice ao ko co,.slice av kv cv,.int .i64 fine] #[.slice ra nr rc,.slice la ln lc] (.slice none 0 0) ([])):=⟨((Below.refl _ _).alloc (Nat.le_refl _) _).alloc (by simp) _,heap_alloc2_old _ _ _,heap_alloc2_new _ _ _,World.ownsRow_nil _ _ _ _⟩;go_enter Tryz.func60,Tryz.ntmps60
 go_wp2_with fail
 generalize(w.alloc (.cells #[.int .i64 n,.slice a zl cap,.slice ao ko co,.slice av kv cv,.int .i64 fine] 30)).alloc (.cells #[.slice ra nr rc,.slice la ln lc] 33)=W0 at*;go_loopw[7,16] (fun tl t wr=>∃i:Nat,i<=m/\t=.int .i64 i/\SW w wr #[.int .i64 n,.slice a zl cap,.slice ao ko co,.slice av kv cv,.int .i64 fine] #[.slice ra nr rc,.slice la ln lc] tl (sp3 R vs kv ids i)) (fun _ t _=>m - (intOf t).toNat)
 case atStart=>exact⟨0,Nat.zero_le _,rfl,Q0.out⟩
 case round=>
  clear Q0;obtain⟨i,hi,rfl,hq⟩:=hrel;have Q1:Hid (SW w wr #[.int .i64 n,.slice a zl cap,.slice ao ko co,.slice av kv cv,.int .i64 fine] #[.slice ra nr rc,.slice la ln lc] u7 (sp3 R vs kv ids i)):=hq;clear hq;by_cases hlt:i<m
  ·have hiI:(i:Int)<(m:Int):=by omega
   obtain⟨b1,o1,e,c1⟩:=(HI.below Q1.b) i (by rw[HM.out];exact hlt);subst e;have HNX:Hid (sp3 R vs kv ids (i+1)=sp3 R vs kv ids i++sp2 R vs (ids.getD i 0) kv):=rfl;have hs3:=zM2 HRL.out vs hkv ids i;generalize ids.getD i 0=id at*;generalize sp3 R vs kv ids i=l1 at*;obtain⟨d0,d1,d2,d3,d4⟩:=za8 Q1.c
   go_wp2_with fail
   clear c1 d0 d1 d2 d3 d4;go_loopw[7,23] (fun tl t wr=>∃k:Nat,k<=kv/\t=.int .i64 k/\SW w wr #[.int .i64 n,.slice a zl cap,.slice ao ko co,.slice av kv cv,.int .i64 fine] #[.slice ra nr rc,.slice la ln lc] tl (l1++sp2 R vs id k)) (fun _ t _=>kv - (intOf t).toNat)
   case atStart=>exact⟨0,Nat.zero_le _,rfl,by show SW _ _ _ _ _ (l1++[]);rw[List.append_nil];exact Q1.out⟩
   case round=>
    clear Q1;obtain⟨k,hk,rfl,hq⟩:=hrel;have Q2:Hid (SW w wr #[.int .i64 n,.slice a zl cap,.slice ao ko co,.slice av kv cv,.int .i64 fine] #[.slice ra nr rc,.slice la ln lc] u7 (l1++sp2 R vs id k)):=hq;clear hq;by_cases hlk:k<kv
    ·have hkI:(k:Int)<(kv:Int):=by omega
     obtain⟨bv,ov,e,v0⟩:=(HV.below Q2.b) (k*5) (by rw[HLV.out];omega);obtain⟨bv',ov',e',v1⟩:=(HV.below Q2.b) (k*5+1) (by rw[HLV.out];omega);rw[e]at e';simp only[Option.some.injEq,Addr.mk.injEq,and_true]at e';obtain⟨rfl,rfl⟩:=e';obtain⟨bv',ov',e',v2⟩:=(HV.below Q2.b) (k*5+2) (by rw[HLV.out];omega);rw[e]at e';simp only[Option.some.injEq,Addr.mk.injEq,and_true]at e';obtain⟨rfl,rfl⟩:=e';obtain⟨bv',ov',e',v3⟩:=(HV.below Q2.b) (k*5+3) (by rw[HLV.out];omega);rw[e]at e';simp only[Option.some.injEq,Addr.mk.injEq,and_true]at e';obtain⟨rfl,rfl⟩:=e';obtain⟨bv',ov',e',v4⟩:=(HV.below Q2.b) (k*5+4) (by rw[HLV.out];omega);rw[e]at e';simp only[Option.some.injEq,Addr.mk.injEq,and_true]at e';obtain⟨rfl,rfl⟩:=e';subst e;have HN2:Hid (sp2 R vs id (k+1)=sp2 R vs id k++sp1 id (vs.getD (k*5) 0) ((zd9 R (vs.getD (k*5) 0)).ids.length+1)):=rfl;have hs2:=zN6 HRL.out vs id k;have hrl:=z31 HRL.out (vs.getD (k*5) 0);simp only[<-Nat.add_assoc]at v1 v2 v3 v4;generalize vs.getD (k*5) 0=x0 at*;generalize vs.getD (k*5+1) 0=x1 at*;generalize vs.getD (k*5+2) 0=x2 at*;generalize vs.getD (k*5+3) 0=x3 at*;generalize vs.getD (k*5+4) 0=x4 at*;generalize sp2 R vs id k=l2 at*;obtain⟨q0,q1⟩:=za2 Q2.p;have QB:Hid (SW w (wr.alloc (.cells #[.int .i64 x0,.int .i64 x1,.int .i64 x2,.int .i64 x3,.int .i64 x4] 41)) #[.int .i64 n,.slice a zl cap,.slice ao ko co,.slice (some ⟨bv,ov,none⟩) kv cv,.int .i64 fine] #[.slice ra nr rc,.slice la ln lc] u7 (l1++l2)):=Q2.below ((Below.refl _ _).alloc (Nat.le_refl _) _);have VB:Hid ((wr.alloc (.cells #[.int .i64 x0,.int .i64 x1,.int .i64 x2,.int .i64 x3,.int .i64 x4] 41)).heap[wr.heap.size]? =some (.cells #[.int .i64 x0,.int .i64 x1,.int .i64 x2,.int .i64 x3,.int .i64 x4] 41 (0,0))):=heap_alloc_new _ _;have RO:=zv6 ra la rc ln lc R x0 (wr.alloc (.cells #[.int .i64 x0,.int .i64 x1,.int .i64 x2,.int .i64 x3,.int .i64 x4] 41)) (HR.below QB.b) (by rw[HN.out];omega) HS.out;rw[HN.out]at RO;obtain⟨rt,HRT⟩:=nmd (zd9 R x0);rw[HRT.out]at RO HN2 hrl;obtain⟨rv,rra,rids,rcc⟩:=rt;simp only at RO HN2 hrl;obtain⟨rl,HRLn⟩:=nmd rids.length;rw[HRLn.out]at RO HN2 hrl;obtain⟨z0,z1,z2,z3,z4⟩:=za8 VB.out;obtain⟨y0,y1⟩:=za2 QB.p
     go_wp2_with fail
     refine RO.mono ?_;rintro e w2 ⟨rfl,hb⟩;have Q3:Hid (SW w w2 #[.int .i64 n,.slice a zl cap,.slice ao ko co,.slice (some ⟨bv,ov,none⟩) kv cv,.int .i64 fine] #[.slice ra nr rc,.slice la ln lc] u7 (l1++l2)):=QB.below hb;have V3:Hid (w2.heap[wr.heap.size]? =some (.cells #[.int .i64 x0,.int .i64 x1,.int .i64 x2,.int .i64 x3,.int .i64 x4] 41 (0,0))):=za1 hb (za3 VB.out) VB.out;clear hb RO;have PF:=zw4 x0 rra rcc rl w2 hrl
     go_wp2_with fail
     refine PF.mono ?_;rintro e w3 ⟨pg,pc,rfl,hb,hi3,hpg⟩;have Q4:Hid (SW w w3 #[.int .i64 n,.slice a zl cap,.slice ao ko co,.slice (some ⟨bv,ov,none⟩) kv cv,.int .i64 fine] #[.slice ra nr rc,.slice la ln lc] u7 (l1++l2)):=Q3.below hb;have V4:Hid (w3.heap[wr.heap.size]? =some (.cells #[.int .i64 x0,.int .i64 x1,.int .i64 x2,.int .i64 x3,.int .i64 x4] 41 (0,0))):=za1 hb (za3 V3.out) V3.out;have I4:Hid (za0 w3 (some ⟨pg,0,none⟩) (z81 (rl+1))):=hi3;obtain⟨vb,HVB⟩:=nmd wr.heap.size;rw[HVB.out]at V4⊢;have D4:Hid (u7.ownBlock≠some pg):=fun e=>by have:=(Q3.o.lt _ e).2;omega
     clear hb hi3 hpg PF Q2 QB Q3 V3 VB z0 z1 z2 z3 z4 y0 y1 q0 q1 v0 v1 v2 v3 v4
     go_wp2_with fail
     go_loopw[7,33] (fun tl tt wr=>∃t:Nat,t<=rl+1/\tt=.int .i64 t/\SW w wr #[.int .i64 n,.slice a zl cap,.slice ao ko co,.slice (some ⟨bv,ov,none⟩) kv cv,.int .i64 fine] #[.slice ra nr rc,.slice la ln lc] tl ((l1++l2)++sp1 id x0 t)/\wr.heap[vb]? =some (.cells #[.int .i64 x0,.int .i64 x1,.int .i64 x2,.int .i64 x3,.int .i64 x4] 41 (0,0))/\za0 wr (some ⟨pg,0,none⟩) (z81 (rl+1))/\tl.ownBlock≠some pg) (fun _ t _=>rl+1 - (intOf t).toNat)
     case atStart=>exact⟨0,Nat.zero_le _,rfl,by show SW _ _ _ _ _ ((l1++l2)++[]);rw[List.append_nil];exact Q4.out,V4.out,I4.out,D4.out⟩
     case round=>
      clear Q4 V4 I4 D4;obtain⟨t,ht,rfl,hq,hv,hi5,hd5⟩:=hrel;have Q5:Hid (SW w wr #[.int .i64 n,.slice a zl cap,.slice ao ko co,.slice (some ⟨bv,ov,none⟩) kv cv,.int .i64 fine] #[.slice ra nr rc,.slice la ln lc] u7 ((l1++l2)++sp1 id x0 t)):=hq;have V5:Hid (wr.heap[vb]? =some (.cells #[.int .i64 x0,.int .i64 x1,.int .i64 x2,.int .i64 x3,.int .i64 x4] 41 (0,0))):=hv;have I5:Hid (za0 wr (some ⟨pg,0,none⟩) (z81 (rl+1))):=hi5;have D5:Hid (u7.ownBlock≠some pg):=hd5;clear hq hv hi5 hd5;by_cases htl:t<rl+1
      ·have htI:(t:Int)<(rl:Int)+1:=by omega
       obtain⟨b5,o5,e,c5⟩:=I5.out t (by rw[z61];exact htl);simp only[Option.some.injEq,Addr.mk.injEq,and_true]at e;obtain⟨rfl,rfl⟩:=e;rw[yb5 htl,Nat.zero_add]at c5;obtain⟨z0,z1,z2,z3,z4⟩:=za8 V5.out;have hl9:((l1++l2)++sp1 id x0 t).length<=1000:=by rw[List.length_append,List.length_append,yf9];omega
       have HS1:Hid (sp1 id x0 (t+1)=sp1 id x0 t++[(id,x0,t)]):=zS3 id x0 t;generalize sp1 id x0 t=l3 at*;have QA:Hid (SW w (wr.alloc (.cells #[.int .i64 id,.int .i64 x0,.int .i64 (t:Int)] 86)) #[.int .i64 n,.slice a zl cap,.slice ao ko co,.slice (some ⟨bv,ov,none⟩) kv cv,.int .i64 fine] #[.slice ra nr rc,.slice la ln lc] u7 ((l1++l2)++l3)):=Q5.below ((Below.refl _ _).alloc (Nat.le_refl _) _);have HLE:Hid (w.heap.size+2<=wr.heap.size):=za3 Q5.p
       go_wp2_with(first
        |(at_builtin
          go_must(refine zi1 Tryz.underlying99 yk9 rfl (by omega) _ rfl _ _ rfl (w.heap.size+2) u7 ((l1++l2)++l3).length _ rfl QA.o wr.heap.size 0 1 1 [.int .i64 id,.int .i64 x0,.int .i64 (t:Int)] rfl rfl (zL9 _ _ _ _ _ _ rfl) (by simp[Value.oneCell']) (by omega) (by omega) (Nat.le_trans HLE.out (by simp)) ?_)
          intro v' w4 hown hg hbk hnl;have Q6:Hid (SW w w4 #[.int .i64 n,.slice a zl cap,.slice ao ko co,.slice (some ⟨bv,ov,none⟩) kv cv,.int .i64 fine] #[.slice ra nr rc,.slice la ln lc] v' (((l1++l2)++l3)++[(id,x0,t)])):=QA.add (s:=(id,x0,t)) hg hown;have V6:Hid (w4.heap[vb]? =some (.cells #[.int .i64 x0,.int .i64 x1,.int .i64 x2,.int .i64 x3,.int .i64 x4] 41 (0,0))):=za5 hg ((heap_alloc_old _ _ (za3 V5.out)).trans V5.out) (fun e=>zi4 QA.o ((heap_alloc_old _ _ (za3 V5.out)).trans V5.out) (by decide) e);have I6:Hid (za0 w4 (some ⟨pg,0,none⟩) (z81 (rl+1))):=zT4 (I5.below ((Below.refl _ _).alloc (Nat.le_refl _) _)) hg D5.out;have D6:Hid (v'.ownBlock≠some pg):=fun e=>by
           rcases hbk with h|h
           ·exact D5.out (h.symm.trans e)
           ·rw[h]at e
            have h2:=block_lt_of_cell c5;simp at e h2;omega
          clear hown hg hbk hnl))
       go_roundw
       case rel=>exact⟨t+1,by omega,by first|rfl|go_num,by have:=Q6.out;rw[List.append_assoc,<-HS1.out]at this;exact this,V6.out,I6.out,D6.out⟩
       case measure=>simp[intOf];omega
      ·have htI:¬((t:Int)<(rl:Int)+1):=by omega
       have hte:t=rl+1:=by omega
       go_wp2;go_roundw
       case rel=>exact⟨k+1,by omega,by first|rfl|go_num,by have Q7:=Q5.out;rw[hte,List.append_assoc]at Q7;rw[HN2.out];exact Q7⟩
       case measure=>simp[intOf];omega
    ·have hkI:¬((k:Int)<(kv:Int)):=by omega
     have hke:k=kv:=by omega
     go_wp2;go_roundw
     case rel=>exact⟨i+1,by omega,by first|rfl|go_num,by have Q3:=Q2.out;rw[hke]at Q3;rw[HNX.out];exact Q3⟩
     case measure=>simp[intOf];omega
  ·have hiI:¬((i:Int)<(m:Int)):=by omega
   have hie:i=m:=by omega
   subst hie;go_wp2;go_ret;exact⟨_,rfl,Q1.b,zb7 Q1.o (by omega)⟩
end Go.Proofs.YtjobhigmdaiinaaGreat
