import Derived.Test.YtjobhigmdaiinaaGreatPack2
import Derived.Test.YtjobhigmdaiinaaGreatPack3
import Derived.Test.YtjobhigmdaiinaaGreatPack7
import Derived.Test.YtjobhigmdaiinaaGreatPack17
import Derived.Test.YtjobhigmdaiinaaGreatPack25
namespace Go.Proofs.YtjobhigmdaiinaaGreat
open Go.RowKit
def zt7(S:List RT)(la:Option Addr):Prop:=(la::S.map RT.a).Nodup
theorem zt7.nil(la:Option Addr):zt7 [] la:=by simp[zt7]
theorem zt7.add{S:List RT}{la:Option Addr}{r:RT}(h:zt7 S la)(hn:r.a∉la::S.map RT.a):zt7 (S++[r]) la:=by
 unfold zt7 at h⊢;rw[List.map_append,<-List.cons_append];refine List.nodup_append.2 ⟨h,by simp,fun a ha b hb e=> ?_⟩;have:b=r.a:=by simpa using hb
 exact hn (by rw[<-this,<-e];exact ha)
theorem PO.blk{w:World}{base m lc:Nat}{rs:Value}{la:Option Addr}{S:List RT}{L:List Int}(h:PO w base rs S (.slice la m lc) L)(hm:L.length=m):∀a∈la::S.map RT.a,∀g,a=some ⟨g,0,none⟩->g<w.heap.size:=fun a ha g e=>by
 rcases List.mem_cons.1 ha with h1|h1
 ·have h2:=h.l
  rw[hm]at h2;exact(h2.lt g (by rw[<-h1,e];rfl)).2
 ·obtain⟨s,hs,e2⟩:=List.mem_map.1 h1
  exact((h.s s hs).lt g (by rw[e2,e];rfl)).2
def yt0(w:World)(R:List RT)(L:List Int)(e:Ending)(w':World):Prop:=∃ra rc la lc S,e=.returned (.agg #[.slice ra R.length rc,.slice la L.length lc])/\Below w.heap.size w w'/\S.map RT.key=R.map RT.key/\PO w' (w.heap.size+2) (.slice ra R.length rc) S (.slice la L.length lc) L/\zt7 S la
set_option maxHeartbeats 4000000 in
theorem zu9(ra la:Option Addr)(rc lc:Nat)(R:List RT)(L:List Int)(w:World)(hR:za6 w ra R)(hL:za0 w la L)(hla:(la=none/\L.length=0)∨∃b off,la=some ⟨b,off,none⟩)(hn:R.length<=500)(hi:∀r∈R,r.ids≠[]/\r.ids.length<=12)(hl:L.length<=500):
 Calls Tryz.prog 21 #[.agg #[.slice ra R.length rc,.slice la L.length lc]] w (yt0 w R L):=by
 have HR:Hid (za6 w ra R):=hR;have HL:Hid (za0 w la L):=hL;have HLA:Hid _:=hla;have HI:Hid _:=hi;clear hR hL hi hla;obtain⟨n,HN⟩:=nmd R.length;obtain⟨m,HM⟩:=nmd L.length;rw[HN.out]at hn⊢;rw[HM.out]at hl⊢;have B1:Hid (Below w.heap.size w ((w.alloc (.cells #[.slice ra n rc,.slice la m lc] 33)).alloc (.cells #[.slice none 0 0,.slice none 0 0] 33))):=((Below.refl _ _).alloc (Nat.le_refl _) _).alloc (by simp) _;have P1:Hid (((w.alloc (.cells #[.slice ra n rc,.slice la m lc] 33)).alloc (.cells #[.slice none 0 0,.slice none 0 0] 33)).heap[w.heap.size]? =some (.cells #[.slice ra n rc,.slice la m lc] 33 (0,0))):=heap_alloc2_old _ _ _;have A1:Hid (((w.alloc (.cells #[.slice ra n rc,.slice la m lc] 33)).alloc (.cells #[.slice none 0 0,.slice none 0 0] 33)).heap[w.heap.size+1]? =some (.cells #[.slice none 0 0,.slice none 0 0] 33 (0,0))):=heap_alloc2_new _ _ _;have CL:=z68 la lc m L ((w.alloc (.cells #[.slice ra n rc,.slice la m lc] 33)).alloc (.cells #[.slice none 0 0,.slice none 0 0] 33)) (HL.out.below B1.out) HM.out (by omega) (by rw[<-HM.out];exact HLA.out);go_enter Tryz.func21,Tryz.ntmps21;obtain⟨p0,p1⟩:=za2 P1.out
 go_wp2_with fail
 generalize(w.alloc (.cells #[.slice ra n rc,.slice la m lc] 33)).alloc (.cells #[.slice none 0 0,.slice none 0 0] 33)=W0 at*;refine CL.mono ?_;rintro e w2 ⟨sl,rfl,hb,ho⟩;obtain⟨la2,lc2,e⟩:=zn4 ho;subst e;have Q2:Hid (CQ w (w2.alloc (.cells #[.slice none 0 0,.slice la2 m lc2] 33)) w2.heap.size (.slice ra n rc) (.slice la m lc) (.slice none 0 0) (.slice la2 m lc2) [] L):=by
  have hb2:=B1.out.trans (hb.mono B1.out.size);have ha:Below w2.heap.size w2 (w2.alloc (.cells #[.slice none 0 0,.slice la2 m lc2] 33)):=(Below.refl _ _).alloc (Nat.le_refl _) _;have hp2:=za1 hb (za3 P1.out) P1.out;have ha2:=za1 hb (za3 A1.out) A1.out;refine⟨hb2.trans (ha.mono hb2.size),za1 ha (za3 hp2) hp2,za1 ha (za3 ha2) ha2,heap_alloc_new _ _,za3 ha2,⟨World.ownsRow_nil _ _ _ _,(fun s hs=>by cases hs),?_⟩⟩;rw[HM.out];exact zb7 (ho.alloc _) (za3 A1.out)
 have P2:Hid _:=za1 hb (za3 P1.out) P1.out;clear hb ho CL p0 p1 B1 P1 A1;obtain⟨p0,p1⟩:=za2 P2.out;obtain⟨p2,p3⟩:=za2 Q2.out.p
 go_wp2_with fail
 clear p0 p1 P2 p2 p3;obtain⟨kb,HKB⟩:=nmd w2.heap.size;rw[HKB.out]at Q2⊢;generalize w2.alloc (.cells #[.slice none 0 0,.slice la2 m lc2] 33)=W2 at*;go_loopw[13] (fun t wr=>∃(k:Nat) (rs:Value) (S:List RT),k<=n/\t=.int .i64 k/\S.map RT.key=(R.take k).map RT.key/\CQ w wr kb (.slice ra n rc) (.slice la m lc) rs (.slice la2 m lc2) S L/\zt7 S la2) (fun t _=>n - (intOf t).toNat)
 case atStart=>exact⟨0,.slice none 0 0,[],Nat.zero_le _,rfl,rfl,Q2.out,zt7.nil _⟩
 case round=>
  clear Q2;obtain⟨k,rs,S,hk,rfl,hkey,hQ,hap⟩:=hrel;have Q3:Hid _:=hQ;have HKY:Hid _:=hkey;have hSk:S.length=k:=by
   have:=congrArg List.length hkey;simp only[List.length_map,List.length_take,HN.out]at this;omega
  have HSK:Hid (S.length=k):=hSk;have HAP:Hid (zt7 S la2):=hap;clear hQ hkey hSk hap;obtain⟨p0,p1⟩:=za2 Q3.out.p;by_cases hlt:k<n
  ·have hkI:(k:Int)<(n:Int):=by omega
   have hkR:k<R.length:=by rw[HN.out];exact hlt
   obtain⟨b,off,e,r1,r2,i3⟩:=(HR.out.below Q3.out.b) k hkR;have hmem:R.getD k rt0∈R:=by rw[List.getD_eq_getElem?_getD,List.getElem?_eq_getElem hkR];simp
   obtain⟨hne,h500⟩:=HI.out _ hmem;have HRC:Hid (∀W,Below w.heap.size w W->W.cell? ⟨b,off+k*2,none⟩=some (.int .i64 (R.getD k rt0).v)/\W.cell? ⟨b,off+k*2+1,none⟩=some (.slice (R.getD k rt0).a (R.getD k rt0).ids.length (R.getD k rt0).c)):=fun W hW=>by
    obtain⟨b2,off2,e2,q1,q2,_⟩:=(HR.out.below hW) k hkR;rw[e]at e2;simp only[Option.some.injEq,Addr.mk.injEq,and_true]at e2;obtain⟨rfl,rfl⟩:=e2;exact⟨q1,q2⟩
   have HTK:Hid (R.take (k+1)=R.take k++[R.getD k rt0]):=by
    show _=_;rw[List.take_succ_eq_append_getElem hkR];simp[List.getD,hkR]
   subst e;generalize R.getD k rt0=r at*;obtain⟨rv,rra,rids,rcc⟩:=r;simp only at r1 r2 i3 hne h500;have hpos:=List.length_pos_iff.2 hne;obtain⟨b',off',e',-⟩:=i3 0 hpos;subst e';have I3:Hid (za0 wr (some ⟨b',off',none⟩) rids):=i3;obtain⟨q,HQ⟩:=nmd rids.length;simp only[HQ.out]at r2 h500 hpos HRC;clear i3 hne hmem;have hkb:=za3 Q3.out.o;have HSB:Hid _:=Q3.out.q.blk HM.out;have HNB:Hid (rs.ownBlock≠some wr.heap.size):=zF1 Q3.out.q.r (.inr (Nat.le_refl _));have Q1:Hid (CQ w (wr.alloc (.cells #[.int .i64 rv,.slice (some ⟨b',off',none⟩) q rcc] 43)).drew kb (.slice (some ⟨b,off,none⟩) n rc) (.slice la m lc) rs (.slice la2 m lc2) S L):=Q3.out.below ((Below.refl _ _).alloc (Nat.le_refl _) _).drew;have I1:Hid (za0 (wr.alloc (.cells #[.int .i64 rv,.slice (some ⟨b',off',none⟩) q rcc] 43)).drew (some ⟨b',off',none⟩) rids):=I3.out.below ((Below.refl _ _).alloc (Nat.le_refl _) _).drew;have RB1:Hid ((wr.alloc (.cells #[.int .i64 rv,.slice (some ⟨b',off',none⟩) q rcc] 43)).drew.heap[wr.heap.size]? =some (.cells #[.int .i64 rv,.slice (some ⟨b',off',none⟩) q rcc] 43 (0,0))):=heap_alloc_new wr _
   go_wp2_with fail
   clear p0 p1 r1 r2 Q3 I3;obtain⟨rb,HRB⟩:=nmd wr.heap.size;rw[HRB.out]at RB1 HNB HSB hkb⊢;have kS:=za2 RB1.out;have CR:=z77 rv b' off' rcc rids _ I1.out (by rw[HQ.out];exact h500);rw[HQ.out]at CR;obtain⟨o0,o1⟩:=za2 Q1.out.o;generalize hW1:(wr.alloc (.cells #[.int .i64 rv,.slice (some ⟨b',off',none⟩) q rcc] 43))=W1 at*;clear hW1
   -- REGION
   refine wp_region_held_drew (S:=(fun W=>W.cell? ⟨rb,0,none⟩=some (.int .i64 rv)/\W.cell? ⟨rb,1,none⟩=some (.slice (some ⟨b',off',none⟩) q rcc))) (by kernel_rfl) ?_ (fun hHeld=> ?_)
   ·exact kS
   refine tkH 0 hHeld ?_;refine tkH 2 hHeld ?_;refine wpAnyH_ready (rs:=[1,3]) (by kernel_rfl) (by simp) ?_;refine AllReadyH.cons rfl (fun K hK=> ?_) ?_
   ·skip
    go_simp;refine hK.out _ _ ?_ (fun hHeld=> ?_)
    ·exact hHeld
    clear hK K;refine wpAnyH_ready (rs:=[3]) (by kernel_rfl) (by simp) ?_;refine AllReadyH.cons rfl (fun K hK=> ?_) AllReadyH.nil;go_simp;refine CR.mono ?_;rintro e w3 ⟨g3,c3,rfl,hb,ho⟩;have Q4:Hid _:=Q1.out.below hb;have O4:Hid (w3.ownsRow (w.heap.size+2) 2 1 (.slice (some ⟨g3,0,none⟩) q c3) q (rids.map (Value.int .i64))):=zb7 ho (by have:=za3 Q1.out.a;omega);have HG3:Hid (rb<g3):=by have h1:=(ho.lt g3 rfl).1;have h2:=za3 RB1.out;show rb<g3;omega
    have RB3:Hid _:=za1 hb (za3 RB1.out) RB1.out;have kS3:=za2 RB3.out;have QB:Hid (CQ w (w3.alloc (.cells #[.int .i64 rv,.slice (some ⟨g3,0,none⟩) q c3] 43)) kb (.slice (some ⟨b,off,none⟩) n rc) (.slice la m lc) rs (.slice la2 m lc2) S L):=Q4.out.below ((Below.refl _ _).alloc (Nat.le_refl _) _);have OB:Hid (World.ownsRow (w3.alloc (.cells #[.int .i64 rv,.slice (some ⟨g3,0,none⟩) q c3] 43)) (w.heap.size+2) 2 1 (.slice (some ⟨g3,0,none⟩) q c3) q (rids.map (Value.int .i64))):=O4.out.alloc _;have RBb:Hid ((w3.alloc (.cells #[.int .i64 rv,.slice (some ⟨g3,0,none⟩) q c3] 43)).heap[rb]? =some (.cells #[.int .i64 rv,.slice (some ⟨b',off',none⟩) q rcc] 43 (0,0))):=(heap_alloc_old _ _ (za3 RB3.out)).trans RB3.out;have kSb:=za2 RBb.out;obtain⟨x0,x1⟩:=za2 Q4.out.o;obtain⟨xa0,xa1⟩:=za2 QB.out.o;clear hb ho
    (try go_wp2_with fail)
    refine hK.out _ _ ?_ (fun hHeld=> ?_)
    ·exact kS3
    clear hK K;refine wpAnyH_ready (rs:=[4]) (by kernel_rfl) (by simp) ?_;refine AllReadyH.cons rfl (fun K hK=> ?_) AllReadyH.nil
    (try simp only[Act.put,List.setIfInBounds_toArray])
    go_simp;refine hK.out _ _ ?_ (fun hHeld=> ?_)
    ·exact kSb
    clear hK K;refine wpAnyH_ready (rs:=[5]) (by kernel_rfl) (by simp) ?_;refine AllReadyH.cons rfl (fun K hK=> ?_) AllReadyH.nil;refine zc9 Tryz.underlying31 zk4 (by rfl) (by omega) rfl (.tmp 18) (.tmp 21) rfl (w.heap.size+2) rs k (zg9 S) rfl (by rw[<-HSK.out];exact QB.out.q.r) w3.heap.size 0 1 1 [.int .i64 rv,.slice (some ⟨g3,0,none⟩) q c3] rfl rfl (zd8 _ _ _ _ _ rfl) (by simp[Value.oneCell']) (by omega) (by omega) (by have:=za3 Q4.out.a;simp;omega) ?_;intro v' w4 ho hg hbk hn;rcases own_kinds ho with⟨_,e0⟩|⟨g4,c4,e4,-,-⟩
    ·omega
    subst e4;have Q5:Hid _:=QB.out.more HQ.out HSK.out OB.out hg ho;have X4:=QB.out.moreO hg;have R4:=za5 hg RBb.out (fun e=>HNB.out e.symm);have kS4:=za2 R4;obtain⟨x4,y4⟩:=za2 X4.2.1;have xf:=fun i=>frozen_of_row _ _ i _ _ X4.2.1;have kS5:(fun W=>W.cell? ⟨rb,0,none⟩=some (.int .i64 rv)/\W.cell? ⟨rb,1,none⟩=some (.slice (some ⟨b',off',none⟩) q rcc)) (w4.setCell ⟨kb,0,none⟩ (.slice (some ⟨g4,0,none⟩) (k+1) c4)):=⟨za4 kS4.1 (by show rb≠kb;omega),za4 kS4.2 (by show rb≠kb;omega)⟩;clear ho hg hbk hn X4 R4;refine hK.out _ _ ?_ (fun hHeld=> ?_)
    ·exact kS4
    clear hK K;change wpAnyH _ _ _ _ _ _ _ (Act.put _ (some 22) _) _;simp only[Act.put,List.setIfInBounds_toArray,List.set_cons_zero,List.set_cons_succ];refine tkH 6 hHeld ?_;refine wpAnyH_ready (rs:=[7]) (by kernel_rfl) (by simp) ?_;refine AllReadyH.cons rfl (fun K hK=> ?_) AllReadyH.nil;go_simp;refine hK.out _ _ ?_ (fun hHeld=> ?_)
    ·exact kS5
    clear hK K;refine wpAnyH_done (by kernel_rfl) ?_ _;clear hHeld kS5 xf x4 y4 kS4 x0 x1 xa0 xa1 kSb kS3 o0 o1 QB OB Q4 O4 Q1 RB1 RB3 RBb CR;generalize w4.setCell ⟨kb,0,none⟩ (.slice (some ⟨g4,0,none⟩) (k+1) c4)=W5 at*;go_wp2;go_roundw
    case rel=>
     refine⟨k+1,_,_,by omega,by first|rfl|go_num,?_,Q5.out,HAP.out.add (r:=⟨rv,some ⟨g3,0,none⟩,rids,c3⟩) (fun h=>by have:=HSB.out _ h g3 rfl;have:=HG3.out;omega)⟩;rw[HTK.out,List.map_append,List.map_append,HKY.out];rfl
    case measure=>simp[intOf];omega
   refine AllReadyH.cons rfl (fun K hK=> ?_) AllReadyH.nil;go_simp;refine CR.mono ?_;rintro e w3 ⟨g3,c3,rfl,hb,ho⟩;have Q4:Hid _:=Q1.out.below hb;have O4:Hid (w3.ownsRow (w.heap.size+2) 2 1 (.slice (some ⟨g3,0,none⟩) q c3) q (rids.map (Value.int .i64))):=zb7 ho (by have:=za3 Q1.out.a;omega);have HG3:Hid (rb<g3):=by have h1:=(ho.lt g3 rfl).1;have h2:=za3 RB1.out;show rb<g3;omega
   have RB3:Hid _:=za1 hb (za3 RB1.out) RB1.out;have kS3:=za2 RB3.out;have QB:Hid (CQ w (w3.alloc (.cells #[.int .i64 rv,.slice (some ⟨g3,0,none⟩) q c3] 43)) kb (.slice (some ⟨b,off,none⟩) n rc) (.slice la m lc) rs (.slice la2 m lc2) S L):=Q4.out.below ((Below.refl _ _).alloc (Nat.le_refl _) _);have OB:Hid (World.ownsRow (w3.alloc (.cells #[.int .i64 rv,.slice (some ⟨g3,0,none⟩) q c3] 43)) (w.heap.size+2) 2 1 (.slice (some ⟨g3,0,none⟩) q c3) q (rids.map (Value.int .i64))):=O4.out.alloc _;have RBb:Hid ((w3.alloc (.cells #[.int .i64 rv,.slice (some ⟨g3,0,none⟩) q c3] 43)).heap[rb]? =some (.cells #[.int .i64 rv,.slice (some ⟨b',off',none⟩) q rcc] 43 (0,0))):=(heap_alloc_old _ _ (za3 RB3.out)).trans RB3.out;have kSb:=za2 RBb.out;obtain⟨x0,x1⟩:=za2 Q4.out.o;obtain⟨xa0,xa1⟩:=za2 QB.out.o;clear hb ho
   (try go_wp2_with fail)
   refine hK.out _ _ ?_ (fun hHeld=> ?_)
   ·exact kS3
   clear hK K;refine wpAnyH_ready (rs:=[1,4]) (by kernel_rfl) (by simp) ?_;refine AllReadyH.cons rfl (fun K hK=> ?_) ?_
   ·skip
    go_simp;refine hK.out _ _ ?_ (fun hHeld=> ?_)
    ·exact kS3
    clear hK K;refine wpAnyH_ready (rs:=[4]) (by kernel_rfl) (by simp) ?_;refine AllReadyH.cons rfl (fun K hK=> ?_) AllReadyH.nil
    (try simp only[Act.put,List.setIfInBounds_toArray])
    go_simp;refine hK.out _ _ ?_ (fun hHeld=> ?_)
    ·exact kSb
    clear hK K;refine wpAnyH_ready (rs:=[5]) (by kernel_rfl) (by simp) ?_;refine AllReadyH.cons rfl (fun K hK=> ?_) AllReadyH.nil;refine zc9 Tryz.underlying31 zk4 (by rfl) (by omega) rfl (.tmp 18) (.tmp 21) rfl (w.heap.size+2) rs k (zg9 S) rfl (by rw[<-HSK.out];exact QB.out.q.r) w3.heap.size 0 1 1 [.int .i64 rv,.slice (some ⟨g3,0,none⟩) q c3] rfl rfl (zd8 _ _ _ _ _ rfl) (by simp[Value.oneCell']) (by omega) (by omega) (by have:=za3 Q4.out.a;simp;omega) ?_;intro v' w4 ho hg hbk hn;rcases own_kinds ho with⟨_,e0⟩|⟨g4,c4,e4,-,-⟩
    ·omega
    subst e4;have Q5:Hid _:=QB.out.more HQ.out HSK.out OB.out hg ho;have X4:=QB.out.moreO hg;have R4:=za5 hg RBb.out (fun e=>HNB.out e.symm);have kS4:=za2 R4;obtain⟨x4,y4⟩:=za2 X4.2.1;have xf:=fun i=>frozen_of_row _ _ i _ _ X4.2.1;have kS5:(fun W=>W.cell? ⟨rb,0,none⟩=some (.int .i64 rv)/\W.cell? ⟨rb,1,none⟩=some (.slice (some ⟨b',off',none⟩) q rcc)) (w4.setCell ⟨kb,0,none⟩ (.slice (some ⟨g4,0,none⟩) (k+1) c4)):=⟨za4 kS4.1 (by show rb≠kb;omega),za4 kS4.2 (by show rb≠kb;omega)⟩;clear ho hg hbk hn X4 R4;refine hK.out _ _ ?_ (fun hHeld=> ?_)
    ·exact kS4
    clear hK K;change wpAnyH _ _ _ _ _ _ _ (Act.put _ (some 22) _) _;simp only[Act.put,List.setIfInBounds_toArray,List.set_cons_zero,List.set_cons_succ];refine tkH 6 hHeld ?_;refine wpAnyH_ready (rs:=[7]) (by kernel_rfl) (by simp) ?_;refine AllReadyH.cons rfl (fun K hK=> ?_) AllReadyH.nil;go_simp;refine hK.out _ _ ?_ (fun hHeld=> ?_)
    ·exact kS5
    clear hK K;refine wpAnyH_done (by kernel_rfl) ?_ _;clear hHeld kS5 xf x4 y4 kS4 x0 x1 xa0 xa1 kSb kS3 o0 o1 QB OB Q4 O4 Q1 RB1 RB3 RBb CR;generalize w4.setCell ⟨kb,0,none⟩ (.slice (some ⟨g4,0,none⟩) (k+1) c4)=W5 at*;go_wp2;go_roundw
    case rel=>
     refine⟨k+1,_,_,by omega,by first|rfl|go_num,?_,Q5.out,HAP.out.add (r:=⟨rv,some ⟨g3,0,none⟩,rids,c3⟩) (fun h=>by have:=HSB.out _ h g3 rfl;have:=HG3.out;omega)⟩;rw[HTK.out,List.map_append,List.map_append,HKY.out];rfl
    case measure=>simp[intOf];omega
   refine AllReadyH.cons rfl (fun K hK=> ?_) AllReadyH.nil
   (try simp only[Act.put,List.setIfInBounds_toArray])
   go_simp;refine hK.out _ _ ?_ (fun hHeld=> ?_)
   ·exact kSb
   clear hK K;refine wpAnyH_ready (rs:=[1]) (by kernel_rfl) (by simp) ?_;refine AllReadyH.cons rfl (fun K hK=> ?_) AllReadyH.nil;go_simp;refine hK.out _ _ ?_ (fun hHeld=> ?_)
   ·exact kSb
   clear hK K;refine wpAnyH_ready (rs:=[5]) (by kernel_rfl) (by simp) ?_;refine AllReadyH.cons rfl (fun K hK=> ?_) AllReadyH.nil;refine zc9 Tryz.underlying31 zk4 (by rfl) (by omega) rfl (.tmp 18) (.tmp 21) rfl (w.heap.size+2) rs k (zg9 S) rfl (by rw[<-HSK.out];exact QB.out.q.r) w3.heap.size 0 1 1 [.int .i64 rv,.slice (some ⟨g3,0,none⟩) q c3] rfl rfl (zd8 _ _ _ _ _ rfl) (by simp[Value.oneCell']) (by omega) (by omega) (by have:=za3 Q4.out.a;simp;omega) ?_;intro v' w4 ho hg hbk hn;rcases own_kinds ho with⟨_,e0⟩|⟨g4,c4,e4,-,-⟩
   ·omega
   subst e4;have Q5:Hid _:=QB.out.more HQ.out HSK.out OB.out hg ho;have X4:=QB.out.moreO hg;have R4:=za5 hg RBb.out (fun e=>HNB.out e.symm);have kS4:=za2 R4;obtain⟨x4,y4⟩:=za2 X4.2.1;have xf:=fun i=>frozen_of_row _ _ i _ _ X4.2.1;have kS5:(fun W=>W.cell? ⟨rb,0,none⟩=some (.int .i64 rv)/\W.cell? ⟨rb,1,none⟩=some (.slice (some ⟨b',off',none⟩) q rcc)) (w4.setCell ⟨kb,0,none⟩ (.slice (some ⟨g4,0,none⟩) (k+1) c4)):=⟨za4 kS4.1 (by show rb≠kb;omega),za4 kS4.2 (by show rb≠kb;omega)⟩;clear ho hg hbk hn X4 R4;refine hK.out _ _ ?_ (fun hHeld=> ?_)
   ·exact kS4
   clear hK K;change wpAnyH _ _ _ _ _ _ _ (Act.put _ (some 22) _) _;simp only[Act.put,List.setIfInBounds_toArray,List.set_cons_zero,List.set_cons_succ];refine tkH 6 hHeld ?_;refine wpAnyH_ready (rs:=[7]) (by kernel_rfl) (by simp) ?_;refine AllReadyH.cons rfl (fun K hK=> ?_) AllReadyH.nil;go_simp;refine hK.out _ _ ?_ (fun hHeld=> ?_)
   ·exact kS5
   clear hK K;refine wpAnyH_done (by kernel_rfl) ?_ _;clear hHeld kS5 xf x4 y4 kS4 x0 x1 xa0 xa1 kSb kS3 o0 o1 QB OB Q4 O4 Q1 RB1 RB3 RBb CR;generalize w4.setCell ⟨kb,0,none⟩ (.slice (some ⟨g4,0,none⟩) (k+1) c4)=W5 at*;go_wp2;go_roundw
   case rel=>
    refine⟨k+1,_,_,by omega,by first|rfl|go_num,?_,Q5.out,HAP.out.add (r:=⟨rv,some ⟨g3,0,none⟩,rids,c3⟩) (fun h=>by have:=HSB.out _ h g3 rfl;have:=HG3.out;omega)⟩;rw[HTK.out,List.map_append,List.map_append,HKY.out];rfl
   case measure=>simp[intOf];omega
   -- NOIGER
  ·have hkI:¬((k:Int)<(n:Int)):=by omega
   have hke:k=n:=by omega
   obtain⟨a0,a1⟩:=za2 Q3.out.a;have af:=fun i=>frozen_of_row _ _ i _ _ Q3.out.a;obtain⟨o0,o1⟩:=za2 Q3.out.o;have HKE:Hid (S.map RT.key=R.map RT.key):=by
    show _=_;rw[HKY.out,hke,<-HN.out,List.take_length]
   have hSn:S.length=n:=by rw[HSK.out];exact hke
   obtain⟨ga,ca,e⟩:∃ga ca,rs=.slice ga n ca:=by
    rcases Q3.out.q.rv with⟨e,h0⟩|⟨g,c,e,_,_⟩
    ·exact⟨none,0,by rw[e,<-hSn,h0]⟩
    ·exact⟨_,c,by rw[e,hSn]⟩
   subst e;clear hke hSn HSK HKY;go_wp2;refine bodyPost_ret (v:=.agg #[.slice ga n ca,.slice la2 m lc2]) (by simp[results,Tryz.results21,go_sem,a0,a1]) rfl ⟨ga,ca,la2,lc2,S,by rw[HN.out,HM.out],?_,HKE.out,?_,HAP.out⟩
   ·repeat(first|with_reducible exact Q3.out.b|refine Below.setCell ?_ (by simp<;>omega) _)
   ·rw[HN.out,HM.out]
    repeat(first|with_reducible exact Q3.out.q|refine PO.set ?_ (by omega))
end Go.Proofs.YtjobhigmdaiinaaGreat
