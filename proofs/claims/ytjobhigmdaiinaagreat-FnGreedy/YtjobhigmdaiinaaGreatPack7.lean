import Derived.Test.YtjobhigmdaiinaaGreatPack2
import Derived.Test.YtjobhigmdaiinaaGreatPack3
import Derived.Test.YtjobhigmdaiinaaGreatPack4
import Derived.Test.YtjobhigmdaiinaaGreatPack5
import Derived.Test.YtjobhigmdaiinaaGreatPack6
import Derived.Deep.RegionHeld3
import Derived.Deep.CutRange
import Derived.BigQuiet
namespace Go.Proofs.YtjobhigmdaiinaaGreat
open Go.RowKit
theorem PO.box{w:World}{base k i:Nat}{rs ls u:Value}{S:List RT}{L:List Int}{cs:Array Value}(h:PO w base rs S ls L)(hk:w.heap[k]? =some (.cells cs 33 (0,0))):PO (w.setCell ⟨k,i,none⟩ u) base rs S ls L:=
 ⟨ownsRow_setCell_other h.r (zf3 h.r hk (by decide)) _,fun s hs=>ownsRow_setCell_other (h.s s hs) (zf3 (h.s s hs) hk (by decide)) _,ownsRow_setCell_other h.l (zf3 h.l hk (by decide)) _⟩
theorem PO.more{w w':World}{base:Nat}{rs rs' ls:Value}{S:List RT}{L:List Int}{r:RT}(h:PO w base rs S ls L)(hr:w.ownsRow base 2 1 (.slice r.a r.ids.length r.c) r.ids.length (r.ids.map (Value.int .i64)))(hg:w.grownBy w' rs.ownBlock)(ho:w'.ownsRow base 43 2 rs' (S.length+1) (zg9 S++zm5 r)):PO w' base rs' (S++[r]) ls L:=by
 have keep:∀(v:Value) n xs,w.ownsRow base 2 1 v n xs->w'.ownsRow base 2 1 v n xs:=fun v n xs hv=>by
  refine hv.kept hg ?_;rcases h.rv with⟨e,_⟩|⟨g,c,e,_,_⟩
  ·rw[e]at hg⊢
   cases hb:v.ownBlock with
   |none=>exact .inl rfl
   |some q=>exact .inr (by simp[Value.ownBlock])
  ·rw[e]
   refine .inr fun e2=> ?_;have hrow:∃cs,w.heap[g]? =some (.cells cs 43 (0,0)):=by
    have h2:=h.r;rw[e]at h2;obtain⟨_,⟨h3,_⟩|⟨g',cap,cur,h3,_,h4,_⟩⟩:=h2
    ·cases h3
    ·simp only[Value.slice.injEq,Option.some.injEq,Addr.mk.injEq]at h3
     exact⟨cur,by rw[h3.1.1];exact h4⟩
   obtain⟨cs,hcs⟩:=hrow;exact zf3 hv hcs (by decide) e2
 refine⟨?_,fun s hs=> ?_,keep _ _ _ h.l⟩
 ·rw[List.length_append,zl1,show zg9 [r]=zm5 r by simp[zg9]]
  exact ho
 ·rcases List.mem_append.1 hs with hs|hs
  ·exact keep _ _ _ (h.s s hs)
  ·have:s=r:=by simpa using hs
   subst this;exact keep _ _ _ hr
structure CQ(w W:World)(kb:Nat)(p0 p1 rs ls:Value)(S:List RT)(L:List Int):Prop where
 b:Below w.heap.size w W
 p:W.heap[w.heap.size]? =some (.cells #[p0,p1] 33 (0,0))
 a:W.heap[w.heap.size+1]? =some (.cells #[.slice none 0 0,.slice none 0 0] 33 (0,0))
 o:W.heap[kb]? =some (.cells #[rs,ls] 33 (0,0))
 k:w.heap.size+1<kb
 q:PO W (w.heap.size+2) rs S ls L
theorem CQ.below{w W W':World}{kb:Nat}{p0 p1 rs ls:Value}{S:List RT}{L:List Int}(h:CQ w W kb p0 p1 rs ls S L)(hb:Below W.heap.size W W'):CQ w W' kb p0 p1 rs ls S L:=
 ⟨h.b.trans (hb.mono h.b.size),za1 hb (za3 h.p) h.p,za1 hb (za3 h.a) h.a,za1 hb (za3 h.o) h.o,h.k,h.q.below hb⟩
theorem CQ.moreO{w W w4:World}{kb:Nat}{p0 p1 rs ls:Value}{S:List RT}{L:List Int}(h:CQ w W kb p0 p1 rs ls S L)(hg:W.grownBy w4 rs.ownBlock):w4.cell? ⟨w.heap.size,0,none⟩=some p0/\w4.heap[kb]? =some (.cells #[rs,ls] 33 (0,0))/\Below w.heap.size w w4:=by
 have hnp:∀j cs,W.heap[j]? =some (.cells cs 33 (0,0))->some j≠rs.ownBlock:=fun j cs hj e=>zf3 h.q.r hj (by decide) e.symm
 exact⟨(za2 (za5 hg h.p (hnp _ _ h.p))).1,za5 hg h.o (hnp _ _ h.o),h.b.grown hg h.b.size (fun j e=>by have:=(h.q.r.lt j e).1;omega)⟩
theorem CQ.more{w W w4:World}{kb k q g3 c3:Nat}{p0 p1 rs ls v':Value}{S:List RT}{L rids:List Int}{rv:Int}(h:CQ w W kb p0 p1 rs ls S L)(hq:rids.length=q)(hk:S.length=k)(hs:W.ownsRow (w.heap.size+2) 2 1 (.slice (some ⟨g3,0,none⟩) q c3) q (rids.map (Value.int .i64)))(hg:W.grownBy w4 rs.ownBlock)(ho:w4.ownsRow (w.heap.size+2) 43 2 v' (k+1) (zg9 S++[.int .i64 rv,.slice (some ⟨g3,0,none⟩) q c3])):CQ w (w4.setCell ⟨kb,0,none⟩ v') kb p0 p1 v' ls (S++[⟨rv,some ⟨g3,0,none⟩,rids,c3⟩]) L:=by
 subst hq hk;have hnp:∀j cs,W.heap[j]? =some (.cells cs 33 (0,0))->some j≠rs.ownBlock:=fun j cs hj e=>zf3 h.q.r hj (by decide) e.symm
 have hb4:Below w.heap.size w w4:=h.b.grown hg h.b.size (fun j e=>by have:=(h.q.r.lt j e).1;omega);have MO:=h.q.more (r:=⟨rv,some ⟨g3,0,none⟩,rids,c3⟩) hs hg ho;have hk5:=h.k;have ho4:=za5 hg h.o (hnp _ _ h.o);have s1:=heap_setCell_same w4 kb 0 _ _ v' ho4;refine⟨hb4.setCell (by simp;omega) _,?_,?_,by simpa using s1,hk5,MO.box ho4⟩
 ·rw[heap_setCell_other _ _ _ _ (by simp;omega)];exact za5 hg h.p (hnp _ _ h.p)
 ·rw[heap_setCell_other _ _ _ _ (by simp;omega)];exact za5 hg h.a (hnp _ _ h.a)
theorem zd8(W:World)(o0 o1:Value)(T:TypeId)(g:Nat)(hg:W.heap.size=g):∀j u,[o0,o1][j]? =some u->(W.alloc (.cells #[o0,o1] T)).cell? ⟨g,0+j,none⟩=some u:=by
 subst hg;intro j u h;have hr:=heap_alloc_new W (.cells #[o0,o1] T);rw[Nat.zero_add,cell_of_row _ _ j _ _ _ hr,<-h];simp
def ym7(w:World)(R:List RT)(L:List Int)(e:Ending)(w':World):Prop:=∃ra rc gl lc S,e=.returned (.agg #[.slice ra R.length rc,.slice (some ⟨gl,0,none⟩) L.length lc])/\Below w.heap.size w w'/\S.map RT.key=R.map RT.key/\PO w' (w.heap.size+2) (.slice ra R.length rc) S (.slice (some ⟨gl,0,none⟩) L.length lc) L
set_option maxHeartbeats 4000000 in
theorem zV6(ra la:Option Addr)(rc lc:Nat)(R:List RT)(L:List Int)(w:World)(hR:za6 w ra R)(hL:za0 w la L)(hla:(la=none/\L.length=0)∨∃bl ol,la=some ⟨bl,ol,none⟩)(hn:R.length<=500)(hi:∀r∈R,r.ids≠[]/\r.ids.length<=500)(hl:L.length<=500):
 Calls Tryz.prog 48 #[.agg #[.slice ra R.length rc,.slice la L.length lc]] w (ym7 w R L):=by
 have HR:Hid (za6 w ra R):=hR;have HL:Hid (za0 w la L):=hL;have HLA:Hid _:=hla;have HI:Hid _:=hi;clear hR hL hi hla;obtain⟨n,HN⟩:=nmd R.length;obtain⟨m,HM⟩:=nmd L.length;rw[HN.out]at hn⊢;rw[HM.out]at hl⊢;have B1:Hid (Below w.heap.size w (((w.alloc (.cells #[.slice ra n rc,.slice la m lc] 33)).alloc (.cells #[.slice none 0 0,.slice none 0 0] 33)).alloc (.cells #[] 2))):=(((Below.refl _ _).alloc (Nat.le_refl _) _).alloc (by simp) _).alloc (by simp;omega) _;have P1:Hid ((((w.alloc (.cells #[.slice ra n rc,.slice la m lc] 33)).alloc (.cells #[.slice none 0 0,.slice none 0 0] 33)).alloc (.cells #[] 2)).heap[w.heap.size]? =some (.cells #[.slice ra n rc,.slice la m lc] 33 (0,0))):=(heap_alloc_old _ _ (by simp;omega)).trans (heap_alloc2_old _ _ _);have A1:Hid ((((w.alloc (.cells #[.slice ra n rc,.slice la m lc] 33)).alloc (.cells #[.slice none 0 0,.slice none 0 0] 33)).alloc (.cells #[] 2)).heap[w.heap.size+1]? =some (.cells #[.slice none 0 0,.slice none 0 0] 33 (0,0))):=(heap_alloc_old _ _ (by simp)).trans (heap_alloc2_new _ _ _);have O1:Hid ((((w.alloc (.cells #[.slice ra n rc,.slice la m lc] 33)).alloc (.cells #[.slice none 0 0,.slice none 0 0] 33)).alloc (.cells #[] 2)).ownsRow (w.heap.size+2) 2 1 (.slice (some ⟨w.heap.size+1+1,0,none⟩) 0 0) 0 (([]:List Int).map (Value.int .i64))):=by
  have:=World.ownsRow_made ((w.alloc (.cells #[.slice ra n rc,.slice la m lc] 33)).alloc (.cells #[.slice none 0 0,.slice none 0 0] 33)) #[] 0 (base:=w.heap.size+2) (e:=2) (size:=1) (by simp) (by unfold maxLen;omega) (by simp);show World.ownsRow _ _ _ _ _ _ _;simpa using this
 go_enter Tryz.func48,Tryz.ntmps48;obtain⟨p0,p1⟩:=za2 P1.out;go_upto_region 1 with fail;go_cut [3]from 5 to 9 (fun s3 wx=>∃(kb gl cl:Nat),s3=.pointer (some ⟨kb,0,none⟩)/\CQ w wx kb (.slice ra n rc) (.slice la m lc) (.slice none 0 0) (.slice (some ⟨gl,0,none⟩) m cl) [] L)
 case first=>
  rcases HLA.out with⟨h1,h2⟩|⟨bl,ol,h1⟩
  ·have hm0:m=0:=HM.out.symm.trans h2
   have hL0:L=[]:=List.eq_nil_of_length_eq_zero h2;subst hm0 h1
   go_wp2_with(at_builtin
               refine zV0 _ rfl (.tmp 5) (.tmp 7) rfl (w.heap.size+1+1) 0 0 lc rfl rfl (Nat.le_refl _) ?_)
   go_meet;refine⟨_,w.heap.size+1+1,0,rfl,?_⟩;subst hL0;have hA:=(Below.refl _ (((w.alloc (.cells #[.slice ra n rc,.slice none 0 lc] 33)).alloc (.cells #[.slice none 0 0,.slice none 0 0] 33)).alloc (.cells #[] 2))).alloc (Nat.le_refl _) (.cells #[.slice none 0 0,.slice (some ⟨w.heap.size+1+1,0,none⟩) 0 0] 33);have hb:=B1.out.trans (hA.mono B1.out.size);have hp:=za1 hA (za3 P1.out) P1.out;have ha:=za1 hA (za3 A1.out) A1.out;have hk:((((w.alloc (.cells #[.slice ra n rc,.slice none 0 lc] 33)).alloc (.cells #[.slice none 0 0,.slice none 0 0] 33)).alloc (.cells #[] 2))).heap.size=w.heap.size+3:=by simp
   have ho:=heap_alloc_new (((w.alloc (.cells #[.slice ra n rc,.slice none 0 lc] 33)).alloc (.cells #[.slice none 0 0,.slice none 0 0] 33)).alloc (.cells #[] 2)) (.cells #[.slice none 0 0,.slice (some ⟨w.heap.size+1+1,0,none⟩) 0 0] 33);rw[hk]at ho;exact⟨hb,hp,ha,by first|exact ho|simpa using ho,by simp,⟨World.ownsRow_nil _ _ _ _,(fun s hs=>by cases hs),O1.out.alloc _⟩⟩
  ·subst h1
   go_wp2_with(first
    |(at_builtin
      go_must(refine zf4 _ rfl (.tmp 5) (.tmp 7) rfl (w.heap.size+2) _ 0 [] rfl O1.out bl ol m lc L rfl HM.out (HL.out.below B1.out) (by omega) (by omega) (by simp) ?_)
      go_loud(
       intro lv w2 hown hg hbk hnl;have hsz:=B1.out.size;have hge:∀k,(Value.slice (some ⟨w.heap.size+1+1,0,none⟩) 0 0).ownBlock=some k->w.heap.size+2<=k:=fun k e=>by have:=zS4 e;omega
       have Q2:Hid (CQ w (w2.alloc (.cells #[.slice none 0 0,lv] 33)) w2.heap.size (.slice ra n rc) (.slice (some ⟨bl,ol,none⟩) m lc) (.slice none 0 0) lv [] L):=by
        have hb2:Below w.heap.size w w2:=B1.out.grown hg B1.out.size (fun k e=>by have:=hge k e;omega);have ha:Below w2.heap.size w2 (w2.alloc (.cells #[.slice none 0 0,lv] 33)):=(Below.refl _ _).alloc (Nat.le_refl _) _;have hp2:=za5 hg P1.out (fun e=>by have:=hge _ e.symm;omega);have ha2:=za5 hg A1.out (fun e=>by have:=hge _ e.symm;omega);refine⟨hb2.trans (ha.mono hb2.size),za1 ha (za3 hp2) hp2,za1 ha (za3 ha2) ha2,heap_alloc_new _ _,za3 ha2,⟨World.ownsRow_nil _ _ _ _,(fun s hs=>by cases hs),?_⟩⟩;rw[Nat.zero_add,List.nil_append]at hown;rw[HM.out];exact hown.alloc _
       obtain⟨gl,cl,e⟩:=zQ0 hown (zC3 hnl ⟨_,_,_,rfl⟩);rw[Nat.zero_add]at e;subst e)
      clear hown hg hbk hnl hsz hge))
   go_meet;exact⟨w2.heap.size,gl,cl,rfl,Q2.out⟩
 case rest=>
  obtain⟨kb,gl,cl,rfl,hQ2⟩:=hcut;have Q2:Hid _:=hQ2;clear hQ2 p0 p1;obtain⟨W2,hW2⟩:∃v,v=wc:=⟨_,rfl⟩;subst hW2
  go_wp2_with fail
  go_loopw[4] (fun t wr=>∃(k:Nat) (rs:Value) (S:List RT),k<=n/\t=.int .i64 k/\S.map RT.key=(R.take k).map RT.key/\CQ w wr kb (.slice ra n rc) (.slice la m lc) rs (.slice (some ⟨gl,0,none⟩) m cl) S L) (fun t _=>n - (intOf t).toNat)
  case atStart=>exact⟨0,.slice none 0 0,[],Nat.zero_le _,rfl,rfl,Q2.out⟩
  case round=>
   clear Q2 B1 P1 A1 O1;obtain⟨k,rs,S,hk,rfl,hkey,hQ⟩:=hrel;have Q3:Hid _:=hQ;have HKY:Hid _:=hkey;have hSk:S.length=k:=by
    have:=congrArg List.length hkey;simp only[List.length_map,List.length_take,HN.out]at this;omega
   have HSK:Hid (S.length=k):=hSk;clear hQ hkey hSk;obtain⟨p0,p1⟩:=za2 Q3.out.p;by_cases hlt:k<n
   ·have hkI:(k:Int)<(n:Int):=by omega
    have hkR:k<R.length:=by rw[HN.out];exact hlt
    obtain⟨b,off,e,r1,r2,i3⟩:=(HR.out.below Q3.out.b) k hkR;have hmem:R.getD k rt0∈R:=by rw[List.getD_eq_getElem?_getD,List.getElem?_eq_getElem hkR];simp
    obtain⟨hne,h500⟩:=HI.out _ hmem;have HRC:Hid (∀W,Below w.heap.size w W->W.cell? ⟨b,off+k*2,none⟩=some (.int .i64 (R.getD k rt0).v)/\W.cell? ⟨b,off+k*2+1,none⟩=some (.slice (R.getD k rt0).a (R.getD k rt0).ids.length (R.getD k rt0).c)):=fun W hW=>by
     obtain⟨b2,off2,e2,q1,q2,_⟩:=(HR.out.below hW) k hkR;rw[e]at e2;simp only[Option.some.injEq,Addr.mk.injEq,and_true]at e2;obtain⟨rfl,rfl⟩:=e2;exact⟨q1,q2⟩
    have HTK:Hid (R.take (k+1)=R.take k++[R.getD k rt0]):=by
     show _=_;rw[List.take_succ_eq_append_getElem hkR];simp[List.getD,hkR]
    subst e;generalize R.getD k rt0=r at*;obtain⟨rv,rra,rids,rcc⟩:=r;simp only at r1 r2 i3 hne h500;have hpos:=List.length_pos_iff.2 hne;obtain⟨b',off',e',-⟩:=i3 0 hpos;subst e';have I3:Hid (za0 wr (some ⟨b',off',none⟩) rids):=i3;obtain⟨q,HQ⟩:=nmd rids.length;simp only[HQ.out]at r2 h500 hpos HRC;clear i3 hne hmem;obtain⟨o0,o1⟩:=za2 Q3.out.o;have of:=fun i=>frozen_of_row _ _ i _ _ Q3.out.o;have kS:=And.intro p0 (And.intro o0 (And.intro r1 r2));have hkb:=za3 Q3.out.o
    go_wp2_with fail
    -- REGION
    refine zj5 (S:=(fun W=>W.cell? ⟨w.heap.size,0,none⟩=some (.slice (some ⟨b,off,none⟩) n rc)/\W.cell? ⟨kb,0,none⟩=some rs/\W.cell? ⟨b,off+k*2,none⟩=some (.int .i64 rv)/\W.cell? ⟨b,off+k*2+1,none⟩=some (.slice (some ⟨b',off',none⟩) q rcc))) 20 (by kernel_rfl) ?_ (fun hHeld=> ?_)
    ·exact kS
    have Q1:Hid _:=Q3.out.below (Below.refl _ _).drew;have I1:Hid (za0 wr.drew (some ⟨b',off',none⟩) rids):=I3.out.below (Below.refl _ _).drew;clear Q3 I3 p0 p1 r1 r2 o0 o1 of kS;generalize wr.drew=W1 at*;have QA:Hid (CQ w (W1.alloc (.cells #[] 2)) kb (.slice (some ⟨b,off,none⟩) n rc) (.slice la m lc) rs (.slice (some ⟨gl,0,none⟩) m cl) S L):=Q1.out.below ((Below.refl _ _).alloc (Nat.le_refl _) _);obtain⟨o0,o1⟩:=za2 Q1.out.o;obtain⟨oa0,oa1⟩:=za2 QA.out.o;have kSa:(fun W=>W.cell? ⟨w.heap.size,0,none⟩=some (.slice (some ⟨b,off,none⟩) n rc)/\W.cell? ⟨kb,0,none⟩=some rs/\W.cell? ⟨b,off+k*2,none⟩=some (.int .i64 rv)/\W.cell? ⟨b,off+k*2+1,none⟩=some (.slice (some ⟨b',off',none⟩) q rcc)) (W1.alloc (.cells #[] 2)):=⟨(za2 QA.out.p).1,(za2 QA.out.o).1,HRC.out _ QA.out.b⟩;refine tkZ 0 hHeld ?_;refine tkZ 1 hHeld ?_;refine tkZ 2 hHeld ?_;refine tkZ 3 hHeld ?_;refine tkZ 4 hHeld ?_;refine tkZ 5 hHeld ?_;refine tkZ 6 hHeld ?_;refine tkZ 7 hHeld ?_;refine tkZ 9 hHeld ?_;refine tkZ 10 hHeld ?_;refine tkZ 11 hHeld ?_;refine tkZ 12 hHeld ?_;refine tkZ 13 hHeld ?_;refine tkZ 14 hHeld ?_;refine zd0 (rs:=[8]) (by kernel_rfl) (by simp) ?_;refine zc0.cons rfl (fun K hK=> ?_) zc0.nil;go_simp;refine hK.out _ _ ?_ (fun hHeld=> ?_)
    ·exact kSa
    clear hK K
    (try simp only[Act.put,List.setIfInBounds_toArray,List.set_cons_zero,List.set_cons_succ])
    refine zd0 (rs:=[15]) (by kernel_rfl) (by simp) ?_;refine zc0.cons rfl (fun K hK=> ?_) zc0.nil;refine zd3 rfl (.tmp 25) (.tmp 31) rfl W1.heap.size (.slice (some ⟨W1.heap.size,0,none⟩) 0 0) [] 0 rfl (World.ownsRow_made W1 #[] 0 (Nat.le_refl _) (by unfold maxLen;omega) (by simp)) b' off' q rcc rids rfl HQ.out (I1.out.below ((Below.refl _ _).alloc (Nat.le_refl _) _)) (by omega) (by omega) (by simp) ?_;intro v3 w3 ho hg hn;obtain⟨g3,c3,e3⟩:=zQ0 ho (zC3 hn ⟨_,_,_,rfl⟩);rw[Nat.zero_add]at e3;subst e3;have hbx:Below W1.heap.size W1 w3:=((Below.refl W1.heap.size W1).alloc (Nat.le_refl _) _).grown hg (by simp) (fun k e=>zS4 e);have Q4:Hid _:=Q1.out.below hbx;have O4:Hid (w3.ownsRow (w.heap.size+2) 2 1 (.slice (some ⟨g3,0,none⟩) q c3) q (rids.map (Value.int .i64))):=by
     rw[Nat.zero_add,List.nil_append]at ho;exact zb7 ho (by have:=za3 Q1.out.a;omega)
    have kS3:(fun W=>W.cell? ⟨w.heap.size,0,none⟩=some (.slice (some ⟨b,off,none⟩) n rc)/\W.cell? ⟨kb,0,none⟩=some rs/\W.cell? ⟨b,off+k*2,none⟩=some (.int .i64 rv)/\W.cell? ⟨b,off+k*2+1,none⟩=some (.slice (some ⟨b',off',none⟩) q rcc)) w3:=⟨(za2 Q4.out.p).1,(za2 Q4.out.o).1,HRC.out _ Q4.out.b⟩;have QB:Hid (CQ w (w3.alloc (.cells #[.int .i64 rv,.slice (some ⟨g3,0,none⟩) q c3] 43)) kb (.slice (some ⟨b,off,none⟩) n rc) (.slice la m lc) rs (.slice (some ⟨gl,0,none⟩) m cl) S L):=Q4.out.below ((Below.refl _ _).alloc (Nat.le_refl _) _);have OB:Hid (World.ownsRow (w3.alloc (.cells #[.int .i64 rv,.slice (some ⟨g3,0,none⟩) q c3] 43)) (w.heap.size+2) 2 1 (.slice (some ⟨g3,0,none⟩) q c3) q (rids.map (Value.int .i64))):=O4.out.alloc _;have kSb:(fun W=>W.cell? ⟨w.heap.size,0,none⟩=some (.slice (some ⟨b,off,none⟩) n rc)/\W.cell? ⟨kb,0,none⟩=some rs/\W.cell? ⟨b,off+k*2,none⟩=some (.int .i64 rv)/\W.cell? ⟨b,off+k*2+1,none⟩=some (.slice (some ⟨b',off',none⟩) q rcc)) (w3.alloc (.cells #[.int .i64 rv,.slice (some ⟨g3,0,none⟩) q c3] 43)):=⟨(za2 QB.out.p).1,(za2 QB.out.o).1,HRC.out _ QB.out.b⟩;obtain⟨x0,x1⟩:=za2 Q4.out.o;obtain⟨xa0,xa1⟩:=za2 QB.out.o;clear ho hg hn hbx;refine hK.out _ _ ?_ (fun hHeld=> ?_)
    ·exact kS3
    clear hK K;change zi6 _ _ _ _ _ _ _ _ (Act.put _ (some 32) _) _;simp only[Act.put,List.setIfInBounds_toArray,List.set_cons_zero,List.set_cons_succ];refine tkZ 16 hHeld ?_;refine zd0 (rs:=[17]) (by kernel_rfl) (by simp) ?_;refine zc0.cons rfl (fun K hK=> ?_) zc0.nil;go_simp;refine hK.out _ _ ?_ (fun hHeld=> ?_)
    ·exact kSb
    clear hK K
    (try simp only[Act.put,List.setIfInBounds_toArray,List.set_cons_zero,List.set_cons_succ])
    refine zd0 (rs:=[18]) (by kernel_rfl) (by simp) ?_;refine zc0.cons rfl (fun K hK=> ?_) zc0.nil;refine zc9 Tryz.underlying31 zk4 (by rfl) (by omega) rfl (.tmp 18) (.tmp 34) rfl (w.heap.size+2) rs k (zg9 S) rfl (by rw[<-HSK.out];exact QB.out.q.r) w3.heap.size 0 1 1 [.int .i64 rv,.slice (some ⟨g3,0,none⟩) q c3] rfl rfl (zd8 _ _ _ _ _ rfl) (by simp[Value.oneCell']) (by omega) (by omega) (by have:=za3 Q4.out.a;simp;omega) ?_;intro v' w4 ho hg hbk hn;rcases own_kinds ho with⟨_,e0⟩|⟨g4,c4,e4,-,-⟩
    ·omega
    subst e4;have Q5:Hid _:=QB.out.more HQ.out HSK.out OB.out hg ho;have X4:=QB.out.moreO hg;have kS4:(fun W=>W.cell? ⟨w.heap.size,0,none⟩=some (.slice (some ⟨b,off,none⟩) n rc)/\W.cell? ⟨kb,0,none⟩=some rs/\W.cell? ⟨b,off+k*2,none⟩=some (.int .i64 rv)/\W.cell? ⟨b,off+k*2+1,none⟩=some (.slice (some ⟨b',off',none⟩) q rcc)) w4:=⟨X4.1,(za2 X4.2.1).1,HRC.out _ X4.2.2⟩;obtain⟨x4,y4⟩:=za2 X4.2.1;have xf:=fun i=>frozen_of_row _ _ i _ _ X4.2.1;clear ho hg hbk hn X4;refine hK.out _ _ ?_ (fun hHeld=> ?_)
    ·exact kS4
    clear hK K;change zi6 _ _ _ _ _ _ _ _ (Act.put _ (some 35) _) _;simp only[Act.put,List.setIfInBounds_toArray,List.set_cons_zero,List.set_cons_succ];refine tkZ 19 hHeld ?_;refine zd0 (rs:=[20]) (by kernel_rfl) (by simp) ?_;refine zc0.last rfl (fun K hK=> ?_);go_simp;refine hK.out _ _ ?_;clear hK K;refine zq0 (by kernel_rfl) ?_ _;clear hHeld xf x4 y4 kS4 x0 x1 xa0 xa1 kSb kS3 kSa oa0 oa1 o0 o1 QB OB Q4 O4 QA Q1 I1;generalize w4.setCell ⟨kb,0,none⟩ (.slice (some ⟨g4,0,none⟩) (k+1) c4)=W5 at*;go_wp2;go_roundw
    case rel=>
     refine⟨k+1,_,_,by omega,by first|rfl|go_num,?_,Q5.out⟩;rw[HTK.out,List.map_append,List.map_append,HKY.out];rfl
    case measure=>simp[intOf];omega
    -- NOIGER
   ·have hkI:¬((k:Int)<(n:Int)):=by omega
    have hke:k=n:=by omega
    obtain⟨a0,a1⟩:=za2 Q3.out.a;have af:=fun i=>frozen_of_row _ _ i _ _ Q3.out.a;obtain⟨o0,o1⟩:=za2 Q3.out.o;have HKE:Hid (S.map RT.key=R.map RT.key):=by
     show _=_;rw[HKY.out,hke,<-HN.out,List.take_length]
    have hSn:S.length=n:=by rw[HSK.out];exact hke
    obtain⟨ga,ca,e⟩:∃ga ca,rs=.slice ga n ca:=by
     rcases Q3.out.q.rv with⟨e,h0⟩|⟨g,c,e,_,_⟩
     ·exact⟨none,0,by rw[e,<-hSn,h0]⟩
     ·exact⟨_,c,by rw[e,hSn]⟩
    subst e;clear hke hSn HSK HKY;go_wp2;refine bodyPost_ret (v:=.agg #[.slice ga n ca,.slice (some ⟨gl,0,none⟩) m cl]) (by simp[results,Tryz.results48,go_sem,a0,a1]) rfl ⟨ga,ca,gl,cl,S,by rw[HN.out,HM.out],?_,HKE.out,?_⟩
    ·repeat(first|with_reducible exact Q3.out.b|refine Below.setCell ?_ (by simp<;>omega) _)
    ·rw[HN.out,HM.out]
     repeat(first|with_reducible exact Q3.out.q|refine PO.set ?_ (by omega))
theorem zo5(ra:Option Addr)(bl ol rc lc:Nat)(R:List RT)(L:List Int)(w:World)(hR:za6 w ra R)(hL:za0 w (some ⟨bl,ol,none⟩) L)(hn:R.length<=500)(hi:∀r∈R,r.ids≠[]/\r.ids.length<=500)(hl:L.length<=500):
 Calls Tryz.prog 48 #[.agg #[.slice ra R.length rc,.slice (some ⟨bl,ol,none⟩) L.length lc]] w (ym7 w R L):=zV6 ra _ rc lc R L w hR hL (.inr ⟨_,_,rfl⟩) hn hi hl
structure SQ(w W:World)(kb:Nat)(p0 p1 r0 r1 rs ls:Value)(oo:List RT)(L:List Int):Prop where
 b:Below w.heap.size w W
 p:W.heap[w.heap.size]? =some (.cells #[p0,p1] 33 (0,0))
 x:W.heap[w.heap.size+1]? =some (.cells #[r0,r1] 43 (0,0))
 a:W.heap[w.heap.size+2]? =some (.cells #[.slice none 0 0,.slice none 0 0] 33 (0,0))
 o:W.heap[kb]? =some (.cells #[rs,ls] 33 (0,0))
 k:w.heap.size+2<kb
 r:W.ownsRow (w.heap.size+3) 43 2 rs oo.length (zg9 oo)
 l:W.ownsRow (w.heap.size+3) 2 1 ls L.length (L.map (Value.int .i64))
theorem SQ.below{w W W':World}{kb:Nat}{p0 p1 r0 r1 rs ls:Value}{o:List RT}{L:List Int}(h:SQ w W kb p0 p1 r0 r1 rs ls o L)(hb:Below W.heap.size W W'):SQ w W' kb p0 p1 r0 r1 rs ls o L:=
 ⟨h.b.trans (hb.mono h.b.size),za1 hb (za3 h.p) h.p,za1 hb (za3 h.x) h.x,za1 hb (za3 h.a) h.a,za1 hb (za3 h.o) h.o,h.k,zc2 h.r hb,zc2 h.l hb⟩
theorem SQ.np{w W:World}{kb:Nat}{p0 p1 r0 r1 rs ls:Value}{o:List RT}{L:List Int}(h:SQ w W kb p0 p1 r0 r1 rs ls o L):∀j cs,W.heap[j]? =some (.cells cs 33 (0,0))->some j≠rs.ownBlock:=fun j cs hj e=>zf3 h.r hj (by decide) e.symm
theorem SQ.nx{w W:World}{kb:Nat}{p0 p1 r0 r1 rs ls:Value}{o:List RT}{L:List Int}(h:SQ w W kb p0 p1 r0 r1 rs ls o L):some (w.heap.size+1)≠rs.ownBlock:=fun e=>by
 have:=(h.r.lt _ e.symm).1;omega
theorem SQ.moreO{w W w4:World}{kb:Nat}{p0 p1 r0 r1 rs ls:Value}{o:List RT}{L:List Int}(h:SQ w W kb p0 p1 r0 r1 rs ls o L)(hg:W.grownBy w4 rs.ownBlock):w4.cell? ⟨w.heap.size,0,none⟩=some p0/\w4.heap[kb]? =some (.cells #[rs,ls] 33 (0,0))/\Below w.heap.size w w4:=
 ⟨(za2 (za5 hg h.p (h.np _ _ h.p))).1,za5 hg h.o (h.np _ _ h.o),h.b.grown hg h.b.size (fun j e=>by have:=(h.r.lt j e).1;omega)⟩
theorem SQ.more{w W w4:World}{kb k q:Nat}{p0 p1 r0 r1 rs ls v':Value}{o:List RT}{L:List Int}(x:RT)(h:SQ w W kb p0 p1 r0 r1 rs ls o L)(hq:x.ids.length=q)(hk:o.length=k)(hg:W.grownBy w4 rs.ownBlock)(ho:w4.ownsRow (w.heap.size+3) 43 2 v' (k+1) (zg9 o++[.int .i64 x.v,.slice x.a q x.c])):SQ w (w4.setCell ⟨kb,0,none⟩ v') kb p0 p1 r0 r1 v' ls (o++[x]) L:=by
 subst hq hk;have hb4:Below w.heap.size w w4:=h.b.grown hg h.b.size (fun j e=>by have:=(h.r.lt j e).1;omega);have hk5:=h.k;have ho4:=za5 hg h.o (h.np _ _ h.o);have s1:=heap_setCell_same w4 kb 0 _ _ v' ho4;have hro:World.ownsRow w4 (w.heap.size+3) 43 2 v' (o++[x]).length (zg9 (o++[x])):=by
  rw[List.length_append,zl1,show zg9 [x]=zm5 x by simp[zg9]];exact ho
 have hl4:World.ownsRow w4 (w.heap.size+3) 2 1 ls L.length (L.map (Value.int .i64)):=by
  refine h.l.kept hg ?_;rcases own_kinds h.r with⟨e,_⟩|⟨g,c,e,_,hg2⟩
  ·cases hb:ls.ownBlock with
   |none=>exact .inl rfl
   |some q=>exact .inr (by rw[e];simp[Value.ownBlock])
  ·refine .inr fun e2=> ?_
   have hrow:∃cs,W.heap[g]? =some (.cells cs 43 (0,0)):=by
    have h2:=h.r;rw[e]at h2;obtain⟨_,⟨h3,_⟩|⟨g',cap,cur,h3,_,h4,_⟩⟩:=h2
    ·cases h3
    ·simp only[Value.slice.injEq,Option.some.injEq,Addr.mk.injEq]at h3
     exact⟨cur,by rw[h3.1.1];exact h4⟩
   obtain⟨cs,hcs⟩:=hrow;rw[e]at e2;exact zf3 h.l hcs (by decide) e2
 refine⟨hb4.setCell (by simp;omega) _,?_,?_,?_,by simpa using s1,hk5,ownsRow_setCell_other hro (zf3 hro ho4 (T:=33) (by decide)) _,ownsRow_setCell_other hl4 (zf3 hl4 ho4 (T:=33) (by decide)) _⟩
 ·rw[heap_setCell_other _ _ _ _ (by simp;omega)];exact za5 hg h.p (h.np _ _ h.p)
 ·rw[heap_setCell_other _ _ _ _ (by simp;omega)];exact za5 hg h.x h.nx
 ·rw[heap_setCell_other _ _ _ _ (by simp;omega)];exact za5 hg h.a (h.np _ _ h.a)
theorem SQ.at{w W:World}{kb n c:Nat}{ra a:Option Addr}{rc:Nat}{p1 r0 r1 ls:Value}{o R:List RT}{r:RT}{L:List Int}(h:SQ w W kb (.slice ra n rc) p1 r0 r1 (.slice a o.length c) ls o L)(hR:za6 w ra R)(hr:za0 w r.a r.ids)(hm:∀x∈o,x∈R∨x=r):za6 W a o:=fun j hj=>by
 rcases own_kinds h.r with⟨_,h0⟩|⟨g,c,e,_,_⟩
 ·omega
 ·simp only[Value.slice.injEq]at e
  obtain⟨rfl,_,rfl⟩:=e;obtain⟨q1,q2⟩:=z71 o j hj;have c1:=(zf6 h.r q1).1;have c2:=(zf6 h.r q2).1;have hmem:o.getD j rt0∈o:=by rw[List.getD_eq_getElem?_getD,List.getElem?_eq_getElem hj];simp
  refine⟨g,0,rfl,by rw[Nat.zero_add];exact c1,by rw[Nat.zero_add];exact c2,?_⟩;rcases hm _ hmem with hx|hx
  ·obtain⟨i,hi,e⟩:=List.getElem_of_mem hx
   obtain⟨_,_,_,_,_,hi3⟩:=hR i hi;have:R.getD i rt0=o.getD j rt0:=by rw[List.getD_eq_getElem?_getD,List.getElem?_eq_getElem hi];simpa using e
   rw[this]at hi3;exact hi3.below h.b
  ·rw[hx]
   exact hr.below h.b
def yu3(w:World)(R:List RT)(r:RT)(L:List Int)(e:Ending)(w':World):Prop:=∃ra rc gl lc S,e=.returned (.agg #[.slice ra S.length rc,.slice (some ⟨gl,0,none⟩) L.length lc])/\Below w.heap.size w w'/\S.map RT.key=(setL R r).map RT.key/\PO w' w.heap.size (.slice ra S.length rc) S (.slice (some ⟨gl,0,none⟩) L.length lc) L
theorem yn9{R:List RT}{r:RT}{k:Nat}{o o':List RT}{d d':Bool}(h:setTo R r k=(o,d))(hk:k<R.length)(hs:zB9 r (o,d) (R.getD k rt0)=(o',d')):setTo R r (k+1)=(o',d'):=by rw[z93 r hk,h,hs]
set_option maxHeartbeats 8000000 in
theorem z74(ra:Option Addr)(bl ol rc lc br or cr:Nat)(R:List RT)(L:List Int)(rv:Int)(rids:List Int)(w:World)(hR:za6 w ra R)(hL:za0 w (some ⟨bl,ol,none⟩) L)(hX:za0 w (some ⟨br,or,none⟩) rids)(hn:R.length<=400)(hi:∀r∈R,r.ids≠[]/\r.ids.length<=500)(hl:L.length<=500)(hr:rids≠[]/\rids.length<=500):
 Calls Tryz.prog 69 #[.agg #[.slice ra R.length rc,.slice (some ⟨bl,ol,none⟩) L.length lc],.agg #[.int .i64 rv,.slice (some ⟨br,or,none⟩) rids.length cr]] w (yu3 w R ⟨rv,some ⟨br,or,none⟩,rids,cr⟩ L):=by
 have HR:Hid (za6 w ra R):=hR;have HL:Hid (za0 w (some ⟨bl,ol,none⟩) L):=hL;have HX:Hid (za0 w (some ⟨br,or,none⟩) rids):=hX;have HI:Hid _:=hi;have HRI:Hid _:=hr;clear hR hL hX hi hr;obtain⟨n,HN⟩:=nmd R.length;obtain⟨m,HM⟩:=nmd L.length;have hq0:=List.length_pos_iff.2 HRI.1;have hq5:=HRI.2;obtain⟨r,HRR⟩:∃r:RT,Hid ((⟨rv,some ⟨br,or,none⟩,rids,cr⟩:RT)=r):=⟨_,rfl⟩;rw[HRR.out];obtain⟨q,HQ⟩:=nmd rids.length;rw[HN.out]at hn⊢;rw[HM.out]at hl⊢;rw[HQ.out]at hq0 hq5⊢;have hqI:¬((q:Int)=0):=by omega
 have hqb:((q:Int)==0)=false:=by simp;omega
 have B1:Hid (Below w.heap.size w ((((w.alloc (.cells #[.slice ra n rc,.slice (some ⟨bl,ol,none⟩) m lc] 33)).alloc (.cells #[.int .i64 rv,.slice (some ⟨br,or,none⟩) q cr] 43)).alloc (.cells #[.slice none 0 0,.slice none 0 0] 33)).alloc (.cells #[] 2))):=((((Below.refl _ _).alloc (Nat.le_refl _) _).alloc (by simp) _).alloc (by simp;omega) _).alloc (by simp;omega) _;have P1:Hid (((((w.alloc (.cells #[.slice ra n rc,.slice (some ⟨bl,ol,none⟩) m lc] 33)).alloc (.cells #[.int .i64 rv,.slice (some ⟨br,or,none⟩) q cr] 43)).alloc (.cells #[.slice none 0 0,.slice none 0 0] 33)).alloc (.cells #[] 2)).heap[w.heap.size]? =some (.cells #[.slice ra n rc,.slice (some ⟨bl,ol,none⟩) m lc] 33 (0,0))):=(heap_alloc_old _ _ (by simp;omega)).trans ((heap_alloc_old _ _ (by simp;omega)).trans (heap_alloc2_old _ _ _));have X1:Hid (((((w.alloc (.cells #[.slice ra n rc,.slice (some ⟨bl,ol,none⟩) m lc] 33)).alloc (.cells #[.int .i64 rv,.slice (some ⟨br,or,none⟩) q cr] 43)).alloc (.cells #[.slice none 0 0,.slice none 0 0] 33)).alloc (.cells #[] 2)).heap[w.heap.size+1]? =some (.cells #[.int .i64 rv,.slice (some ⟨br,or,none⟩) q cr] 43 (0,0))):=(heap_alloc_old _ _ (by simp)).trans ((heap_alloc_old _ _ (by simp)).trans (heap_alloc2_new _ _ _));have A1:Hid (((((w.alloc (.cells #[.slice ra n rc,.slice (some ⟨bl,ol,none⟩) m lc] 33)).alloc (.cells #[.int .i64 rv,.slice (some ⟨br,or,none⟩) q cr] 43)).alloc (.cells #[.slice none 0 0,.slice none 0 0] 33)).alloc (.cells #[] 2)).heap[w.heap.size+2]? =some (.cells #[.slice none 0 0,.slice none 0 0] 33 (0,0))):=(heap_alloc_old _ _ (by simp)).trans (by
  have:=heap_alloc_new ((w.alloc (.cells #[.slice ra n rc,.slice (some ⟨bl,ol,none⟩) m lc] 33)).alloc (.cells #[.int .i64 rv,.slice (some ⟨br,or,none⟩) q cr] 43)) (.cells #[.slice none 0 0,.slice none 0 0] 33);simpa using this)
 have O1:Hid (((((w.alloc (.cells #[.slice ra n rc,.slice (some ⟨bl,ol,none⟩) m lc] 33)).alloc (.cells #[.int .i64 rv,.slice (some ⟨br,or,none⟩) q cr] 43)).alloc (.cells #[.slice none 0 0,.slice none 0 0] 33)).alloc (.cells #[] 2)).ownsRow (w.heap.size+3) 2 1 (.slice (some ⟨w.heap.size+1+1+1,0,none⟩) 0 0) 0 (([]:List Int).map (Value.int .i64))):=by
  have:=World.ownsRow_made (((w.alloc (.cells #[.slice ra n rc,.slice (some ⟨bl,ol,none⟩) m lc] 33)).alloc (.cells #[.int .i64 rv,.slice (some ⟨br,or,none⟩) q cr] 43)).alloc (.cells #[.slice none 0 0,.slice none 0 0] 33)) #[] 0 (base:=w.heap.size+3) (e:=2) (size:=1) (by simp) (by unfold maxLen;omega) (by simp);show World.ownsRow _ _ _ _ _ _ _;simpa using this
 obtain⟨p0,p1⟩:=za2 P1.out;obtain⟨x0,x1⟩:=za2 X1.out;go_enter Tryz.func69,Tryz.ntmps69
 go_wp2_with(first
  |(at_builtin
    go_must(refine zf4 _ rfl (.tmp 8) (.tmp 10) rfl (w.heap.size+3) _ 0 [] rfl O1.out bl ol m lc L rfl HM.out (HL.below B1.out) (by omega) (by omega) (by simp) ?_)
    go_must(
     intro lv w2 hown hg hbk hnl;have hsz:=B1.size;have hge:∀k,(Value.slice (some ⟨w.heap.size+1+1+1,0,none⟩) 0 0).ownBlock=some k->w.heap.size+3<=k:=fun k e=>by have:=zS4 e;omega
     have Q2:Hid (SQ w (w2.alloc (.cells #[.slice none 0 0,lv] 33)) w2.heap.size (.slice ra n rc) (.slice (some ⟨bl,ol,none⟩) m lc) (.int .i64 rv) (.slice (some ⟨br,or,none⟩) q cr) (.slice none 0 0) lv [] L):=by
      have hb2:Below w.heap.size w w2:=B1.grown hg B1.size (fun k e=>by have:=hge k e;omega);have ha:Below w2.heap.size w2 (w2.alloc (.cells #[.slice none 0 0,lv] 33)):=(Below.refl _ _).alloc (Nat.le_refl _) _;have hp2:=za5 hg P1.out (fun e=>by have:=hge _ e.symm;omega);have hx2:=za5 hg X1.out (fun e=>by have:=hge _ e.symm;omega);have ha2:=za5 hg A1.out (fun e=>by have:=hge _ e.symm;omega);refine⟨hb2.trans (ha.mono hb2.size),za1 ha (za3 hp2) hp2,za1 ha (za3 hx2) hx2,za1 ha (za3 ha2) ha2,heap_alloc_new _ _,za3 ha2,World.ownsRow_nil _ _ _ _,?_⟩;rw[Nat.zero_add,List.nil_append]at hown;rw[HM.out];exact hown.alloc _
     obtain⟨gl,cl,e⟩:=zQ0 hown (zC3 hnl ⟨_,_,_,rfl⟩);rw[Nat.zero_add]at e;subst e;obtain⟨x0,x1⟩:=za2 Q2.x)
    clear hown hg hbk hnl hsz hge))
 clear p0 p1 x0 x1;obtain⟨kb,HKB⟩:=nmd w2.heap.size;rw[HKB.out]at Q2⊢;generalize w2.alloc (.cells #[.slice none 0 0,.slice (some ⟨gl,0,none⟩) m cl] 33)=W2 at*;go_loopw[6,7] (fun td t wr=>∃(k:Nat) (rs:Value) (o:List RT) (d:Bool),k<=n/\t=.int .i64 k/\td=.bool d/\setTo R r k=(o,d)/\SQ w wr kb (.slice ra n rc) (.slice (some ⟨bl,ol,none⟩) m lc) (.int .i64 rv) (.slice (some ⟨br,or,none⟩) q cr) rs (.slice (some ⟨gl,0,none⟩) m cl) o L) (fun _ t _=>n - (intOf t).toNat)
 case atStart=>exact⟨0,.slice none 0 0,[],false,Nat.zero_le _,rfl,rfl,zy3 _ _,Q2.out⟩
 case round=>
  clear Q2 B1 P1 X1 A1 O1;obtain⟨k,rs,o,d,hk,rfl,rfl,hst,hQ⟩:=hrel;have Q3:Hid _:=hQ;have HST:Hid _:=hst;have HOL:Hid ((∀x∈o,x∈R∨x=r)/\o.length<=k+1):=by
   have:=zv4 R r k (by rw[HN.out];exact hk);rw[hst]at this;exact⟨this.1,Nat.le_trans this.2 (by simp only;split<;>omega)⟩
  clear hQ hst;obtain⟨ko,HKO⟩:=nmd o.length;have hko:ko<=k+1:=by rw[<-HKO.out];exact HOL.2
  obtain⟨p0,p1⟩:=za2 Q3.p;obtain⟨x0,x1⟩:=za2 Q3.x;by_cases hlt:k<n
  ·have hkI:(k:Int)<(n:Int):=by omega
   have hkR:k<R.length:=by rw[HN.out];exact hlt
   obtain⟨b,off,e,r1,r2,-⟩:=(HR.below Q3.b) k hkR;have HRC:Hid (∀W,Below w.heap.size w W->W.cell? ⟨b,off+k*2,none⟩=some (.int .i64 (R.getD k rt0).v)/\W.cell? ⟨b,off+k*2+1,none⟩=some (.slice (R.getD k rt0).a (R.getD k rt0).ids.length (R.getD k rt0).c)):=fun W hW=>by
    obtain⟨b2,off2,e2,q1,q2,_⟩:=(HR.below hW) k hkR;rw[e]at e2;simp only[Option.some.injEq,Addr.mk.injEq,and_true]at e2;obtain⟨rfl,rfl⟩:=e2;exact⟨q1,q2⟩
   have HGO:Hid (∀o' d',zB9 r (o,d) (R.getD k rt0)=(o',d')->setTo R r (k+1)=(o',d')):=fun o' d' h=>yn9 HST.out hkR h;subst e;generalize R.getD k rt0=x at*;obtain⟨xv,xa,xids,xc⟩:=x;simp only at r1 r2 HRC;obtain⟨y,HY⟩:=nmd xids.length;simp only[HY.out]at r2 HRC;have hrV:Hid (r.v=rv):=by rw[<-HRR.out];rfl
   cases d
   ·by_cases h1:xv<rv
    ·skip
     have HNX:Hid _:=HGO.out _ _ (ym9 (by rw[hrV.out];simp only;omega));have g1:decide (rv<=xv)=false:=by simp;omega
     have g2:(xv !=rv)=true:=by simp;omega
     have HKO2:Hid (o.length=ko):=by show _=_;exact HKO.out
     clear HST HGO;clear h1
     go_wp2_with fail
     go_quiet (fail)
     have Q8:Hid _:=Q3.below (below_drewN (Below.refl _ _) nq);clear Q3 p0 p1 x0 x1 r1 r2;generalize wr.drewN nq=W8 at*;obtain⟨p0,p1⟩:=za2 Q8.p;obtain⟨x0,x1⟩:=za2 Q8.x;obtain⟨r1,r2⟩:=HRC.out _ Q8.b
     go_wp2_with fail
     go_quiet (fail)
     have Q9:Hid _:=Q8.below (below_drewN (Below.refl _ _) nq);clear Q8 p0 p1 x0 x1 r1 r2;generalize W8.drewN nq=W9 at*;obtain⟨p0,p1⟩:=za2 Q9.p;obtain⟨x0,x1⟩:=za2 Q9.x;obtain⟨r1,r2⟩:=HRC.out _ Q9.b;have kS:=And.intro (za2 Q9.o).1 (And.intro p0 (And.intro r1 r2))
     go_wp2_with fail
     refine zj5 (S:=(fun W=>W.cell? ⟨kb,0,none⟩=some rs/\W.cell? ⟨w.heap.size,0,none⟩=some (.slice (some ⟨b,off,none⟩) n rc)/\W.cell? ⟨b,off+k*2,none⟩=some (.int .i64 xv)/\W.cell? ⟨b,off+k*2+1,none⟩=some (.slice xa y xc))) 10 (by kernel_rfl) ?_ (fun hHeld=> ?_)
     ·exact kS
     have Q1:Hid _:=Q9.below (Below.refl _ _).drew;clear Q9 p0 p1 r1 r2 x0 x1 kS;generalize W9.drew=W1 at*;have QA:Hid (SQ w (W1.alloc (.cells #[.int .i64 xv,.slice xa y xc] 43)) kb (.slice (some ⟨b,off,none⟩) n rc) (.slice (some ⟨bl,ol,none⟩) m lc) (.int .i64 rv) (.slice (some ⟨br,or,none⟩) q cr) rs (.slice (some ⟨gl,0,none⟩) m cl) o L):=Q1.below ((Below.refl _ _).alloc (Nat.le_refl _) _);obtain⟨o0,o1⟩:=za2 Q1.o;obtain⟨oa0,oa1⟩:=za2 QA.o;have kSa:(fun W=>W.cell? ⟨kb,0,none⟩=some rs/\W.cell? ⟨w.heap.size,0,none⟩=some (.slice (some ⟨b,off,none⟩) n rc)/\W.cell? ⟨b,off+k*2,none⟩=some (.int .i64 xv)/\W.cell? ⟨b,off+k*2+1,none⟩=some (.slice xa y xc)) (W1.alloc (.cells #[.int .i64 xv,.slice xa y xc] 43)):=⟨oa0,(za2 QA.p).1,HRC.out _ QA.b⟩;refine tkZ 0 hHeld ?_;refine tkZ 1 hHeld ?_;refine tkZ 2 hHeld ?_;refine tkZ 3 hHeld ?_;refine tkZ 4 hHeld ?_;refine tkZ 5 hHeld ?_;refine tkZ 6 hHeld ?_;refine zd0 (rs:=[7]) (by kernel_rfl) (by simp) ?_;refine zc0.cons rfl (fun K hK=> ?_) zc0.nil;go_simp;refine hK.out _ _ ?_ (fun hHeld=> ?_)
     ·exact kSa
     clear hK K;refine zd0 (rs:=[8]) (by kernel_rfl) (by simp) ?_;refine zc0.cons rfl (fun K hK=> ?_) zc0.nil;refine zc9 Tryz.underlying31 zk4 (by rfl) (by omega) rfl (.tmp 53) (.tmp 59) rfl (w.heap.size+3) rs (ko) (zg9 o) rfl (by have:=QA.r;rw[HKO2.out]at this;exact this) W1.heap.size 0 1 1 [.int .i64 xv,.slice xa y xc] rfl rfl (zd8 _ _ _ _ _ rfl) (by simp[Value.oneCell']) (by omega) (by omega) (by have:=za3 Q1.a;simp;omega) ?_;intro v' w4 ho hg hbk hn4;rcases own_kinds ho with⟨_,e0⟩|⟨g4,c4,e4,-,-⟩
     ·omega
     subst e4;have Q5:Hid _:=QA.more ⟨xv,xa,xids,xc⟩ HY.out HKO2.out hg ho;have X4:=QA.moreO hg;have kS4:(fun W=>W.cell? ⟨kb,0,none⟩=some rs/\W.cell? ⟨w.heap.size,0,none⟩=some (.slice (some ⟨b,off,none⟩) n rc)/\W.cell? ⟨b,off+k*2,none⟩=some (.int .i64 xv)/\W.cell? ⟨b,off+k*2+1,none⟩=some (.slice xa y xc)) w4:=⟨(za2 X4.2.1).1,X4.1,HRC.out _ X4.2.2⟩;obtain⟨x4,y4⟩:=za2 X4.2.1;have xf:=fun i=>frozen_of_row _ _ i _ _ X4.2.1;clear ho hg hbk hn4 X4;refine hK.out _ _ ?_ (fun hHeld=> ?_)
     ·exact kS4
     clear hK K;change zi6 _ _ _ _ _ _ _ _ (Act.put _ (some 60) _) _;simp only[Act.put,List.setIfInBounds_toArray,List.set_cons_zero,List.set_cons_succ];refine tkZ 9 hHeld ?_;refine zd0 (rs:=[10]) (by kernel_rfl) (by simp) ?_;refine zc0.last rfl (fun K hK=> ?_);go_simp;refine hK.out _ _ ?_;clear hK K;refine zq0 (by kernel_rfl) ?_ _;clear hHeld xf x4 y4 kS4 kSa oa0 oa1 o0 o1 QA Q1;generalize w4.setCell ⟨kb,0,none⟩ (.slice (some ⟨g4,0,none⟩) (ko+1) c4)=W5 at*;go_wp2;go_roundw
     case rel=>exact⟨k+1,_,_,_,by omega,by first|rfl|go_num,rfl,HNX.out,Q5.out⟩
     case measure=>simp[intOf];omega
    ·by_cases h2:xv=rv
     ·skip
      have HNX:Hid _:=HGO.out _ _ (ym4 (by rw[hrV.out];simp only;omega));have g1:decide (rv<=xv)=true:=by simp;omega
      have g2:(xv !=rv)=false:=by simp;omega
      have HKO2:Hid ((o++[r]).length=(ko+1)):=by show _=_;rw[List.length_append,HKO.out];rfl
      clear HST HGO;clear h1;clear h2
      go_wp2_with fail
      go_quiet (fail)
      have Q8:Hid _:=Q3.below (below_drewN (Below.refl _ _) nq);clear Q3 p0 p1 x0 x1 r1 r2;generalize wr.drewN nq=W8 at*;obtain⟨p0,p1⟩:=za2 Q8.p;obtain⟨x0,x1⟩:=za2 Q8.x;obtain⟨r1,r2⟩:=HRC.out _ Q8.b;obtain⟨o0,o1⟩:=za2 Q8.o;have of:=fun i=>frozen_of_row _ _ i _ _ Q8.o
      go_wp2_with(first
       |(at_builtin
         go_must(refine zi1 Tryz.underlying31 zk4 (by rfl) (by omega) _ rfl (.tmp 38) (.tmp 40) rfl (w.heap.size+3) rs ko (zg9 o) rfl (by have:=(Q8.below ((Below.refl _ _).alloc (Nat.le_refl _) (.cells #[.int .i64 rv,.slice (some ⟨br,or,none⟩) q cr] 43))).r;rw[HKO.out]at this;exact this) W8.heap.size 0 1 1 [.int .i64 rv,.slice (some ⟨br,or,none⟩) q cr] rfl rfl (zd8 _ _ _ _ _ rfl) (by simp[Value.oneCell']) (by omega) (by omega) (by have:=za3 Q8.a;simp;omega) ?_)
         intro v' w6 ho hg hbk hn6;rcases own_kinds ho with⟨_,e0⟩|⟨g6,c6,e6,-,-⟩
         ·omega
         subst e6;have QA:SQ w (W8.alloc (.cells #[.int .i64 rv,.slice (some ⟨br,or,none⟩) q cr] 43)) kb (.slice (some ⟨b,off,none⟩) n rc) (.slice (some ⟨bl,ol,none⟩) m lc) (.int .i64 rv) (.slice (some ⟨br,or,none⟩) q cr) rs (.slice (some ⟨gl,0,none⟩) m cl) o L:=Q8.below ((Below.refl _ _).alloc (Nat.le_refl _) _);have Q6:Hid (SQ w (w6.setCell ⟨kb,0,none⟩ (.slice (some ⟨g6,0,none⟩) (ko+1) c6)) kb (.slice (some ⟨b,off,none⟩) n rc) (.slice (some ⟨bl,ol,none⟩) m lc) (.int .i64 rv) (.slice (some ⟨br,or,none⟩) q cr) (.slice (some ⟨g6,0,none⟩) (ko+1) c6) (.slice (some ⟨gl,0,none⟩) m cl) (o++[r]) L):=by
          rw[<-HRR.out];exact QA.more ⟨rv,some ⟨br,or,none⟩,rids,cr⟩ HQ.out HKO.out hg ho
         have X4:=QA.moreO hg;obtain⟨x4,y4⟩:=za2 X4.2.1;have xf:=fun i=>frozen_of_row _ _ i _ _ X4.2.1;clear ho hg hbk hn6 X4 QA))
      clear x4 y4 xf o0 o1 of Q8 p0 p1 x0 x1 r1 r2;generalize w6.setCell ⟨kb,0,none⟩ (.slice (some ⟨g6,0,none⟩) (ko+1) c6)=W7 at*;obtain⟨p0,p1⟩:=za2 Q6.p;obtain⟨x0,x1⟩:=za2 Q6.x;obtain⟨r1,r2⟩:=HRC.out _ Q6.b
      go_wp2_with fail
      go_quiet (fail)
      have Q9:Hid _:=Q6.below (below_drewN (Below.refl _ _) nq);clear Q6 p0 p1 x0 x1 r1 r2;generalize W7.drewN nq=W9 at*;obtain⟨p0,p1⟩:=za2 Q9.p;obtain⟨x0,x1⟩:=za2 Q9.x;obtain⟨r1,r2⟩:=HRC.out _ Q9.b;go_wp2;go_roundw
      case rel=>exact⟨k+1,_,_,_,by omega,by first|rfl|go_num,rfl,HNX.out,Q9.out⟩
      case measure=>simp[intOf];omega
     ·skip
      have HNX:Hid _:=HGO.out _ _ (yn0 (by rw[hrV.out];simp only;omega));have g1:decide (rv<=xv)=true:=by simp;omega
      have g2:(xv !=rv)=true:=by simp;omega
      have HKO2:Hid ((o++[r]).length=(ko+1)):=by show _=_;rw[List.length_append,HKO.out];rfl
      clear HST HGO;clear h1;clear h2
      go_wp2_with fail
      go_quiet (fail)
      have Q8:Hid _:=Q3.below (below_drewN (Below.refl _ _) nq);clear Q3 p0 p1 x0 x1 r1 r2;generalize wr.drewN nq=W8 at*;obtain⟨p0,p1⟩:=za2 Q8.p;obtain⟨x0,x1⟩:=za2 Q8.x;obtain⟨r1,r2⟩:=HRC.out _ Q8.b;obtain⟨o0,o1⟩:=za2 Q8.o;have of:=fun i=>frozen_of_row _ _ i _ _ Q8.o
      go_wp2_with(first
       |(at_builtin
         go_must(refine zi1 Tryz.underlying31 zk4 (by rfl) (by omega) _ rfl (.tmp 38) (.tmp 40) rfl (w.heap.size+3) rs ko (zg9 o) rfl (by have:=(Q8.below ((Below.refl _ _).alloc (Nat.le_refl _) (.cells #[.int .i64 rv,.slice (some ⟨br,or,none⟩) q cr] 43))).r;rw[HKO.out]at this;exact this) W8.heap.size 0 1 1 [.int .i64 rv,.slice (some ⟨br,or,none⟩) q cr] rfl rfl (zd8 _ _ _ _ _ rfl) (by simp[Value.oneCell']) (by omega) (by omega) (by have:=za3 Q8.a;simp;omega) ?_)
         intro v' w6 ho hg hbk hn6;rcases own_kinds ho with⟨_,e0⟩|⟨g6,c6,e6,-,-⟩
         ·omega
         subst e6;have QA:SQ w (W8.alloc (.cells #[.int .i64 rv,.slice (some ⟨br,or,none⟩) q cr] 43)) kb (.slice (some ⟨b,off,none⟩) n rc) (.slice (some ⟨bl,ol,none⟩) m lc) (.int .i64 rv) (.slice (some ⟨br,or,none⟩) q cr) rs (.slice (some ⟨gl,0,none⟩) m cl) o L:=Q8.below ((Below.refl _ _).alloc (Nat.le_refl _) _);have Q6:Hid (SQ w (w6.setCell ⟨kb,0,none⟩ (.slice (some ⟨g6,0,none⟩) (ko+1) c6)) kb (.slice (some ⟨b,off,none⟩) n rc) (.slice (some ⟨bl,ol,none⟩) m lc) (.int .i64 rv) (.slice (some ⟨br,or,none⟩) q cr) (.slice (some ⟨g6,0,none⟩) (ko+1) c6) (.slice (some ⟨gl,0,none⟩) m cl) (o++[r]) L):=by
          rw[<-HRR.out];exact QA.more ⟨rv,some ⟨br,or,none⟩,rids,cr⟩ HQ.out HKO.out hg ho
         have X4:=QA.moreO hg;obtain⟨x4,y4⟩:=za2 X4.2.1;have xf:=fun i=>frozen_of_row _ _ i _ _ X4.2.1;clear ho hg hbk hn6 X4 QA))
      clear x4 y4 xf o0 o1 of Q8 p0 p1 x0 x1 r1 r2;generalize w6.setCell ⟨kb,0,none⟩ (.slice (some ⟨g6,0,none⟩) (ko+1) c6)=W7 at*;obtain⟨p0,p1⟩:=za2 Q6.p;obtain⟨x0,x1⟩:=za2 Q6.x;obtain⟨r1,r2⟩:=HRC.out _ Q6.b
      go_wp2_with fail
      go_quiet (fail)
      have Q9:Hid _:=Q6.below (below_drewN (Below.refl _ _) nq);clear Q6 p0 p1 x0 x1 r1 r2;generalize W7.drewN nq=W9 at*;obtain⟨p0,p1⟩:=za2 Q9.p;obtain⟨x0,x1⟩:=za2 Q9.x;obtain⟨r1,r2⟩:=HRC.out _ Q9.b;have kS:=And.intro (za2 Q9.o).1 (And.intro p0 (And.intro r1 r2))
      go_wp2_with fail
      refine zj5 (S:=(fun W=>W.cell? ⟨kb,0,none⟩=some (.slice (some ⟨g6,0,none⟩) (ko+1) c6)/\W.cell? ⟨w.heap.size,0,none⟩=some (.slice (some ⟨b,off,none⟩) n rc)/\W.cell? ⟨b,off+k*2,none⟩=some (.int .i64 xv)/\W.cell? ⟨b,off+k*2+1,none⟩=some (.slice xa y xc))) 10 (by kernel_rfl) ?_ (fun hHeld=> ?_)
      ·exact kS
      have Q1:Hid _:=Q9.below (Below.refl _ _).drew;clear Q9 p0 p1 r1 r2 x0 x1 kS;generalize W9.drew=W1 at*;have QA:Hid (SQ w (W1.alloc (.cells #[.int .i64 xv,.slice xa y xc] 43)) kb (.slice (some ⟨b,off,none⟩) n rc) (.slice (some ⟨bl,ol,none⟩) m lc) (.int .i64 rv) (.slice (some ⟨br,or,none⟩) q cr) (.slice (some ⟨g6,0,none⟩) (ko+1) c6) (.slice (some ⟨gl,0,none⟩) m cl) (o++[r]) L):=Q1.below ((Below.refl _ _).alloc (Nat.le_refl _) _);obtain⟨o0,o1⟩:=za2 Q1.o;obtain⟨oa0,oa1⟩:=za2 QA.o;have kSa:(fun W=>W.cell? ⟨kb,0,none⟩=some (.slice (some ⟨g6,0,none⟩) (ko+1) c6)/\W.cell? ⟨w.heap.size,0,none⟩=some (.slice (some ⟨b,off,none⟩) n rc)/\W.cell? ⟨b,off+k*2,none⟩=some (.int .i64 xv)/\W.cell? ⟨b,off+k*2+1,none⟩=some (.slice xa y xc)) (W1.alloc (.cells #[.int .i64 xv,.slice xa y xc] 43)):=⟨oa0,(za2 QA.p).1,HRC.out _ QA.b⟩;refine tkZ 0 hHeld ?_;refine tkZ 1 hHeld ?_;refine tkZ 2 hHeld ?_;refine tkZ 3 hHeld ?_;refine tkZ 4 hHeld ?_;refine tkZ 5 hHeld ?_;refine tkZ 6 hHeld ?_;refine zd0 (rs:=[7]) (by kernel_rfl) (by simp) ?_;refine zc0.cons rfl (fun K hK=> ?_) zc0.nil;go_simp;refine hK.out _ _ ?_ (fun hHeld=> ?_)
      ·exact kSa
      clear hK K;refine zd0 (rs:=[8]) (by kernel_rfl) (by simp) ?_;refine zc0.cons rfl (fun K hK=> ?_) zc0.nil;refine zc9 Tryz.underlying31 zk4 (by rfl) (by omega) rfl (.tmp 53) (.tmp 59) rfl (w.heap.size+3) (.slice (some ⟨g6,0,none⟩) (ko+1) c6) ((ko+1)) (zg9 (o++[r])) rfl (by have:=QA.r;rw[HKO2.out]at this;exact this) W1.heap.size 0 1 1 [.int .i64 xv,.slice xa y xc] rfl rfl (zd8 _ _ _ _ _ rfl) (by simp[Value.oneCell']) (by omega) (by omega) (by have:=za3 Q1.a;simp;omega) ?_;intro v' w4 ho hg hbk hn4;rcases own_kinds ho with⟨_,e0⟩|⟨g4,c4,e4,-,-⟩
      ·omega
      subst e4;have Q5:Hid _:=QA.more ⟨xv,xa,xids,xc⟩ HY.out HKO2.out hg ho;have X4:=QA.moreO hg;have kS4:(fun W=>W.cell? ⟨kb,0,none⟩=some (.slice (some ⟨g6,0,none⟩) (ko+1) c6)/\W.cell? ⟨w.heap.size,0,none⟩=some (.slice (some ⟨b,off,none⟩) n rc)/\W.cell? ⟨b,off+k*2,none⟩=some (.int .i64 xv)/\W.cell? ⟨b,off+k*2+1,none⟩=some (.slice xa y xc)) w4:=⟨(za2 X4.2.1).1,X4.1,HRC.out _ X4.2.2⟩;obtain⟨x4,y4⟩:=za2 X4.2.1;have xf:=fun i=>frozen_of_row _ _ i _ _ X4.2.1;clear ho hg hbk hn4 X4;refine hK.out _ _ ?_ (fun hHeld=> ?_)
      ·exact kS4
      clear hK K;change zi6 _ _ _ _ _ _ _ _ (Act.put _ (some 60) _) _;simp only[Act.put,List.setIfInBounds_toArray,List.set_cons_zero,List.set_cons_succ];refine tkZ 9 hHeld ?_;refine zd0 (rs:=[10]) (by kernel_rfl) (by simp) ?_;refine zc0.last rfl (fun K hK=> ?_);go_simp;refine hK.out _ _ ?_;clear hK K;refine zq0 (by kernel_rfl) ?_ _;clear hHeld xf x4 y4 kS4 kSa oa0 oa1 o0 o1 QA Q1;generalize w4.setCell ⟨kb,0,none⟩ (.slice (some ⟨g4,0,none⟩) ((ko+1)+1) c4)=W5 at*;go_wp2;go_roundw
      case rel=>exact⟨k+1,_,_,_,by omega,by first|rfl|go_num,rfl,HNX.out,Q5.out⟩
      case measure=>simp[intOf];omega
   ·by_cases h2:xv=rv
    ·skip
     have HNX:Hid _:=HGO.out _ _ (yj4 (by rw[hrV.out];simp only;omega));have g2:(xv !=rv)=false:=by simp;omega
     have HKO2:Hid (o.length=ko):=by show _=_;exact HKO.out
     clear HST HGO;clear h2
     go_wp2_with fail
     go_quiet (fail)
     have Q8:Hid _:=Q3.below (below_drewN (Below.refl _ _) nq);clear Q3 p0 p1 x0 x1 r1 r2;generalize wr.drewN nq=W8 at*;obtain⟨p0,p1⟩:=za2 Q8.p;obtain⟨x0,x1⟩:=za2 Q8.x;obtain⟨r1,r2⟩:=HRC.out _ Q8.b
     go_wp2_with fail
     go_quiet (fail)
     have Q9:Hid _:=Q8.below (below_drewN (Below.refl _ _) nq);clear Q8 p0 p1 x0 x1 r1 r2;generalize W8.drewN nq=W9 at*;obtain⟨p0,p1⟩:=za2 Q9.p;obtain⟨x0,x1⟩:=za2 Q9.x;obtain⟨r1,r2⟩:=HRC.out _ Q9.b;go_wp2;go_roundw
     case rel=>exact⟨k+1,_,_,_,by omega,by first|rfl|go_num,rfl,HNX.out,Q9.out⟩
     case measure=>simp[intOf];omega
    ·skip
     have HNX:Hid _:=HGO.out _ _ (ym0 (by rw[hrV.out];simp only;omega));have g2:(xv !=rv)=true:=by simp;omega
     have HKO2:Hid (o.length=ko):=by show _=_;exact HKO.out
     clear HST HGO;clear h2
     go_wp2_with fail
     go_quiet (fail)
     have Q8:Hid _:=Q3.below (below_drewN (Below.refl _ _) nq);clear Q3 p0 p1 x0 x1 r1 r2;generalize wr.drewN nq=W8 at*;obtain⟨p0,p1⟩:=za2 Q8.p;obtain⟨x0,x1⟩:=za2 Q8.x;obtain⟨r1,r2⟩:=HRC.out _ Q8.b
     go_wp2_with fail
     go_quiet (fail)
     have Q9:Hid _:=Q8.below (below_drewN (Below.refl _ _) nq);clear Q8 p0 p1 x0 x1 r1 r2;generalize W8.drewN nq=W9 at*;obtain⟨p0,p1⟩:=za2 Q9.p;obtain⟨x0,x1⟩:=za2 Q9.x;obtain⟨r1,r2⟩:=HRC.out _ Q9.b;have kS:=And.intro (za2 Q9.o).1 (And.intro p0 (And.intro r1 r2))
     go_wp2_with fail
     refine zj5 (S:=(fun W=>W.cell? ⟨kb,0,none⟩=some rs/\W.cell? ⟨w.heap.size,0,none⟩=some (.slice (some ⟨b,off,none⟩) n rc)/\W.cell? ⟨b,off+k*2,none⟩=some (.int .i64 xv)/\W.cell? ⟨b,off+k*2+1,none⟩=some (.slice xa y xc))) 10 (by kernel_rfl) ?_ (fun hHeld=> ?_)
     ·exact kS
     have Q1:Hid _:=Q9.below (Below.refl _ _).drew;clear Q9 p0 p1 r1 r2 x0 x1 kS;generalize W9.drew=W1 at*;have QA:Hid (SQ w (W1.alloc (.cells #[.int .i64 xv,.slice xa y xc] 43)) kb (.slice (some ⟨b,off,none⟩) n rc) (.slice (some ⟨bl,ol,none⟩) m lc) (.int .i64 rv) (.slice (some ⟨br,or,none⟩) q cr) rs (.slice (some ⟨gl,0,none⟩) m cl) o L):=Q1.below ((Below.refl _ _).alloc (Nat.le_refl _) _);obtain⟨o0,o1⟩:=za2 Q1.o;obtain⟨oa0,oa1⟩:=za2 QA.o;have kSa:(fun W=>W.cell? ⟨kb,0,none⟩=some rs/\W.cell? ⟨w.heap.size,0,none⟩=some (.slice (some ⟨b,off,none⟩) n rc)/\W.cell? ⟨b,off+k*2,none⟩=some (.int .i64 xv)/\W.cell? ⟨b,off+k*2+1,none⟩=some (.slice xa y xc)) (W1.alloc (.cells #[.int .i64 xv,.slice xa y xc] 43)):=⟨oa0,(za2 QA.p).1,HRC.out _ QA.b⟩;refine tkZ 0 hHeld ?_;refine tkZ 1 hHeld ?_;refine tkZ 2 hHeld ?_;refine tkZ 3 hHeld ?_;refine tkZ 4 hHeld ?_;refine tkZ 5 hHeld ?_;refine tkZ 6 hHeld ?_;refine zd0 (rs:=[7]) (by kernel_rfl) (by simp) ?_;refine zc0.cons rfl (fun K hK=> ?_) zc0.nil;go_simp;refine hK.out _ _ ?_ (fun hHeld=> ?_)
     ·exact kSa
     clear hK K;refine zd0 (rs:=[8]) (by kernel_rfl) (by simp) ?_;refine zc0.cons rfl (fun K hK=> ?_) zc0.nil;refine zc9 Tryz.underlying31 zk4 (by rfl) (by omega) rfl (.tmp 53) (.tmp 59) rfl (w.heap.size+3) rs (ko) (zg9 o) rfl (by have:=QA.r;rw[HKO2.out]at this;exact this) W1.heap.size 0 1 1 [.int .i64 xv,.slice xa y xc] rfl rfl (zd8 _ _ _ _ _ rfl) (by simp[Value.oneCell']) (by omega) (by omega) (by have:=za3 Q1.a;simp;omega) ?_;intro v' w4 ho hg hbk hn4;rcases own_kinds ho with⟨_,e0⟩|⟨g4,c4,e4,-,-⟩
     ·omega
     subst e4;have Q5:Hid _:=QA.more ⟨xv,xa,xids,xc⟩ HY.out HKO2.out hg ho;have X4:=QA.moreO hg;have kS4:(fun W=>W.cell? ⟨kb,0,none⟩=some rs/\W.cell? ⟨w.heap.size,0,none⟩=some (.slice (some ⟨b,off,none⟩) n rc)/\W.cell? ⟨b,off+k*2,none⟩=some (.int .i64 xv)/\W.cell? ⟨b,off+k*2+1,none⟩=some (.slice xa y xc)) w4:=⟨(za2 X4.2.1).1,X4.1,HRC.out _ X4.2.2⟩;obtain⟨x4,y4⟩:=za2 X4.2.1;have xf:=fun i=>frozen_of_row _ _ i _ _ X4.2.1;clear ho hg hbk hn4 X4;refine hK.out _ _ ?_ (fun hHeld=> ?_)
     ·exact kS4
     clear hK K;change zi6 _ _ _ _ _ _ _ _ (Act.put _ (some 60) _) _;simp only[Act.put,List.setIfInBounds_toArray,List.set_cons_zero,List.set_cons_succ];refine tkZ 9 hHeld ?_;refine zd0 (rs:=[10]) (by kernel_rfl) (by simp) ?_;refine zc0.last rfl (fun K hK=> ?_);go_simp;refine hK.out _ _ ?_;clear hK K;refine zq0 (by kernel_rfl) ?_ _;clear hHeld xf x4 y4 kS4 kSa oa0 oa1 o0 o1 QA Q1;generalize w4.setCell ⟨kb,0,none⟩ (.slice (some ⟨g4,0,none⟩) (ko+1) c4)=W5 at*;go_wp2;go_roundw
     case rel=>exact⟨k+1,_,_,_,by omega,by first|rfl|go_num,rfl,HNX.out,Q5.out⟩
     case measure=>simp[intOf];omega
  ·have hkI:¬((k:Int)<(n:Int)):=by omega
   have hke:k=n:=by omega
   obtain⟨o0,o1⟩:=za2 Q3.o;have of:=fun i=>frozen_of_row _ _ i _ _ Q3.o;cases d
   ·have HSL:Hid (setL R r=o++[r]):=by
     show _=_;have h:=HST.out;rw[hke,<-HN.out]at h;unfold setL;rw[h];rfl
    clear hke HST
    go_wp2_with(first
     |(at_builtin
       go_must(refine zi1 Tryz.underlying31 zk4 (by rfl) (by omega) _ rfl (.tmp 65) (.tmp 67) rfl (w.heap.size+3) rs ko (zg9 o) rfl (by have:=(Q3.below ((Below.refl _ _).alloc (Nat.le_refl _) (.cells #[.int .i64 rv,.slice (some ⟨br,or,none⟩) q cr] 43))).r;rw[HKO.out]at this;exact this) wr.heap.size 0 1 1 [.int .i64 rv,.slice (some ⟨br,or,none⟩) q cr] rfl rfl (zd8 _ _ _ _ _ rfl) (by simp[Value.oneCell']) (by omega) (by omega) (by have:=za3 Q3.a;simp;omega) ?_)
       intro v' w6 ho hg hbk hn6;rcases own_kinds ho with⟨_,e0⟩|⟨g6,c6,e6,-,-⟩
       ·omega
       subst e6;have QA:SQ w (wr.alloc (.cells #[.int .i64 rv,.slice (some ⟨br,or,none⟩) q cr] 43)) kb (.slice ra n rc) (.slice (some ⟨bl,ol,none⟩) m lc) (.int .i64 rv) (.slice (some ⟨br,or,none⟩) q cr) rs (.slice (some ⟨gl,0,none⟩) m cl) o L:=Q3.below ((Below.refl _ _).alloc (Nat.le_refl _) _);have Q6:Hid (SQ w (w6.setCell ⟨kb,0,none⟩ (.slice (some ⟨g6,0,none⟩) (ko+1) c6)) kb (.slice ra n rc) (.slice (some ⟨bl,ol,none⟩) m lc) (.int .i64 rv) (.slice (some ⟨br,or,none⟩) q cr) (.slice (some ⟨g6,0,none⟩) (ko+1) c6) (.slice (some ⟨gl,0,none⟩) m cl) (o++[r]) L):=by
        rw[<-HRR.out];exact QA.more ⟨rv,some ⟨br,or,none⟩,rids,cr⟩ HQ.out HKO.out hg ho
       have X4:=QA.moreO hg;obtain⟨x4,y4⟩:=za2 X4.2.1;have xf:=fun i=>frozen_of_row _ _ i _ _ X4.2.1;clear ho hg hbk hn6 X4 QA;obtain⟨z0,z1⟩:=za2 Q6.o;have HKO2:Hid ((o++[r]).length=(ko+1)):=by show _=_;rw[List.length_append,HKO.out];rfl
       have HOM:Hid ((∀x∈(o++[r]),x∈R∨x=r)):=fun x hx=>(List.mem_append.1 hx).elim (HOL.1 x) (fun h=>.inr (by simpa using h))
       have HAT:Hid (za6 (w6.setCell ⟨kb,0,none⟩ (.slice (some ⟨g6,0,none⟩) (ko+1) c6)) (some ⟨g6,0,none⟩) (o++[r])):=SQ.at (o:=(o++[r])) (r:=r) (R:=R) (by rw[HKO2.out];exact Q6.out) HR.out (by rw[<-HRR.out];exact HX.out) HOM.out;have C:=zo5 (some ⟨g6,0,none⟩) gl 0 c6 cl (o++[r]) L (w6.setCell ⟨kb,0,none⟩ (.slice (some ⟨g6,0,none⟩) (ko+1) c6)) HAT.out (zd2 (by have:=Q6.l;rw[HM.out]at this;exact this)) (by rw[HKO2.out];omega) (fun x hx=>(HOM.out x hx).elim (HI.out x) (fun h=>by rw[h,<-HRR.out];exact HRI.out)) (by rw[HM.out];omega);rw[HKO2.out,HM.out]at C)
     |(go_at_call 48
       go_must(refine C.mono ?_)
       rintro e w5 ⟨ra5,rc5,gl5,lc5,S5,rfl,hb5,hk5,ho5⟩;have AR:=za1 hb5 (za3 Q6.a) Q6.a;obtain⟨a0,a1⟩:=za2 AR;have af:=fun i=>frozen_of_row _ _ i _ _ AR;have hl5:S5.length=(o++[r]).length:=by have:=congrArg List.length hk5;simpa using this
       have B5:Hid _:=Q6.b.trans (hb5.mono Q6.b.size);have O5:Hid (PO w5 (w.heap.size+3) (.slice ra5 S5.length rc5) S5 (.slice (some ⟨gl5,0,none⟩) L.length lc5) L):=by
        rw[hl5];exact ho5.base (by have:=za3 Q6.a;omega)
       have HK5:Hid (S5.map RT.key=(setL R r).map RT.key):=by show _=_;rw[HSL.out];exact hk5
       have HL5:Hid _:=hl5.trans HKO2.out;rw[HKO2.out,HM.out];clear hb5 hk5 ho5 hl5 AR))
    refine bodyPost_ret (v:=.agg #[.slice ra5 (ko+1) rc5,.slice (some ⟨gl5,0,none⟩) m lc5]) (by simp[results,Tryz.results69,go_sem,a0,a1]) rfl ⟨ra5,rc5,gl5,lc5,S5,by rw[HL5.out,HM.out],?_,HK5.out,?_⟩
    ·repeat(first|with_reducible exact B5.out|refine Below.setCell ?_ (by simp<;>omega) _)
    ·refine PO.base (base:=w.heap.size+3) ?_ (by omega)
     repeat(first|with_reducible exact O5.out|refine PO.set ?_ (by omega))
   ·have HSL:Hid (setL R r=o):=by
     show _=_;have h:=HST.out;rw[hke,<-HN.out]at h;unfold setL;rw[h];rfl
    clear hke HST;obtain⟨ga,ca,e⟩:∃ga ca,rs=.slice ga ko ca:=by
     rcases own_kinds Q3.r with⟨e,h0⟩|⟨g,c,e,_,_⟩
     ·exact⟨none,0,by rw[e,<-HKO.out,h0]⟩
     ·exact⟨_,c,by rw[e,HKO.out]⟩
    subst e;have HKO2:Hid (o.length=ko):=by show _=_;exact HKO.out
    have HOM:Hid _:=HOL.1;have HAT:Hid (za6 wr ga o):=SQ.at (o:=o) (r:=r) (R:=R) (by rw[HKO2.out];exact Q3.out) HR.out (by rw[<-HRR.out];exact HX.out) HOM.out;have C:=zo5 ga gl 0 ca cl o L wr HAT.out (zd2 (by have:=Q3.l;rw[HM.out]at this;exact this)) (by rw[HKO2.out];omega) (fun x hx=>(HOM.out x hx).elim (HI.out x) (fun h=>by rw[h,<-HRR.out];exact HRI.out)) (by rw[HM.out];omega);rw[HKO2.out,HM.out]at C
    go_wp2_with(first
     |(go_at_call 48
       go_must(refine C.mono ?_)
       rintro e w5 ⟨ra5,rc5,gl5,lc5,S5,rfl,hb5,hk5,ho5⟩;have AR:=za1 hb5 (za3 Q3.a) Q3.a;obtain⟨a0,a1⟩:=za2 AR;have af:=fun i=>frozen_of_row _ _ i _ _ AR;have hl5:S5.length=o.length:=by have:=congrArg List.length hk5;simpa using this
       have B5:Hid _:=Q3.b.trans (hb5.mono Q3.b.size);have O5:Hid (PO w5 (w.heap.size+3) (.slice ra5 S5.length rc5) S5 (.slice (some ⟨gl5,0,none⟩) L.length lc5) L):=by
        rw[hl5];exact ho5.base (by have:=za3 Q3.a;omega)
       have HK5:Hid (S5.map RT.key=(setL R r).map RT.key):=by show _=_;rw[HSL.out];exact hk5
       have HL5:Hid _:=hl5.trans HKO2.out;rw[HKO2.out,HM.out];clear hb5 hk5 ho5 hl5 AR))
    refine bodyPost_ret (v:=.agg #[.slice ra5 ko rc5,.slice (some ⟨gl5,0,none⟩) m lc5]) (by simp[results,Tryz.results69,go_sem,a0,a1]) rfl ⟨ra5,rc5,gl5,lc5,S5,by rw[HL5.out,HM.out],?_,HK5.out,?_⟩
    ·repeat(first|with_reducible exact B5.out|refine Below.setCell ?_ (by simp<;>omega) _)
    ·refine PO.base (base:=w.heap.size+3) ?_ (by omega)
     repeat(first|with_reducible exact O5.out|refine PO.set ?_ (by omega))
end Go.Proofs.YtjobhigmdaiinaaGreat
