import Derived.Test.YtdbdmlabfbmjfaaGreatPack1
import Derived.Test.YtdbdmlabfbmjfaaGreatPack2
import Derived.Test.YtdbdmlabfbmjfaaGreatPack3
import Derived.Test.YtdbdmlabfbmjfaaGreatPack7
import Derived.Test.YtdbdmlabfbmjfaaGreatKinTail
import Derived.Test.YtdbdmlabfbmjfaaGreatPack13
import Derived.Test.YtdbdmlabfbmjfaaGreatPack34
import Derived.Test.YtdbdmlabfbmjfaaGreatPack40
import Derived.Test.YtdbdmlabfbmjfaaGreatPack41
import Derived.Test.YtdbdmlabfbmjfaaGreatPack43
import Derived.Test.YtdbdmlabfbmjfaaGreatImplPicked
import Derived.Deep.RegionHeld3
import Derived.Deep.CutRange
namespace Go.Proofs.YtdbdmlabfbmjfaaGreat
open Go.RowKit
def DestOk (n fine : Int) (zs os vs : List Int) (ko kv : Nat) (S P : List Int) (last : Int) (ra : Option Addr) (nR rc : Nat) (la : Option Addr) (l lc : Nat) (R : List RT) (L : List Int) (w : World) (e : Ending) (w' : World) : Prop :=
 Below w.heap.size w w' ∧
 ((planV n zs os vs ko kv fine (lvF S P R L P.length).1 (lvF S P R L P.length).2 = 0 /\ ∃ (ra2 : Option Addr) (n2 rc2 : Nat) (la2 : Option Addr) (l2 lc2 : Nat) (R2 : List RT) (L2 : List Int), e = .returned (.tuple #[.agg #[.slice ra2 n2 rc2, .slice la2 l2 lc2], .int .i64 last, .bool true]) /\ RoutesAt w' ra2 R2 /\ R2.length = n2 /\ IntsAt w' la2 L2 /\ L2.length = l2 /\ R2.map RT.key = (lvF S P R L P.length).1.map RT.key /\ L2 = (lvF S P R L P.length).2 /\ LvI S P L.length P.length R2 L2 /\ ((la2 = none /\ l2 = 0) ∨ ∃ b off, la2 = some ⟨b, off, none⟩)) ∨
  (planV n zs os vs ko kv fine (lvF S P R L P.length).1 (lvF S P R L P.length).2 ≠ 0 /\ e = .returned (.tuple #[.agg #[.slice ra nR rc, .slice la l lc], .int .i64 last, .bool false])))
theorem flat_len : ∀ (R : List RT), (∀ r ∈ R, r.ids.length <= 12) -> (R.flatMap RT.ids).length <= 12 * R.length
 | [], _ => by simp
 | r :: R, h => by
   have h1 := h r (List.mem_cons_self ..)
   have h2 := flat_len R (fun x hx => h x (List.mem_cons_of_mem _ hx))
   rw [List.flatMap_cons, List.length_append, List.length_cons]
   omega
set_option maxHeartbeats 8000000 in
set_option maxRecDepth 20000 in
theorem destroying_any (n fine seed kk : Int) (a ao av ra la : Option Addr) (zl cap ko co kv cv nR rc l lc kb cb : Nat) (zs os vs : List Int) (R : List RT) (L S P : List Int) (N m : Nat) (K last : Int) (w : World) (hA : IntsAt w a zs) (hzl : zs.length = zl) (hO : IntsAt w ao os) (hV : IntsAt w av vs) (hlo : os.length = ko * 6) (hlv : vs.length = kv * 5) (hko : ko <= 9223372036854775807) (hkv : kv <= 9223372036854775807) (hcB : caseB n zs os vs ko kv fine = true)
   (hR : RoutesAt w ra R) (hn : R.length = nR) (hL : IntsAt w la L) (hl : L.length = l) (h12 : l + N <= 12) (hfr : (ra = none /\ R.length = 0) ∨ ∃ b off, ra = some ⟨b, off, none⟩) (hfl : (la = none /\ l = 0) ∨ ∃ b off, la = some ⟨b, off, none⟩) (hc : ∀ r ∈ R, r.ids.length <= r.c)
   (hS : srtS (allTo R R.length) = S) (hN : S.length = N) (hK : min kk (N : Int) = K) (hP : pickV seed N K = P) (hm : P.length = m) (hla : pickS seed N K = last) (hI : LvI S P L.length 0 R L) (hd : ∀ i j, i < j -> j < P.length -> pkd S P i ≠ pkd S P j) (hp : ∀ i, i < m -> 0 <= P.getD i 0 /\ P.getD i 0 < N) (hmN : m <= N)
   (hwl : ∀ x ∈ (lvF S P R L m).2, (Lit.int .i64 x).wf = true) (hkb : w.cell? ⟨kb, 0, none⟩ = some (.int .i64 kk)) (hcb : w.heap[cb]? = some (.cells #[.int .i64 n, .slice a zl cap, .slice ao ko co, .slice av kv cv, .int .i64 fine] 30 (0, 0))) :
   Calls Tryz.prog 44 #[.agg #[.slice ra nR rc, .slice la l lc], .int .i64 seed, .pointer (some ⟨kb, 0, none⟩), .pointer (some ⟨cb, 0, none⟩)] w (DestOk n fine zs os vs ko kv S P last ra nR rc la l lc R L w) := by
 have B0 : Hid (Below w.heap.size w ((w.alloc (.cells #[.slice ra nR rc, .slice la l lc] 33)).alloc (.cells #[.slice none 0 0, .slice none 0 0] 33))) := ((Below.refl _ _).alloc (Nat.le_refl _) _).alloc (by simp) _
 have P0 : Hid (((w.alloc (.cells #[.slice ra nR rc, .slice la l lc] 33)).alloc (.cells #[.slice none 0 0, .slice none 0 0] 33)).heap[w.heap.size]? = some (.cells #[.slice ra nR rc, .slice la l lc] 33 (0, 0))) := heap_alloc2_old _ _ _
 have Q0 : Hid (((w.alloc (.cells #[.slice ra nR rc, .slice la l lc] 33)).alloc (.cells #[.slice none 0 0, .slice none 0 0] 33)).heap[w.heap.size + 1]? = some (.cells #[.slice none 0 0, .slice none 0 0] 33 (0, 0))) := heap_alloc2_new _ _ _
 have HA : Hid (IntsAt w a zs) := hA
 have HO : Hid (IntsAt w ao os) := hO
 have HV : Hid (IntsAt w av vs) := hV
 have HR : Hid (RoutesAt w ra R) := hR
 have HL : Hid (IntsAt w la L) := hL
 have HI : Hid (LvI S P L.length 0 R L) := hI
 have HD : Hid (∀ i j, i < j -> j < P.length -> pkd S P i ≠ pkd S P j) := hd
 have HP : Hid (∀ i, i < m -> 0 <= P.getD i 0 /\ P.getD i 0 < N) := hp
 have HC : Hid (∀ r ∈ R, r.ids.length <= r.c) := hc
 have HFR : Hid ((ra = none /\ R.length = 0) ∨ ∃ b off, ra = some ⟨b, off, none⟩) := hfr
 have HFL : Hid ((la = none /\ l = 0) ∨ ∃ b off, la = some ⟨b, off, none⟩) := hfl
 have HWL : Hid (∀ x ∈ (lvF S P R L m).2, (Lit.int .i64 x).wf = true) := hwl
 have HM : Hid (P.length = m) := hm
 have HNN : Hid (S.length = N) := hN
 have HRN : Hid (R.length = nR) := hn
 have HLN : Hid (L.length = l) := hl
 have HKB : Hid (w.cell? ⟨kb, 0, none⟩ = some (.int .i64 kk)) := hkb
 have HCB : Hid (w.heap[cb]? = some (.cells #[.int .i64 n, .slice a zl cap, .slice ao ko co, .slice av kv cv, .int .i64 fine] 30 (0, 0))) := hcb
 have SB : Hid (∀ W, Below w.heap.size w W -> Calls Tryz.prog 32 #[.agg #[.slice ra nR rc, .slice la l lc]] W fun e w' => ∃ sl, e = .returned sl /\ Below W.heap.size W w' /\ w'.ownsRow W.heap.size 2 1 sl N (S.map (Value.int .i64))) := fun W hW => by
   have hlen : (allTo R R.length).length <= 12 := by rw [<- srtS_len, hS, hN]; omega
   have h := servedBy_any ra la rc l lc R W (HR.out.below hW) (by have := HI.out.ln; omega) (fun j hj => HI.out.ne _ (getD_mem hj)) HI.out.nd hlen
   rw [hS, hN, hn] at h
   exact h
 have PK : Hid (∀ W, Calls Tryz.prog 45 #[.int .i64 seed, .int .i64 N, .int .i64 K] W fun e w' => ∃ sl, e = .returned (.tuple #[sl, .int .i64 last]) /\ Below W.heap.size W w' /\ w'.ownsRow W.heap.size 2 1 sl m (P.map (Value.int .i64))) := fun W => by
   have h := implPicked_any seed N K W
   rw [hla, hP, hm] at h
   refine h.mono ?_
   rintro e w' ⟨sl, he, hb, _, ho⟩
   exact ⟨sl, he, hb, ho⟩
 have PCD : Hid (∀ W (ra2 la2 : Option Addr) (n2 rc2 l2 lc2 : Nat) (R2 : List RT) (L2 : List Int), Below w.heap.size w W -> RoutesAt W ra2 R2 -> R2.length = n2 -> IntsAt W la2 L2 -> L2.length = l2 -> LvI S P L.length m R2 L2 -> R2.map RT.key = (lvF S P R L m).1.map RT.key -> L2 = (lvF S P R L m).2 -> (∀ r ∈ R2, r.ids.length <= r.c) -> Calls Tryz.prog 34 #[.agg #[.int .i64 n, .slice a zl cap, .slice ao ko co, .slice av kv cv, .int .i64 fine], .agg #[.slice ra2 n2 rc2, .slice la2 l2 lc2]] W fun e w' => e = .returned (.int .i64 (planV n zs os vs ko kv fine (lvF S P R L m).1 (lvF S P R L m).2)) /\ Below W.heap.size W w') := fun W ra2 la2 n2 rc2 l2 lc2 R2 L2 hW h1 h2 h3 h4 h5 h6 h7 h8 => by
   have hal : (allTo R2 R2.length).length <= 1048576 := by
     rw [allTo_flat]
     have := flat_len R2 h5.sm
     have := h5.ln
     omega
   have h := planCode_any n fine a ao av ra2 la2 cap ko co kv cv rc2 lc2 zs os vs L2 R2 W (HA.out.below hW) (HO.out.below hW) (HV.out.below hW) h1 h3 hlo hlv hko hkv (by have := h5.ln; omega) (fun r hr => by have := h5.sm r hr; omega) h8 (by rw [h5.ll]; omega) hal (by rw [h7]; exact HWL.out) hcB
   rw [hzl, h2, h4, planV_key L2 h6] at h
   rw [<- h7]
   exact h
 clear hA hO hV hlo hlv hko hkv hcB hR hn hL hl hfr hfl hc hS hN hP hm hla hI hd hp hwl hkb hcb hzl
 generalize hF : lvF S P R L m = F at PCD HWL
 have HF : Hid (lvF S P R L m = F) := hF
 clear hF HWL
 obtain ⟨pv, HPV⟩ : ∃ v, Hid (planV n zs os vs ko kv fine F.1 F.2 = v) := ⟨_, rfl⟩
 rw [HPV.out] at PCD
 obtain ⟨p1, p2⟩ := cells2 P0.out
 go_enter Tryz.func44, Tryz.ntmps44
 go_wp2_with fail
 clear p1 p2
 generalize (w.alloc (.cells #[.slice ra nR rc, .slice la l lc] 33)).alloc (.cells #[.slice none 0 0, .slice none 0 0] 33) = W0 at *
 obtain ⟨q, HQ⟩ : ∃ v, Hid (w.heap.size = v) := ⟨_, rfl⟩
 obtain ⟨q1, HQ1⟩ : ∃ v, Hid (w.heap.size + 1 = v) := ⟨_, rfl⟩
 rw [HQ1.out] at Q0 ⊢
 rw [HQ.out] at P0
 try rw [HQ.out]
 refine (SB.out W0 B0.out).mono ?_
 rintro e w1 ⟨sl, rfl, hb, ho⟩
 obtain ⟨sa, sc, hsl⟩ := own_formL ho
 subst hsl
 have B1 : Hid (Below w.heap.size w w1) := B0.out.trans (hb.mono B0.out.size)
 have P1 : Hid (w1.heap[q]? = some (.cells #[.slice ra nR rc, .slice la l lc] 33 (0, 0))) := below_row hb (row_lt P0.out) P0.out
 have Q1 : Hid (w1.heap[q1]? = some (.cells #[.slice none 0 0, .slice none 0 0] 33 (0, 0))) := below_row hb (row_lt Q0.out) Q0.out
 have S1 : Hid (IntsAt w1 sa S) := ints_ownL ho
 clear hb ho B0 P0 Q0 SB
 have kc := keepL HKB.out B1.out
 go_wp2_with fail
 clear kc
 refine (PK.out w1).mono ?_
 rintro e w2 ⟨sl2, rfl, hb, ho⟩
 obtain ⟨pa, pc, hsl⟩ := own_formL ho
 subst hsl
 have B2 : Hid (Below w.heap.size w w2) := B1.out.trans (hb.mono B1.out.size)
 have P2 : Hid (w2.heap[q]? = some (.cells #[.slice ra nR rc, .slice la l lc] 33 (0, 0))) := below_row hb (row_lt P1.out) P1.out
 have Q2 : Hid (w2.heap[q1]? = some (.cells #[.slice none 0 0, .slice none 0 0] 33 (0, 0))) := below_row hb (row_lt Q1.out) Q1.out
 have S2 : Hid (IntsAt w2 sa S) := S1.out.below hb
 have O2 : Hid (IntsAt w2 pa P) := ints_ownL ho
 clear hb ho B1 P1 Q1 S1 PK
 have D3 : Hid (DL w2 (w2.alloc (.cells #[.slice ra nR rc, .slice la l lc] 33)) S P R L 0 ra nR rc la l lc R L) := by
   have h2 : Below w2.heap.size w2 (w2.alloc (.cells #[.slice ra nR rc, .slice la l lc] 33)) := (Below.refl _ _).alloc (Nat.le_refl _) _
   have hw := B2.out.trans (h2.mono B2.out.size)
   exact ⟨h2, heap_alloc_new _ _, HR.out.below hw, HRN.out, HL.out.below hw, HLN.out, HI.out, rfl, rfl, HFR.out, HFL.out, HC.out⟩
 obtain ⟨p1, p2⟩ := cells2 P2.out
 go_wp2_with fail
 clear p1 p2
 generalize w2.alloc (.cells #[.slice ra nR rc, .slice la l lc] 33) = W3 at *
 go_loopw [32] (fun t wr => ∃ (i : Nat) (ra2 : Option Addr) (n2 rc2 : Nat) (la2 : Option Addr) (l2 lc2 : Nat) (R2 : List RT) (L2 : List Int), i <= m /\ t = .int .i64 i /\ DL w2 wr S P R L i ra2 n2 rc2 la2 l2 lc2 R2 L2) (fun t _ => m - (intOf t).toNat)
 case atStart => exact ⟨0, ra, nR, rc, la, l, lc, R, L, Nat.zero_le _, rfl, D3.out⟩
 case round =>
   clear D3
   obtain ⟨i, ra2, n2, rc2, la2, l2, lc2, R2, L2, hi, rfl, hD⟩ := hrel
   have DR : Hid (DL w2 wr S P R L i ra2 n2 rc2 la2 l2 lc2 R2 L2) := hD
   clear hD
   by_cases hlt : i < m
   · have hltI : (i : Int) < (m : Int) := by omega
     obtain ⟨pk, hpk⟩ := Int.eq_ofNat_of_zero_le (HP.out i hlt).1
     have HPK : Hid (P.getD i 0 = (pk : Int)) := hpk
     have hpN : pk < N := by have := (HP.out i hlt).2; omega
     clear hpk
     obtain ⟨bp, op, hpa, hc1⟩ := (O2.out.below DR.out.b) i (by rw [HM.out]; exact hlt)
     obtain ⟨bs, os2, hsa, hc2⟩ := (S2.out.below DR.out.b) pk (by rw [HNN.out]; exact hpN)
     subst hpa
     subst hsa
     rw [HPK.out] at hc1
     have HX : Hid (S.getD pk 0 = pkd S P i) := by show _ = _; unfold pkd; rw [HPK.out]; rfl
     rw [HX.out] at hc2
     obtain ⟨k, at_, hk, hno, hat, hin, hid⟩ := DR.out.iv.at (DR.out.iv.mm i (Nat.le_refl _) (by rw [HM.out]; exact hlt))
     have LV : Hid (∀ W, Below wr.heap.size wr W -> Calls Tryz.prog 46 #[.agg #[.slice ra2 n2 rc2, .slice la2 l2 lc2], .int .i64 (pkd S P i)] W (LeaveOk W R2 L2 (pkd S P i) (R2.getD k rt0) at_)) := fun W hW => by
       have D := DR.out.below hW
       have hll := D.iv.ll
       rw [HLN.out] at hll
       have hl2 := D.ln
       exact leaving_any ra2 la2 n2 rc2 l2 lc2 k R2 L2 (pkd S P i) W D.r D.rn (by have := D.iv.ln; have := D.rn; omega) D.iv.rs D.fr D.s D.ln (by omega) (upI_of_pair D.iv.up) D.fl (fun j hj => D.iv.sm _ (getD_mem hj)) hk hno at_ hat hin
     have STP : Hid (∀ W e w1, Below wr.heap.size wr W -> LeaveOk W R2 L2 (pkd S P i) (R2.getD k rt0) at_ e w1 -> ∃ (ra3 : Option Addr) (n3 rc3 : Nat) (la3 : Option Addr) (l3 lc3 : Nat) (R3 : List RT) (L3 : List Int), e = .returned (.agg #[.slice ra3 n3 rc3, .slice la3 l3 lc3]) /\ Below W.heap.size W w1 /\ DL w2 ((w1.setCell ⟨w2.heap.size, 0, none⟩ (.slice ra3 n3 rc3)).setCell ⟨w2.heap.size, 1, none⟩ (.slice la3 l3 lc3)) S P R L (i + 1) ra3 n3 rc3 la3 l3 lc3 R3 L3) := fun W e w1 hW ht => (DR.out.below hW).step HD.out (by rw [HM.out]; exact hlt) hk hin hid ht
     clear hk hno hat hin hid
     obtain ⟨x, HX2⟩ : ∃ v, Hid (pkd S P i = v) := ⟨_, rfl⟩
     rw [HX2.out] at hc2 LV STP
     obtain ⟨y0, y1⟩ := cells2 DR.out.x
     have z0 := fun s : Kin wr => s.cell y0
     have z1 := fun s : Kin wr => s.cell y1
     have z2 := fun s : Kin wr => s.cell hc2
     have hkin := Kin.there wr
     go_wp2_with fail
     refine wp_region_kin_tail 5 (by kernel_rfl) (by kernel_rfl) ?_
     simp only [List.take_succ_cons, List.take_zero, List.drop_succ_cons, List.drop_zero]
     repeat (go_big_quiet_step (fail))
     refine wpQuiet_nil ?_
     rintro _ ⟨s, rfl⟩
     clear z0 z1 z2 hkin y0 y1 hc1 hc2
     have BS : Hid (Below wr.heap.size wr s.w) := s.below
     generalize s.w = w5 at *
     go_wp2_with fail
     refine (LV.out w5 BS.out).mono ?_
     intro e w6 ht
     obtain ⟨ra3, n3, rc3, la3, l3, lc3, R3, L3, rfl, hb6, hD6⟩ := STP.out w5 e w6 BS.out ht
     have D6 : Hid (DL w2 ((w6.setCell ⟨w2.heap.size, 0, none⟩ (.slice ra3 n3 rc3)).setCell ⟨w2.heap.size, 1, none⟩ (.slice la3 l3 lc3)) S P R L (i + 1) ra3 n3 rc3 la3 l3 lc3 R3 L3) := hD6
     have X6 : Hid (w6.heap[w2.heap.size]? = some (.cells #[.slice ra2 n2 rc2, .slice la2 l2 lc2] 33 (0, 0))) := by
       have h5 := below_row BS.out (row_lt DR.out.x) DR.out.x
       exact below_row hb6 (row_lt h5) h5
     clear ht hb6 hD6 LV STP BS DR
     obtain ⟨y0, y1⟩ := cells2 X6.out
     have yf := fun i => frozen_of_row _ _ i _ _ X6.out
     go_wp2
     first
       | exact ⟨⟨i + 1, ra3, n3, rc3, la3, l3, lc3, R3, L3, by omega, by go_num, D6.out⟩, by simp [intOf]; omega⟩
       | (go_roundw
          case rel => exact ⟨i + 1, ra3, n3, rc3, la3, l3, lc3, R3, L3, by omega, by go_num, D6.out⟩
          case measure => simp [intOf]; omega)
   · have hie : i = m := by omega
     subst hie
     have hnl : ¬ ((i : Int) < (i : Int)) := by omega
     clear hlt
     have B5 : Hid (Below w.heap.size w wr) := B2.out.trans (DR.out.b.mono B2.out.size)
     obtain ⟨c0, c1, c2, c3, c4⟩ := cells5 (below_row B5.out (row_lt HCB.out) HCB.out)
     obtain ⟨y0, y1⟩ := cells2 DR.out.x
     have PC := PCD.out wr ra2 la2 n2 rc2 l2 lc2 R2 L2 B5.out DR.out.r DR.out.rn DR.out.s DR.out.ln DR.out.iv (by rw [<- HF.out]; exact DR.out.kr) (by rw [<- HF.out]; exact DR.out.kl) DR.out.c
     go_wp2_with fail
     clear c0 c1 c2 c3 c4 y0 y1
     refine PC.mono ?_
     rintro e w7 ⟨rfl, hb7⟩
     have D7 : Hid (DL w2 w7 S P R L i ra2 n2 rc2 la2 l2 lc2 R2 L2) := DR.out.below hb7
     have B7 : Hid (Below w.heap.size w w7) := B2.out.trans (D7.out.b.mono B2.out.size)
     have P7 : Hid (w7.heap[q]? = some (.cells #[.slice ra nR rc, .slice la l lc] 33 (0, 0))) := below_row D7.out.b (row_lt P2.out) P2.out
     have Q7 : Hid (w7.heap[q1]? = some (.cells #[.slice none 0 0, .slice none 0 0] 33 (0, 0))) := below_row D7.out.b (row_lt Q2.out) Q2.out
     have hqw : w.heap.size <= q1 := by have := HQ1.out; omega
     clear hb7 PC PCD DR B5 P2 Q2 S2 O2
     obtain ⟨v0, v1⟩ := cells2 Q7.out
     have vf := fun i => frozen_of_row _ _ i _ _ Q7.out
     by_cases hz : pv = 0
     · have hz1 : (pv != 0) = false := by rw [hz]; rfl
       have ROW : ((w7.setCell ⟨q1, 0, none⟩ (.slice ra2 n2 rc2)).setCell ⟨q1, 1, none⟩ (.slice la2 l2 lc2)).heap[q1]? = some (.cells #[.slice ra2 n2 rc2, .slice la2 l2 lc2] 33 (0, 0)) := by
         have := heap_setCell_same _ q1 1 _ _ (.slice la2 l2 lc2) (heap_setCell_same w7 q1 0 _ _ (.slice ra2 n2 rc2) Q7.out)
         simpa using this
       have TOLD : Hid (DestOk n fine zs os vs ko kv S P last ra nR rc la l lc R L w (.returned (.tuple #[.agg #[.slice ra2 n2 rc2, .slice la2 l2 lc2], .int .i64 last, .bool true])) ((w7.setCell ⟨q1, 0, none⟩ (.slice ra2 n2 rc2)).setCell ⟨q1, 1, none⟩ (.slice la2 l2 lc2))) := by
         have hx1 : (w7.setCell ⟨q1, 0, none⟩ (.slice ra2 n2 rc2)).heap[q1]? = some (.cells #[.slice ra2 n2 rc2, .slice none 0 0] 33 (0, 0)) := by
           have := heap_setCell_same w7 q1 0 _ _ (.slice ra2 n2 rc2) Q7.out
           simpa using this
         refine ⟨(B7.out.setCell hqw _).setCell hqw _, .inl ⟨by rw [HM.out, HF.out]; exact HPV.out.trans hz, ra2, n2, rc2, la2, l2, lc2, R2, L2, rfl, routes_boxL (routes_boxL D7.out.r Q7.out 0 _) hx1 1 _, D7.out.rn, ints_boxL (ints_boxL D7.out.s Q7.out 0 _) hx1 1 _, D7.out.ln, by rw [HM.out]; exact D7.out.kr, by rw [HM.out]; exact D7.out.kl, by rw [HM.out]; exact D7.out.iv, D7.out.fl⟩⟩
       obtain ⟨r0, r1⟩ := cells2 ROW
       obtain ⟨y0, y1⟩ := cells2 D7.out.x
       clear D7 B7 P7 Q7 ROW
       go_wp2
       exact bodyPost_ret (v := .tuple #[.agg #[.slice ra2 n2 rc2, .slice la2 l2 lc2], .int .i64 last, .bool true]) (by simp [results, Tryz.results44, go_sem, r0, r1]) rfl TOLD.out
     · have hz1 : (pv != 0) = true := by simp [hz]
       have ROW : ((w7.setCell ⟨q1, 0, none⟩ (.slice ra nR rc)).setCell ⟨q1, 1, none⟩ (.slice la l lc)).heap[q1]? = some (.cells #[.slice ra nR rc, .slice la l lc] 33 (0, 0)) := by
         have := heap_setCell_same _ q1 1 _ _ (.slice la l lc) (heap_setCell_same w7 q1 0 _ _ (.slice ra nR rc) Q7.out)
         simpa using this
       have TOLD : Hid (DestOk n fine zs os vs ko kv S P last ra nR rc la l lc R L w (.returned (.tuple #[.agg #[.slice ra nR rc, .slice la l lc], .int .i64 last, .bool false])) ((w7.setCell ⟨q1, 0, none⟩ (.slice ra nR rc)).setCell ⟨q1, 1, none⟩ (.slice la l lc))) :=
         ⟨(B7.out.setCell hqw _).setCell hqw _, .inr ⟨by rw [HM.out, HF.out, HPV.out]; exact hz, rfl⟩⟩
       obtain ⟨r0, r1⟩ := cells2 ROW
       obtain ⟨y0, y1⟩ := cells2 P7.out
       clear D7 B7 P7 Q7 ROW
       go_wp2
       exact bodyPost_ret (v := .tuple #[.agg #[.slice ra nR rc, .slice la l lc], .int .i64 last, .bool false]) (by simp [results, Tryz.results44, go_sem, r0, r1]) rfl TOLD.out
def DestIs (w : World) (v : Int) (f : Bool) (T : List RT) (L : List Int) (e : Ending) (w' : World) : Prop := ∃ (ra2 : Option Addr) (n2 rc2 : Nat) (la2 : Option Addr) (l2 lc2 : Nat) (R2 : List RT), e = .returned (.tuple #[.agg #[.slice ra2 n2 rc2, .slice la2 l2 lc2], .int .i64 v, .bool f]) /\ Below w.heap.size w w' /\ RoutesAt w' ra2 R2 /\ R2.length = n2 /\ IntsAt w' la2 L /\ L.length = l2 /\ R2.map RT.key = T.map RT.key /\ ((la2 = none /\ L.length = 0) ∨ ∃ b off, la2 = some ⟨b, off, none⟩)
theorem destroying_is (sd kk n fine : Int) (a ao av ra la : Option Addr) (zl cap ko co kv cv nr rc ln lc kb cb : Nat) (zs os vs L : List Int) (R : List RT) (w : World) (hA : IntsAt w a zs) (hO : IntsAt w ao os) (hV : IntsAt w av vs) (hlz : zs.length = zl) (hlo : os.length = ko * 6) (hlv : vs.length = kv * 5) (hko : ko <= 9223372036854775807) (hkv : kv <= 9223372036854775807) (hP : PlanIs w ra la nr ln R L) (hB : deB sd kk n fine zs os vs ko kv R L = true) (hkb : w.cell? ⟨kb, 0, none⟩ = some (.int .i64 kk)) (hcb : w.heap[cb]? = some (.cells #[.int .i64 n, .slice a zl cap, .slice ao ko co, .slice av kv cv, .int .i64 fine] 30 (0, 0))) :
   Calls Tryz.prog 44 #[.agg #[.slice ra nr rc, .slice la ln lc], .int .i64 sd, .pointer (some ⟨kb, 0, none⟩), .pointer (some ⟨cb, 0, none⟩)] w (DestIs w (deN sd kk n fine zs os vs ko kv R L) (deF sd kk n fine zs os vs ko kv R L) (deR sd kk n fine zs os vs ko kv R L) (deL sd kk n fine zs os vs ko kv R L)) := by
 obtain ⟨h1, h2, h3⟩ := deB_true hB
 have D := de_facts h1 h2 h3
 obtain ⟨p1, p2, p3, p4, p5, p6, p7⟩ := hP
 have DA := destroying_any n fine sd kk a ao av ra la zl cap ko co kv cv nr rc ln lc kb cb zs os vs R L (deS R) (deP sd kk R) (deS R).length (deP sd kk R).length (min kk ((deS R).length : Int)) (pickS sd (deS R).length (min kk ((deS R).length : Int))) w hA hlz hO hV hlo hlv hko hkv (planV_zero h1).1 p3 p1 p4 p2 (by have := D.t; omega) (by rw [p1]; exact p5) p6 p7 rfl rfl rfl rfl rfl rfl D.i D.d D.p D.m D.w hkb hcb
 refine DA.mono ?_
 unfold deN deF deR deL
 rw [hB]
 simp only [cond_true, Bool.true_and]
 rintro e w' ⟨hb, ⟨hz, ra2, n2, rc2, la2, l2, lc2, R2, L2, rfl, q1, q2, q3, q4, q5, q6, _, q8⟩ | ⟨hz, rfl⟩⟩
 · have hw : deW sd kk n fine zs os vs ko kv R L = 0 := hz
   have q6' : L2 = (deQ sd kk R L).2 := q6
   subst q6'
   rw [if_pos hw, if_pos hw, decide_eq_true hw]
   exact ⟨ra2, n2, rc2, la2, l2, lc2, R2, rfl, hb, q1, q2, q3, q4, q5, by rw [q4]; exact q8⟩
 · have hw : ¬ deW sd kk n fine zs os vs ko kv R L = 0 := hz
   rw [if_neg hw, if_neg hw, decide_eq_false hw]
   exact ⟨ra, nr, rc, la, ln, lc, R, rfl, hb, p3.below hb, p1, p4.below hb, p2, rfl, by rw [p2]; exact p6⟩
def SpecOkN (w : World) (v : Int) (f : Bool) (T : List RT) (L : List Int) (e : Ending) (w' : World) : Prop := ∃ ra rn rc la ln lc S, e = .returned (.tuple #[.agg #[.slice ra rn rc, .slice la ln lc], .int .i64 v, .bool f]) /\ Below w.heap.size w w' /\ S.length = rn /\ L.length = ln /\ S.map RT.key = T.map RT.key /\ PO w' w.heap.size (.slice ra rn rc) S (.slice la ln lc) L
theorem de_parts {sd kk n fine : Int} {zs os vs : List Int} {ko kv : Nat} {R : List RT} {L : List Int} (h : deB sd kk n fine zs os vs ko kv R L = true) : deN sd kk n fine zs os vs ko kv R L = pickS sd (deS R).length (min kk ((deS R).length : Int)) /\ (deW sd kk n fine zs os vs ko kv R L = 0 -> deF sd kk n fine zs os vs ko kv R L = true /\ deR sd kk n fine zs os vs ko kv R L = (deQ sd kk R L).1 /\ deL sd kk n fine zs os vs ko kv R L = (deQ sd kk R L).2) /\ (deW sd kk n fine zs os vs ko kv R L ≠ 0 -> deF sd kk n fine zs os vs ko kv R L = false /\ deR sd kk n fine zs os vs ko kv R L = R /\ deL sd kk n fine zs os vs ko kv R L = L) := by
 unfold deN deF deR deL
 rw [h]
 refine ⟨rfl, fun hw => ?_, fun hw => ?_⟩
 · simp [hw]
 · simp [hw]
set_option maxRecDepth 10000 in
set_option maxHeartbeats 8000000 in
theorem specDestroyed_any (sd kk n fine : Int) (a ao av ra la : Option Addr) (zl cap ko co kv cv nr rc ln lc : Nat) (zs os vs L : List Int) (R : List RT) (w : World) (hA : IntsAt w a zs) (hO : IntsAt w ao os) (hV : IntsAt w av vs) (hlz : zs.length = zl) (hlo : os.length = ko * 6) (hlv : vs.length = kv * 5) (hko : ko <= 9223372036854775807) (hkv : kv <= 9223372036854775807) (hP : PlanIs w ra (la) nr ln R L) (hn : nr <= 1048576) (hi : ∀ r ∈ R, r.ids.length <= 1048576) (hll : ln <= 1048576) (hal : (allTo R R.length).length <= 1048576) :
   Calls Tryz.prog 7 #[.agg #[.int .i64 n, .slice a zl cap, .slice ao ko co, .slice av kv cv, .int .i64 fine], .agg #[.slice ra nr rc, .slice (la) ln lc], .int .i64 sd, .int .i64 kk] w (SpecOkN w (deN sd kk n fine zs os vs ko kv R L) (deF sd kk n fine zs os vs ko kv R L) (deR sd kk n fine zs os vs ko kv R L) (deL sd kk n fine zs os vs ko kv R L)) := by
 have HA : Hid (IntsAt w a zs) := hA
 have HO : Hid (IntsAt w ao os) := hO
 have HV : Hid (IntsAt w av vs) := hV
 have HLZ : Hid (zs.length = zl) := hlz
 have HLO : Hid (os.length = ko * 6) := hlo
 have HLV : Hid (vs.length = kv * 5) := hlv
 have HP : Hid (PlanIs w ra (la) nr ln R L) := hP
 have HN : Hid (R.length = nr) := hP.1
 have HM : Hid (L.length = ln) := hP.2.1
 have HI : Hid (∀ r ∈ R, r.ids.length <= 1048576) := hi
 clear hA hO hV hlz hlo hlv hP hi
 obtain ⟨pv, HPV⟩ : ∃ v, Hid (planV n zs os vs ko kv fine R L = v) := ⟨_, rfl⟩
 obtain ⟨k1, HK1⟩ : ∃ v, Hid (inB kk 0 12 = v) := ⟨_, rfl⟩
 obtain ⟨s1, HS1⟩ : ∃ v, Hid (inB sd 0 2147483647 = v) := ⟨_, rfl⟩
 have HDB : Hid (deB sd kk n fine zs os vs ko kv R L = (decide (pv = 0) && (k1 && s1))) := by show _ = _; unfold deB; rw [HPV.out, HK1.out, HS1.out]
 have HNO : Hid (deB sd kk n fine zs os vs ko kv R L = false -> deN sd kk n fine zs os vs ko kv R L = -1 /\ deF sd kk n fine zs os vs ko kv R L = false /\ deR sd kk n fine zs os vs ko kv R L = [] /\ deL sd kk n fine zs os vs ko kv R L = []) := fun h => by
   unfold deN deF deR deL
   rw [h]
   exact ⟨rfl, rfl, rfl, rfl⟩
 have HYE : Hid (deB sd kk n fine zs os vs ko kv R L = true -> _) := fun h => de_parts h
 obtain ⟨GN, HGN⟩ : ∃ v, Hid (deN sd kk n fine zs os vs ko kv R L = v) := ⟨_, rfl⟩
 obtain ⟨GF, HGF⟩ : ∃ v, Hid (deF sd kk n fine zs os vs ko kv R L = v) := ⟨_, rfl⟩
 obtain ⟨GR, HGR⟩ : ∃ v, Hid (deR sd kk n fine zs os vs ko kv R L = v) := ⟨_, rfl⟩
 obtain ⟨GL, HGL⟩ : ∃ v, Hid (deL sd kk n fine zs os vs ko kv R L = v) := ⟨_, rfl⟩
 rw [HGN.out, HGF.out, HGR.out, HGL.out] at HNO HYE
 rw [HGN.out, HGF.out, HGR.out, HGL.out]
 clear HGN HGF HGR HGL
 have Q0 : Hid (GQ w (((w.alloc (.cells #[.int .i64 n, .slice a zl cap, .slice ao ko co, .slice av kv cv, .int .i64 fine] 30)).alloc (.cells #[.slice ra nr rc, .slice (la) ln lc] 33)).alloc (.cells #[.slice none 0 0, .slice none 0 0] 33)) #[.int .i64 n, .slice a zl cap, .slice ao ko co, .slice av kv cv, .int .i64 fine] #[.slice ra nr rc, .slice (la) ln lc]) := by
   refine ⟨(((Below.refl _ _).alloc (Nat.le_refl _) _).alloc (by simp) _).alloc (by simp; omega) _, ?_, ?_, ?_⟩
   · exact (heap_alloc_old _ _ (by simp; omega)).trans (heap_alloc2_old _ _ _)
   · exact (heap_alloc_old _ _ (by simp)).trans (heap_alloc2_new _ _ _)
   · have := heap_alloc_new ((w.alloc (.cells #[.int .i64 n, .slice a zl cap, .slice ao ko co, .slice av kv cv, .int .i64 fine] 30)).alloc (.cells #[.slice ra nr rc, .slice (la) ln lc] 33)) (.cells #[.slice none 0 0, .slice none 0 0] 33)
     simpa using this
 have PCA : Hid (∀ W, Below w.heap.size w W -> Calls Tryz.prog 21 #[.agg #[.int .i64 n, .slice a zl cap, .slice ao ko co, .slice av kv cv, .int .i64 fine], .agg #[.slice ra nr rc, .slice (la) ln lc]] W fun e w' => e = .returned (.int .i64 pv) /\ Below W.heap.size W w') := fun W hW => by
   have PC := specPlan_any n fine a ao av ra (la) cap ko co kv cv rc lc zs os vs L R W (HA.out.below hW) (HO.out.below hW) (HV.out.below hW) (HP.out.2.2.1.below hW) (HP.out.2.2.2.1.below hW) HLO.out HLV.out hko hkv (by rw [HN.out]; exact hn) HI.out HP.out.2.2.2.2.2.2 (by rw [HM.out]; exact hll) hal
   rw [HN.out, HM.out, HLZ.out, HPV.out] at PC
   exact PC
 obtain ⟨c0, c1, c2, c3, c4⟩ := cells5 Q0.out.c
 obtain ⟨p0, p1⟩ := cells2 Q0.out.p
 go_enter Tryz.func7, Tryz.ntmps7
 go_wp2_with fail
 generalize ((w.alloc (.cells #[.int .i64 n, .slice a zl cap, .slice ao ko co, .slice av kv cv, .int .i64 fine] 30)).alloc (.cells #[.slice ra nr rc, .slice (la) ln lc] 33)).alloc (.cells #[.slice none 0 0, .slice none 0 0] 33) = W0 at *
 refine (PCA.out W0 Q0.out.b).mono ?_
 rintro e w1 ⟨rfl, hb⟩
 have Q1 : Hid (GQ w w1 #[.int .i64 n, .slice a zl cap, .slice ao ko co, .slice av kv cv, .int .i64 fine] #[.slice ra nr rc, .slice (la) ln lc]) := Q0.out.below hb
 clear hb c0 c1 c2 c3 c4 p0 p1 Q0
 obtain ⟨a0, a1⟩ := cells2 Q1.out.o
 have af := fun i => frozen_of_row _ _ i _ _ Q1.out.o
 by_cases hpv : pv = 0
 · rw [decide_eq_true hpv, Bool.true_and] at HDB
   have hpn : (pv != 0) = false := by simp [hpv]
   cases k1
   · have B5 : Hid (Below w.heap.size w ((w1.setCell ⟨w.heap.size + 2, 0, none⟩ (.slice none 0 0)).setCell ⟨w.heap.size + 2, 1, none⟩ (.slice none 0 0))) := (Q1.out.b.setCell (by simp) _).setCell (by simp) _
     obtain ⟨g1, g2, g3, g4⟩ := HNO.out (by rw [HDB.out]; try rfl)
     subst g1 g2 g3 g4
     clear HNO
     go_wp2_with ((go_at_call 22; refine (l1In_any _ _ _ _).mono ?_; rintro e w' ⟨rfl, hw'⟩; subst w'; first | rw [HK1.out] | rw [HS1.out]))
     refine bodyPost_ret (v := .tuple #[.agg #[.slice none 0 0, .slice none 0 0], .int .i64 (-1), .bool false]) (by simp [results, Tryz.results7, go_sem, a0, a1]) rfl ?_
     show SpecOkN _ _ _ _ _ _ _
     exact ⟨none, 0, 0, none, 0, 0, [], rfl, B5.out, rfl, rfl, rfl, ⟨World.ownsRow_nil _ _ _ _, (fun s hs => by cases hs), World.ownsRow_nil _ _ _ _⟩⟩
   · cases s1
     · have B5 : Hid (Below w.heap.size w ((w1.setCell ⟨w.heap.size + 2, 0, none⟩ (.slice none 0 0)).setCell ⟨w.heap.size + 2, 1, none⟩ (.slice none 0 0))) := (Q1.out.b.setCell (by simp) _).setCell (by simp) _
       obtain ⟨g1, g2, g3, g4⟩ := HNO.out (by rw [HDB.out]; try rfl)
       subst g1 g2 g3 g4
       clear HNO
       go_wp2_with ((go_at_call 22; refine (l1In_any _ _ _ _).mono ?_; rintro e w' ⟨rfl, hw'⟩; subst w'; first | rw [HK1.out] | rw [HS1.out]))
       refine bodyPost_ret (v := .tuple #[.agg #[.slice none 0 0, .slice none 0 0], .int .i64 (-1), .bool false]) (by simp [results, Tryz.results7, go_sem, a0, a1]) rfl ?_
       show SpecOkN _ _ _ _ _ _ _
       exact ⟨none, 0, 0, none, 0, 0, [], rfl, B5.out, rfl, rfl, rfl, ⟨World.ownsRow_nil _ _ _ _, (fun s hs => by cases hs), World.ownsRow_nil _ _ _ _⟩⟩
     · have D0 := de_facts (sd := sd) (kk := kk) (HPV.out.trans hpv) HK1.out HS1.out
       have SV0 : ∀ W, Below w.heap.size w W -> _ := fun W hW => specServed_opt n fine a ao av ra (la) cap ko co kv cv rc lc zs os vs L R W (HP.out.2.2.1.below hW) (by rw [HN.out]; exact hn) HP.out.2.2.2.2.2.2 pv HPV.out (fun X hX => by rw [HLZ.out, HN.out, HM.out]; exact PCA.out X (hW.trans (hX.mono hW.size)))
       have hsv : servV n zs os vs ko kv fine R L = deS R := by unfold servV; rw [if_pos (HPV.out.trans hpv)]; rfl
       have HYS := HYE.out HDB.out
       have PLW : ∀ W (ra2 la2 : Option Addr) (n2 rc2 l2 lc2 : Nat) (R2 : List RT) (L2 : List Int), Below w.heap.size w W -> RoutesAt W ra2 R2 -> R2.length = n2 -> IntsAt W la2 L2 -> L2.length = l2 -> (∀ r ∈ R2, r.ids.length <= 12 /\ r.ids.length <= r.c) -> n2 <= 100 -> l2 <= 100 -> (allTo R2 R2.length).length <= 1048576 -> R2.map RT.key = (deQ sd kk R L).1.map RT.key -> L2 = (deQ sd kk R L).2 -> Calls Tryz.prog 21 #[.agg #[.int .i64 n, .slice a zl cap, .slice ao ko co, .slice av kv cv, .int .i64 fine], .agg #[.slice ra2 n2 rc2, .slice la2 l2 lc2]] W fun e w' => e = .returned (.int .i64 (deW sd kk n fine zs os vs ko kv R L)) /\ Below W.heap.size W w' := fun W ra2 la2 n2 rc2 l2 lc2 R2 L2 hW h1 h2 h3 h4 h5 h6 h7 h8 h9 h10 => by
         have PC := specPlan_any n fine a ao av ra2 la2 cap ko co kv cv rc2 lc2 zs os vs L2 R2 W (HA.out.below hW) (HO.out.below hW) (HV.out.below hW) h1 h3 HLO.out HLV.out hko hkv (by omega) (fun r hr => by have := (h5 r hr).1; omega) (fun r hr => (h5 r hr).2) (by omega) h8
         rw [h2, h4, HLZ.out, planV_key L2 h9, h10] at PC
         exact PC
       clear HNO HYE HDB PCA a0 a1 af
       have hQ : deQ sd kk R L = lvF (deS R) (deP sd kk R) R L (deP sd kk R).length := rfl
       have hPK : deP sd kk R = pickV sd (deS R).length (min kk ((deS R).length : Int)) := rfl
       obtain ⟨i1, i2, i3, i4, i5, i6, -⟩ := D0
       rw [hsv] at SV0
       generalize deW sd kk n fine zs os vs ko kv R L = pw at *
       generalize deQ sd kk R L = Q at *
       generalize deP sd kk R = P at *
       generalize deS R = S at *
       have SV : Hid (∀ W, Below w.heap.size w W -> Calls Tryz.prog 23 #[.agg #[.int .i64 n, .slice a zl cap, .slice ao ko co, .slice av kv cv, .int .i64 fine], .agg #[.slice ra nr rc, .slice (la) ln lc]] W fun e w' => ∃ sl, e = .returned sl /\ Below W.heap.size W w' /\ w'.ownsRow W.heap.size 2 1 sl S.length (S.map (Value.int .i64))) := fun W hW => by
         have := SV0 W hW
         rw [HLZ.out, HN.out, HM.out] at this
         exact this
       have PK : Hid (∀ W, Calls Tryz.prog 24 #[.int .i64 sd, .int .i64 S.length, .int .i64 (min kk (S.length : Int))] W fun e w' => ∃ sl, e = .returned (.tuple #[sl, .int .i64 GN]) /\ Below W.heap.size W w' /\ w'.ownsRow W.heap.size 2 1 sl P.length (P.map (Value.int .i64))) := fun W => by
         have h := specPicked_any sd S.length (min kk (S.length : Int)) W
         rw [<- hPK, <- HYS.1] at h
         exact h
       have HY0 : Hid (pw = 0 -> GF = true /\ GR = Q.1 /\ GL = Q.2) := HYS.2.1
       have HY1 : Hid (pw ≠ 0 -> GF = false /\ GR = R /\ GL = L) := HYS.2.2
       have CPY : Hid (∀ W, Below w.heap.size w W -> Calls Tryz.prog 25 #[.agg #[.slice ra nr rc, .slice (la) ln lc]] W (CopyOk W R L)) := fun W hW => by
         have := l4Copy_opt ra la rc lc R L W (HP.out.2.2.1.below hW) (HP.out.2.2.2.1.below hW) (by rw [HM.out]; exact HP.out.2.2.2.2.2.1) (by omega) (fun r hr => ⟨i1.ne r hr, by have := i1.sm r hr; omega⟩) (by omega)
         rw [HN.out, HM.out] at this
         exact this
       have PLC : Hid _ := PLW
       have IV : Hid (LvI S P L.length 0 R L) := i1
       have ID : Hid (∀ i j, i < j -> j < P.length -> pkd S P i ≠ pkd S P j) := i2
       have HQ : Hid (Q = lvF S P R L P.length) := hQ
       have HPP : Hid (∀ i, i < P.length -> 0 <= P.getD i 0 /\ P.getD i 0 < S.length) := i3
       clear SV0 PLW hsv HYS hQ hPK i1 i2 i3
       obtain ⟨N, HSN⟩ : ∃ v, Hid (S.length = v) := ⟨_, rfl⟩
       obtain ⟨m, HPM⟩ : ∃ v, Hid (P.length = v) := ⟨_, rfl⟩
       rw [HSN.out] at SV PK HPP i4 i5
       rw [HPM.out] at PK ID HQ HPP i4
       rw [HM.out] at i5
       rw [HN.out] at i6
       have hKK : min kk (N : Int) = min kk (N : Int) := rfl
       obtain ⟨K, HKE⟩ : ∃ v, min kk (N : Int) = v := ⟨_, rfl⟩
       clear hKK
       rw [HKE] at PK
       obtain ⟨c0, c1, c2, c3, c4⟩ := cells5 Q1.out.c
       obtain ⟨p0, p1⟩ := cells2 Q1.out.p
       go_wp2_with (go_at_call 22; refine (l1In_any _ _ _ _).mono ?_; rintro e w' ⟨rfl, hw'⟩; subst w'; first | rw [HK1.out] | rw [HS1.out])
       refine (SV.out w1 Q1.out.b).mono ?_
       rintro e w2 ⟨sl, rfl, hb, ho⟩
       obtain ⟨sa, sc, hsl⟩ := own_formL ho
       subst hsl
       have Q2 : Hid (GQ w w2 #[.int .i64 n, .slice a zl cap, .slice ao ko co, .slice av kv cv, .int .i64 fine] #[.slice ra nr rc, .slice (la) ln lc]) := Q1.out.below hb
       have S2 : Hid (IntsAt w2 sa S) := ints_ownL ho
       clear hb ho Q1 SV c0 c1 c2 c3 c4 p0 p1
       go_wp2_with fail
       refine (PK.out w2).mono ?_
       rintro e w3 ⟨sl, rfl, hb, ho⟩
       obtain ⟨pa, pc, hsl⟩ := own_formL ho
       subst hsl
       have Q3 : Hid (GQ w w3 #[.int .i64 n, .slice a zl cap, .slice ao ko co, .slice av kv cv, .int .i64 fine] #[.slice ra nr rc, .slice (la) ln lc]) := Q2.out.below hb
       have S3 : Hid (IntsAt w3 sa S) := S2.out.below hb
       have O3 : Hid (IntsAt w3 pa P) := ints_ownL ho
       clear hb ho Q2 S2 PK
       obtain ⟨p0, p1⟩ := cells2 Q3.out.p
       go_wp2_with fail
       refine (CPY.out w3 Q3.out.b).mono ?_
       rintro e w4 ⟨ra4, rc4, gl4, lc4, R4, rfl, hb, hk4, ho⟩
       rw [HN.out, HM.out] at ho ⊢
       have Q4 : Hid (GQ w w4 #[.int .i64 n, .slice a zl cap, .slice ao ko co, .slice av kv cv, .int .i64 fine] #[.slice ra nr rc, .slice (la) ln lc]) := Q3.out.below hb
       have S4 : Hid (IntsAt w4 sa S) := S3.out.below hb
       have O4 : Hid (IntsAt w4 pa P) := O3.out.below hb
       have D4 : Hid (DS w4 (w4.alloc (.cells #[.slice ra4 nr rc4, .slice (some ⟨gl4, 0, none⟩) ln lc4] 33)) (w.heap.size + 3) S P R L 0 ra4 nr rc4 gl4 ln lc4 R4 L) := by
         have h2 : Below w4.heap.size w4 (w4.alloc (.cells #[.slice ra4 nr rc4, .slice (some ⟨gl4, 0, none⟩) ln lc4] 33)) := (Below.refl _ _).alloc (Nat.le_refl _) _
         refine ⟨h2, heap_alloc_new _ _, (ho.base (by have := Q3.out.size; omega)).below h2, by rw [<- HN.out]; have := congrArg List.length hk4; simpa using this, HM.out, IV.out.key hk4, hk4, rfl⟩
       clear hb ho hk4 Q3 S3 O3 p0 p1
       go_wp2_with fail
       have HB0 : Hid (w.heap.size + 3 <= w4.heap.size) := Q4.out.size
       generalize w4.alloc (.cells #[.slice ra4 nr rc4, .slice (some ⟨gl4, 0, none⟩) ln lc4] 33) = W5 at *
       obtain ⟨kb, HKB⟩ : ∃ v, Hid (w4.heap.size = v) := ⟨_, rfl⟩
       rw [HKB.out]
       go_loopw [15] (fun t wr => ∃ (i : Nat) (ra2 : Option Addr) (n2 rc2 gl2 l2 lc2 : Nat) (R2 : List RT) (L2 : List Int), i <= m /\ t = .int .i64 i /\ DS w4 wr (w.heap.size + 3) S P R L i ra2 n2 rc2 gl2 l2 lc2 R2 L2) (fun t _ => m - (intOf t).toNat)
       case atStart => exact ⟨0, ra4, nr, rc4, gl4, ln, lc4, R4, L, Nat.zero_le _, rfl, D4.out⟩
       case round =>
         clear D4
         obtain ⟨i, ra2, n2, rc2, gl2, l2, lc2, R2, L2, hi, rfl, hD⟩ := hrel
         obtain ⟨wo, hwo⟩ : ∃ v, v = wr := ⟨_, rfl⟩
         subst hwo
         have DR : Hid (DS w4 wo (w.heap.size + 3) S P R L i ra2 n2 rc2 gl2 l2 lc2 R2 L2) := hD
         clear hD
         by_cases hlt : i < m
         · have hltI : (i : Int) < (m : Int) := by omega
           obtain ⟨pk, hpk⟩ := Int.eq_ofNat_of_zero_le (HPP.out i hlt).1
           have HPK : Hid (P.getD i 0 = (pk : Int)) := hpk
           have hpN : pk < N := by have := (HPP.out i hlt).2; omega
           clear hpk
           obtain ⟨bp, op, hpa, hc1⟩ := (O4.out.below DR.out.b) i (by rw [HPM.out]; exact hlt)
           obtain ⟨bs, os2, hsa, hc2⟩ := (S4.out.below DR.out.b) pk (by rw [HSN.out]; exact hpN)
           subst hpa
           subst hsa
           rw [HPK.out] at hc1
           have HX : Hid (S.getD pk 0 = pkd S P i) := by show _ = _; unfold pkd; rw [HPK.out]; rfl
           rw [HX.out] at hc2
           obtain ⟨k, hk, hin, hno⟩ := first_route (DR.out.iv.mm i (Nat.le_refl _) (by rw [HPM.out]; exact hlt))
           obtain ⟨x, HX2⟩ : ∃ v, Hid (pkd S P i = v) := ⟨_, rfl⟩
           rw [HX2.out] at hc2 hin hno
           have HIN : Hid (x ∈ (R2.getD k rt0).ids) := hin
           have HNO : Hid (∀ j, j < k -> x ∉ (R2.getD j rt0).ids) := hno
           have HRN : Hid (R2.length = n2) := DR.out.rn
           have hkn : k < n2 := by rw [<- HRN.out]; exact hk
           have h100 : n2 <= 100 := by have := DR.out.iv.ln; have := HRN.out; omega
           have hl2 : l2 <= 50 := by have h1 := DR.out.ln; have h2 := DR.out.iv.ll; have h3 := HM.out; omega
           clear hin hno hk
           go_wp2_with fail
           clear hc1 hc2
           go_loopw [17] (fun t wx => ∃ j : Nat, j <= k /\ t = .int .i64 j /\ Below wo.heap.size wo wx) (fun t _ => k + 1 - (intOf t).toNat)
           case atStart => exact ⟨0, Nat.zero_le _, rfl, Below.refl _ _⟩
           case round =>
             obtain ⟨j, hj, rfl, hbx⟩ := hrel
             obtain ⟨wx, hwx⟩ : ∃ v, v = wr := ⟨_, rfl⟩
             subst hwx
             have DX : Hid (DS w4 wx (w.heap.size + 3) S P R L i ra2 n2 rc2 gl2 l2 lc2 R2 L2) := DR.out.below hbx
             have BX : Hid (Below wo.heap.size wo wx) := hbx
             clear hbx
             have hjI : (j : Int) < (n2 : Int) := by omega
             obtain ⟨b, off, e, r1, r2, r3⟩ := (po_at DX.out.o HRN.out) j (by rw [HRN.out]; omega)
             subst e
             have R3 : Hid (IntsAt wx (R2.getD j rt0).a (R2.getD j rt0).ids) := r3
             obtain ⟨d0, d1⟩ := cells2 DX.out.x
             rw [HKB.out] at d0 d1
             have HSM : Hid ((R2.getD j rt0).ids.length <= 12) := DX.out.iv.sm _ (getD_mem (by rw [HRN.out]; omega))
             have hhm := hasTo_mem (R2.getD j rt0).ids x
             have L3 := l3Has_any (R2.getD j rt0).a (R2.getD j rt0).ids.length (R2.getD j rt0).c x (R2.getD j rt0).ids wx r3 (Nat.le_refl _) (by have := HSM.out; omega)
             rw [hhm] at L3
             by_cases hjk : j < k
             · have hno := HNO.out j hjk
               rw [decide_eq_false hno] at L3
               clear R3
               obtain ⟨rt, HRT⟩ : ∃ v, Hid (R2.getD j rt0 = v) := ⟨_, rfl⟩
               rw [HRT.out] at r1 r2 L3
               clear HRT r3 HSM hhm hno
               obtain ⟨rl, HRL⟩ : ∃ v, Hid (rt.ids.length = v) := ⟨_, rfl⟩
               rw [HRL.out] at r2 L3
               go_wp2_with (go_at_call 26; refine L3.mono ?_; rintro e w' ⟨rfl, hw'⟩; subst w')
               go_roundw
               case rel => exact ⟨j + 1, by omega, by first | rfl | go_num, BX.out⟩
               case measure => simp [intOf]; omega
             · have hje : j = k := by omega
               subst hje
               rw [decide_eq_true HIN.out] at L3
               have hne : (R2.getD j rt0).ids ≠ [] := fun h9 => by have h8 := HIN.out; rw [h9] at h8; cases h8
               obtain ⟨br, orr, er, -⟩ := r3 0 (List.length_pos_iff.2 hne)
               have CUT0 : ∀ W, Below wx.heap.size wx W -> _ := fun W hW => l4CutP_any br orr (R2.getD j rt0).c (R2.getD j rt0).ids x W (by have := R3.out.below hW; rw [er] at this; exact this) (by have := HSM.out; omega)
               have hmem : R2.getD j rt0 ∈ R2 := getD_mem (by rw [HRN.out]; exact hkn)
               have SET0 : ∀ W (g cg : Nat), Below wx.heap.size wx W -> IntsAt W (some ⟨g, 0, none⟩) (cutP (R2.getD j rt0).ids x) -> _ := fun W g cg hW hX => setCut_any (some ⟨b, off, none⟩) n2 rc2 gl2 l2 lc2 g cg (cutP (R2.getD j rt0).ids x).length j R2 L2 x W DX.out.iv (by have := DX.out.ln; omega) DX.out.ln HRN.out (po_at (DX.out.below hW).o HRN.out) (po_l (DX.out.below hW).o DX.out.ln) (by rw [HRN.out]; exact hkn) HIN.out rfl hX
               rw [er] at r2 L3
               clear R3 r3 hhm hne hmem HNO er
               obtain ⟨rt, HRT⟩ : ∃ v, Hid (R2.getD j rt0 = v) := ⟨_, rfl⟩
               rw [HRT.out] at r1 r2 L3 CUT0 SET0
               obtain ⟨cl, HCL⟩ : ∃ v, Hid ((cutP rt.ids x).length = v) := ⟨_, rfl⟩
               obtain ⟨rl, HRL⟩ : ∃ v, Hid (rt.ids.length = v) := ⟨_, rfl⟩
               obtain ⟨rv, HRV⟩ : ∃ v, Hid (rt.v = v) := ⟨_, rfl⟩
               obtain ⟨rcx, HRC⟩ : ∃ v, Hid (rt.c = v) := ⟨_, rfl⟩
               rw [HRL.out, HRC.out] at r2 L3
               rw [HRV.out] at r1
               rw [HRL.out, HRC.out, HCL.out] at CUT0
               rw [HRV.out, HCL.out] at SET0
               have CUT : Hid _ := CUT0
               have SET : Hid _ := SET0
               clear CUT0 SET0 HSM HRT
               have HCE : Hid (∀ W, Below wx.heap.size wx W -> (fun W => W.cell? ⟨kb, 0, none⟩ = some (.slice (some ⟨b, off, none⟩) n2 rc2) /\ W.cell? ⟨kb, 1, none⟩ = some (.slice (some ⟨gl2, 0, none⟩) l2 lc2) /\ W.cell? ⟨b, off + j * 2, none⟩ = some (.int .i64 rv) /\ W.cell? ⟨b, off + j * 2 + 1, none⟩ = some (.slice (some ⟨br, orr, none⟩) rl rcx)) W) := fun W hW => ⟨keepL d0 hW, keepL d1 hW, keepL r1 hW, keepL r2 hW⟩
               go_upto_region 14 with (go_at_call 26; refine L3.mono ?_; rintro e w' ⟨rfl, hw'⟩; subst w')
               go_wp2_with fail
               refine wp_region_last (S := (fun W => W.cell? ⟨kb, 0, none⟩ = some (.slice (some ⟨b, off, none⟩) n2 rc2) /\ W.cell? ⟨kb, 1, none⟩ = some (.slice (some ⟨gl2, 0, none⟩) l2 lc2) /\ W.cell? ⟨b, off + j * 2, none⟩ = some (.int .i64 rv) /\ W.cell? ⟨b, off + j * 2 + 1, none⟩ = some (.slice (some ⟨br, orr, none⟩) rl rcx))) 17 (by kernel_rfl) ?_ (fun hHeld => ?_)
               · exact HCE.out _ (Below.refl _ _).drew
               have BD : Hid (Below wx.heap.size wx wx.drew) := (Below.refl _ _).drew
               generalize wx.drew = wd at *
               refine tkZ 0 hHeld ?_
               refine tkZ 1 hHeld ?_
               refine tkZ 2 hHeld ?_
               refine tkZ 3 hHeld ?_
               refine tkZ 4 hHeld ?_
               refine tkZ 5 hHeld ?_
               refine tkZ 6 hHeld ?_
               refine tkZ 7 hHeld ?_
               refine tkZ 8 hHeld ?_
               refine tkZ 9 hHeld ?_
               refine tkZ 10 hHeld ?_
               refine tkZ 11 hHeld ?_
               refine tkZ 12 hHeld ?_
               refine tkZ 13 hHeld ?_
               refine wpAnyZ_ready (rs := [14]) (by kernel_rfl) (by simp) ?_
               refine AllReadyZ.cons rfl (fun K hK => ?_) AllReadyZ.nil
               go_simp
               refine (CUT.out wd BD.out).mono ?_
               rintro e w6 ⟨g, cg, rfl, hb, ho⟩
               have B6 : Hid (Below wx.heap.size wx w6) := BD.out.trans (hb.mono BD.out.size)
               have X6 : Hid (IntsAt w6 (some ⟨g, 0, none⟩) (cutP rt.ids x)) := ints_ownL ho
               clear hb ho
               try rw [HCL.out]
               (try go_wp2_with fail)
               refine hK.out _ _ ?_ (fun hHeld => ?_)
               · exact HCE.out _ B6.out
               clear hK K
               (try simp only [Act.put, List.setIfInBounds_toArray, List.set_cons_zero, List.set_cons_succ])
               refine tkZ 15 hHeld ?_
               refine wpAnyZ_ready (rs := [16]) (by kernel_rfl) (by simp) ?_
               refine AllReadyZ.cons rfl (fun K hK => ?_) AllReadyZ.nil
               go_simp
               refine (SET.out w6 g cg B6.out X6.out).mono ?_
               rintro e w7 ht
               obtain ⟨ra7, n7, rc7, g7, lc7, R7, rfl, hb7, hM⟩ := DX.out.mid HB0.out B6.out ht
               rw [HKB.out] at hM
               have M7 : Hid (DM w4 ((w7.setCell ⟨kb, 0, none⟩ (.slice ra7 n7 rc7)).setCell ⟨kb, 1, none⟩ (.slice (some ⟨g7, 0, none⟩) l2 lc7)) (w.heap.size + 3) x ra7 n7 rc7 g7 l2 lc7 R2 R7 L2) := hM
               have B7 : Hid (Below wx.heap.size wx w7) := hb7
               have F7 := fun i => frozen_of_row _ _ i _ _ (below_row hb7 (by have := row_lt DX.out.x; rw [HKB.out] at this; exact this) (by have := DX.out.x; rw [HKB.out] at this; exact this))
               obtain ⟨f0, f1, -⟩ := HCE.out w7 hb7
               clear ht hM hb7
               (try go_wp2_with fail)
               refine hK.out _ _ ?_ (fun hHeld => ?_)
               · exact HCE.out _ B7.out
               clear hK K
               (try simp only [Act.put, List.setIfInBounds_toArray, List.set_cons_zero, List.set_cons_succ])
               refine wpAnyZ_ready (rs := [17]) (by kernel_rfl) (by simp) ?_
               refine AllReadyZ.last rfl (fun K hK => ?_)
               go_simp
               refine hK.out _ _ ?_
               clear hK K
               clear F7 f0 f1
               generalize ((w7.setCell ⟨kb, 0, none⟩ (.slice ra7 n7 rc7)).setCell ⟨kb, 1, none⟩ (.slice (some ⟨g7, 0, none⟩) l2 lc7)) = w8 at *
               refine wpAnyZ_done (by kernel_rfl) ?_ _
               clear hHeld CUT SET HCE L3 r1 r2 d0 d1
               have hcap : l2 <= lc7 := by have h9 := M7.out.o.l; rw [M7.out.ln] at h9; exact own_capg h9
               have PUT := l4Put_any g7 0 lc7 L2 x w8 (po_l M7.out.o M7.out.ln) (by have := M7.out.ln; omega) (by rw [M7.out.ln]; exact hcap)
               rw [M7.out.ln] at PUT
               have M8 := M7.out.x
               rw [HKB.out] at M8
               obtain ⟨m0, m1⟩ := cells2 M8
               go_wp2_with fail
               refine PUT.mono ?_
               rintro e w9 ⟨g9, c9, rfl, hb9, ho9⟩
               have D9 : Hid (DS w4 (w9.setCell ⟨kb, 1, none⟩ (.slice (some ⟨g9, 0, none⟩) (l2 + 1) c9)) (w.heap.size + 3) S P R L (i + 1) ra7 n7 rc7 g9 (l2 + 1) c9 R7 (putS L2 (pkd S P i))) := by
                 have hM := M7.out
                 rw [<- HX2.out] at hM ho9
                 have := hM.put HB0.out (by rw [HPM.out]; exact ID.out) (by rw [HPM.out]; exact hlt) DX.out.iv DX.out.kr DX.out.kl hb9 ho9
                 rw [HKB.out] at this
                 exact this
               have X9 := below_row hb9 (row_lt M8) M8
               obtain ⟨x0, x1⟩ := cells2 X9
               have xf := fun i => frozen_of_row _ _ i _ _ X9
               clear hb9 ho9 PUT m0 m1 M8 X9
               go_wp2
               go_roundw
               case rel => exact ⟨i + 1, ra7, n7, rc7, g9, l2 + 1, c9, R7, putS L2 (pkd S P i), by omega, by first | rfl | go_num, D9.out⟩
               case measure => simp [intOf]; omega
         · have hltI : ¬ ((i : Int) < (m : Int)) := by omega
           have him : i = m := by omega
           subst him
           have QW : Hid (GQ w wo #[.int .i64 n, .slice a zl cap, .slice ao ko co, .slice av kv cv, .int .i64 fine] #[.slice ra nr rc, .slice (la) ln lc]) := Q4.out.below DR.out.b
           have PCW := PLC.out wo ra2 (some ⟨gl2, 0, none⟩) n2 rc2 l2 lc2 R2 L2 QW.out.b (po_at DR.out.o DR.out.rn) DR.out.rn (po_l DR.out.o DR.out.ln) DR.out.ln (fun r hr => ⟨DR.out.iv.sm r hr, (DR.out.o.ints r hr).2⟩) (by have := DR.out.iv.ln; have := DR.out.rn; omega) (by have := DR.out.ln; have := DR.out.iv.ll; have := HM.out; omega) (by rw [allTo_flat]; have := flat_len R2 DR.out.iv.sm; have := DR.out.iv.ln; omega) (by rw [HQ.out]; exact DR.out.kr) (by rw [HQ.out]; exact DR.out.kl)
           obtain ⟨c0, c1, c2, c3, c4⟩ := cells5 QW.out.c
           obtain ⟨d0, d1⟩ := cells2 DR.out.x
           rw [HKB.out] at d0 d1
           go_wp2_with fail
           refine PCW.mono ?_
           rintro e w6 ⟨rfl, hb⟩
           have Q6 : Hid (GQ w w6 #[.int .i64 n, .slice a zl cap, .slice ao ko co, .slice av kv cv, .int .i64 fine] #[.slice ra nr rc, .slice (la) ln lc]) := QW.out.below hb
           have D6 : Hid (DS w4 w6 (w.heap.size + 3) S P R L i ra2 n2 rc2 gl2 l2 lc2 R2 L2) := DR.out.below hb
           clear hb PCW c0 c1 c2 c3 c4 d0 d1 QW DR PLC
           by_cases hpw : pw = 0
           · obtain ⟨g1, g2, g3⟩ := HY0.out hpw
             have hpn2 : (pw != 0) = false := by simp [hpw]
             obtain ⟨d0, d1⟩ := cells2 D6.out.x
             rw [HKB.out] at d0 d1
             obtain ⟨a0, a1⟩ := cells2 Q6.out.o
             have af := fun i => frozen_of_row _ _ i _ _ Q6.out.o
             have s1 := heap_setCell_same w6 (w.heap.size + 2) 0 _ _ (Value.slice ra2 n2 rc2) Q6.out.o
             have P7 : Hid (PO ((w6.setCell ⟨w.heap.size + 2, 0, none⟩ (.slice ra2 n2 rc2)).setCell ⟨w.heap.size + 2, 1, none⟩ (.slice (some ⟨gl2, 0, none⟩) l2 lc2)) (w.heap.size + 3) (.slice ra2 n2 rc2) R2 (.slice (some ⟨gl2, 0, none⟩) l2 lc2) L2) := (D6.out.o.box Q6.out.o).box s1
             have B7 : Hid (Below w.heap.size w ((w6.setCell ⟨w.heap.size + 2, 0, none⟩ (.slice ra2 n2 rc2)).setCell ⟨w.heap.size + 2, 1, none⟩ (.slice (some ⟨gl2, 0, none⟩) l2 lc2))) := (Q6.out.b.setCell (by simp) _).setCell (by simp) _
             have HKY : Hid (R2.map RT.key = GR.map RT.key) := by show _ = _; rw [g2, HQ.out]; exact D6.out.kr
             have HLL : Hid (L2 = GL) := by show _ = _; rw [g3, HQ.out]; exact D6.out.kl
             clear s1
             subst g1
             clear g2 g3
             go_wp2
             refine bodyPost_ret (v := .tuple #[.agg #[.slice ra2 n2 rc2, .slice (some ⟨gl2, 0, none⟩) l2 lc2], .int .i64 GN, .bool true]) (by simp [results, Tryz.results7, go_sem, a0, a1]) rfl ?_
             show SpecOkN _ _ _ _ _ _ _
             rw [<- HLL.out]
             exact ⟨ra2, n2, rc2, _, l2, lc2, R2, rfl, B7.out, D6.out.rn, D6.out.ln, HKY.out, P7.out.base (by omega)⟩
           · obtain ⟨g1, g2, g3⟩ := HY1.out hpw
             have hpn2 : (pw != 0) = true := by simp [hpw]
             subst g1 g2 g3
             obtain ⟨p0, p1⟩ := cells2 Q6.out.p
             go_wp2_with fail
             refine (CPY.out w6 Q6.out.b).mono ?_
             rintro e w7 ⟨ra7, rc7, gl7, lc7, R7, rfl, hb, hk7, ho⟩
             rw [HN.out, HM.out] at ho ⊢
             have Q7 : Hid (GQ w w7 #[.int .i64 n, .slice a zl cap, .slice ao ko co, .slice av kv cv, .int .i64 fine] #[.slice ra nr rc, .slice (la) ln lc]) := Q6.out.below hb
             have P7' : Hid (PO w7 (w.heap.size + 3) (.slice ra7 nr rc7) R7 (.slice (some ⟨gl7, 0, none⟩) ln lc7) GL) := ho.base (by have := Q6.out.size; omega)
             have HK7 : Hid (R7.map RT.key = GR.map RT.key) := hk7
             have HN7 : Hid (R7.length = nr) := by have := congrArg List.length hk7; simp only [List.length_map] at this; exact this.trans HN.out
             clear hb ho hk7 p0 p1
             obtain ⟨a0, a1⟩ := cells2 Q7.out.o
             have af := fun i => frozen_of_row _ _ i _ _ Q7.out.o
             have s1 := heap_setCell_same w7 (w.heap.size + 2) 0 _ _ (Value.slice ra7 nr rc7) Q7.out.o
             have P7 : Hid (PO ((w7.setCell ⟨w.heap.size + 2, 0, none⟩ (.slice ra7 nr rc7)).setCell ⟨w.heap.size + 2, 1, none⟩ (.slice (some ⟨gl7, 0, none⟩) ln lc7)) (w.heap.size + 3) (.slice ra7 nr rc7) R7 (.slice (some ⟨gl7, 0, none⟩) ln lc7) GL) := (P7'.out.box Q7.out.o).box s1
             have B7 : Hid (Below w.heap.size w ((w7.setCell ⟨w.heap.size + 2, 0, none⟩ (.slice ra7 nr rc7)).setCell ⟨w.heap.size + 2, 1, none⟩ (.slice (some ⟨gl7, 0, none⟩) ln lc7))) := (Q7.out.b.setCell (by simp) _).setCell (by simp) _
             clear s1
             go_wp2
             refine bodyPost_ret (v := .tuple #[.agg #[.slice ra7 nr rc7, .slice (some ⟨gl7, 0, none⟩) ln lc7], .int .i64 GN, .bool false]) (by simp [results, Tryz.results7, go_sem, a0, a1]) rfl ?_
             show SpecOkN _ _ _ _ _ _ _
             exact ⟨ra7, nr, rc7, _, ln, lc7, R7, rfl, B7.out, HN7.out, HM.out, HK7.out, P7.out.base (by omega)⟩
 · have hpn : (pv != 0) = true := by simp [hpv]
   have B5 : Hid (Below w.heap.size w ((w1.setCell ⟨w.heap.size + 2, 0, none⟩ (.slice none 0 0)).setCell ⟨w.heap.size + 2, 1, none⟩ (.slice none 0 0))) := (Q1.out.b.setCell (by simp) _).setCell (by simp) _
   rw [decide_eq_false hpv, Bool.false_and] at HDB
   obtain ⟨g1, g2, g3, g4⟩ := HNO.out (by rw [HDB.out]; try rfl)
   subst g1 g2 g3 g4
   clear HNO
   go_wp2_with ((go_at_call 22; refine (l1In_any _ _ _ _).mono ?_; rintro e w' ⟨rfl, hw'⟩; subst w'; first | rw [HK1.out] | rw [HS1.out]))
   refine bodyPost_ret (v := .tuple #[.agg #[.slice none 0 0, .slice none 0 0], .int .i64 (-1), .bool false]) (by simp [results, Tryz.results7, go_sem, a0, a1]) rfl ?_
   show SpecOkN _ _ _ _ _ _ _
   exact ⟨none, 0, 0, none, 0, 0, [], rfl, B5.out, rfl, rfl, rfl, ⟨World.ownsRow_nil _ _ _ _, (fun s hs => by cases hs), World.ownsRow_nil _ _ _ _⟩⟩
end Go.Proofs.YtdbdmlabfbmjfaaGreat
