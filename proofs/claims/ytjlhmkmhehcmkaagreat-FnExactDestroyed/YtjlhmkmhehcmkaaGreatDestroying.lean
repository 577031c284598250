import Derived.Test.YtjlhmkmhehcmkaaGreatImplPlan
import Derived.Test.YtjlhmkmhehcmkaaGreatPack14
import Derived.Test.YtjlhmkmhehcmkaaGreatLeaveBox
import Derived.Test.YtjlhmkmhehcmkaaGreatPack34
import Derived.Test.YtjlhmkmhehcmkaaGreatImplPicked
import Derived.Test.YtjlhmkmhehcmkaaGreatKinTail
namespace Go.Proofs.YtjlhmkmhehcmkaaGreat
open Go.RowKit
def DestOk (n fine : Int) (zs os vs : List Int) (ko kv : Nat) (S P : List Int) (last : Int) (ra : Option Addr) (nR rc : Nat) (la : Option Addr) (l lc : Nat) (R : List RT) (L : List Int) (w : World) (e : Ending) (w' : World) : Prop :=
 Below w.heap.size w w' ∧
 ((planV n zs os vs ko kv fine (lvF S P R L P.length).1 (lvF S P R L P.length).2 = 0 /\ ∃ (ra2 : Option Addr) (n2 rc2 : Nat) (la2 : Option Addr) (l2 lc2 : Nat) (R2 : List RT) (L2 : List Int), e = .returned (.tuple #[.agg #[.slice ra2 n2 rc2, .slice la2 l2 lc2], .int .i64 last, .bool true]) /\ RoutesAt w' ra2 R2 /\ R2.length = n2 /\ IntsAt w' la2 L2 /\ L2.length = l2 /\ R2.map RT.key = (lvF S P R L P.length).1.map RT.key /\ L2 = (lvF S P R L P.length).2 /\ LvI S P L.length P.length R2 L2 /\ ((la2 = none /\ l2 = 0) ∨ ∃ b off, la2 = some ⟨b, off, none⟩)) ∨
  (planV n zs os vs ko kv fine (lvF S P R L P.length).1 (lvF S P R L P.length).2 ≠ 0 /\ e = .returned (.tuple #[.agg #[.slice ra nR rc, .slice la l lc], .int .i64 last, .bool false])))
theorem flat_len : ∀ (R : List RT), (∀ r ∈ R, r.ids.length <= 12) -> (R.flatMap RT.ids).length <= 12 * R.length
 | [], _ => by simp
 | r :: R, h => by
   have h1 := h r (List.mem_cons_self ..)
   have h2 := flat_len R (fun x hx => h x (List.mem_cons_of_mem _ hx))
   rw [List.flatMap_cons, List.length_append, List.length_cons]
   omega
set_option maxHeartbeats 8000000 in
set_option maxRecDepth 20000 in
theorem destroying_any (n fine seed kk : Int) (a ao av ra la : Option Addr) (zl cap ko co kv cv nR rc l lc kb cb : Nat) (zs os vs : List Int) (R : List RT) (L S P : List Int) (N m : Nat) (K last : Int) (w : World) (hA : IntsAt w a zs) (hzl : zs.length = zl) (hO : IntsAt w ao os) (hV : IntsAt w av vs) (hlo : os.length = ko * 6) (hlv : vs.length = kv * 5) (hko : ko <= 9223372036854775807) (hkv : kv <= 9223372036854775807) (hcB : caseB n zs os vs ko kv fine = true)
   (hR : RoutesAt w ra R) (hn : R.length = nR) (hL : IntsAt w la L) (hl : L.length = l) (h12 : l + N <= 12) (hfr : (ra = none /\ R.length = 0) ∨ ∃ b off, ra = some ⟨b, off, none⟩) (hfl : (la = none /\ l = 0) ∨ ∃ b off, la = some ⟨b, off, none⟩) (hc : ∀ r ∈ R, r.ids.length <= r.c)
   (hS : srtS (allTo R R.length) = S) (hN : S.length = N) (hK : min kk (N : Int) = K) (hP : pickV seed N K = P) (hm : P.length = m) (hla : pickS seed N K = last) (hI : LvI S P L.length 0 R L) (hd : ∀ i j, i < j -> j < P.length -> pkd S P i ≠ pkd S P j) (hp : ∀ i, i < m -> 0 <= P.getD i 0 /\ P.getD i 0 < N) (hmN : m <= N)
   (hwl : ∀ x ∈ (lvF S P R L m).2, (Lit.int .i64 x).wf = true) (hkb : w.cell? ⟨kb, 0, none⟩ = some (.int .i64 kk)) (hcb : w.heap[cb]? = some (.cells #[.int .i64 n, .slice a zl cap, .slice ao ko co, .slice av kv cv, .int .i64 fine] 43 (0, 0))) :
   Calls Tryz.prog 61 #[.agg #[.slice ra nR rc, .slice la l lc], .int .i64 seed, .pointer (some ⟨kb, 0, none⟩), .pointer (some ⟨cb, 0, none⟩)] w (DestOk n fine zs os vs ko kv S P last ra nR rc la l lc R L w) := by
 have B0 : Hid (Below w.heap.size w ((w.alloc (.cells #[.slice ra nR rc, .slice la l lc] 36)).alloc (.cells #[.slice none 0 0, .slice none 0 0] 36))) := ((Below.refl _ _).alloc (Nat.le_refl _) _).alloc (by simp) _
 have P0 : Hid (((w.alloc (.cells #[.slice ra nR rc, .slice la l lc] 36)).alloc (.cells #[.slice none 0 0, .slice none 0 0] 36)).heap[w.heap.size]? = some (.cells #[.slice ra nR rc, .slice la l lc] 36 (0, 0))) := heap_alloc2_old _ _ _
 have Q0 : Hid (((w.alloc (.cells #[.slice ra nR rc, .slice la l lc] 36)).alloc (.cells #[.slice none 0 0, .slice none 0 0] 36)).heap[w.heap.size + 1]? = some (.cells #[.slice none 0 0, .slice none 0 0] 36 (0, 0))) := heap_alloc2_new _ _ _
 have HA : Hid (IntsAt w a zs) := hA
 have HO : Hid (IntsAt w ao os) := hO
 have HV : Hid (IntsAt w av vs) := hV
 have HR : Hid (RoutesAt w ra R) := hR
 have HL : Hid (IntsAt w la L) := hL
 have HI : Hid (LvI S P L.length 0 R L) := hI
 have HD : Hid (∀ i j, i < j -> j < P.length -> pkd S P i ≠ pkd S P j) := hd
 have HP : Hid (∀ i, i < m -> 0 <= P.getD i 0 /\ P.getD i 0 < N) := hp
 have HC : Hid (∀ r ∈ R, r.ids.length <= r.c) := hc
 have HFR : Hid ((ra = none /\ R.length = 0) ∨ ∃ b off, ra = some ⟨b, off, none⟩) := hfr
 have HFL : Hid ((la = none /\ l = 0) ∨ ∃ b off, la = some ⟨b, off, none⟩) := hfl
 have HWL : Hid (∀ x ∈ (lvF S P R L m).2, (Lit.int .i64 x).wf = true) := hwl
 have HM : Hid (P.length = m) := hm
 have HNN : Hid (S.length = N) := hN
 have HRN : Hid (R.length = nR) := hn
 have HLN : Hid (L.length = l) := hl
 have HKB : Hid (w.cell? ⟨kb, 0, none⟩ = some (.int .i64 kk)) := hkb
 have HCB : Hid (w.heap[cb]? = some (.cells #[.int .i64 n, .slice a zl cap, .slice ao ko co, .slice av kv cv, .int .i64 fine] 43 (0, 0))) := hcb
 have SB : Hid (∀ W, Below w.heap.size w W -> Calls Tryz.prog 62 #[.agg #[.slice ra nR rc, .slice la l lc]] W fun e w' => ∃ sl, e = .returned sl /\ Below W.heap.size W w' /\ w'.ownsRow W.heap.size 2 1 sl N (S.map (Value.int .i64))) := fun W hW => by
   have hlen : (allTo R R.length).length <= 12 := by rw [<- srtS_len, hS, hN]; omega
   have h := servedBy_any ra la rc l lc R W (HR.out.below hW) (by have := HI.out.ln; omega) (fun j hj => HI.out.ne _ (getD_mem hj)) HI.out.nd hlen
   rw [hS, hN, hn] at h
   exact h
 have PK : Hid (∀ W, Calls Tryz.prog 63 #[.int .i64 seed, .int .i64 N, .int .i64 K] W fun e w' => ∃ sl, e = .returned (.tuple #[sl, .int .i64 last]) /\ Below W.heap.size W w' /\ w'.ownsRow W.heap.size 2 1 sl m (P.map (Value.int .i64))) := fun W => by
   have h := implPicked_any seed N K W
   rw [hla, hP, hm] at h
   refine h.mono ?_
   rintro e w' ⟨sl, he, hb, _, ho⟩
   exact ⟨sl, he, hb, ho⟩
 have PCD : Hid (∀ W (ra2 la2 : Option Addr) (n2 rc2 l2 lc2 : Nat) (R2 : List RT) (L2 : List Int), Below w.heap.size w W -> RoutesAt W ra2 R2 -> R2.length = n2 -> IntsAt W la2 L2 -> L2.length = l2 -> LvI S P L.length m R2 L2 -> R2.map RT.key = (lvF S P R L m).1.map RT.key -> L2 = (lvF S P R L m).2 -> (∀ r ∈ R2, r.ids.length <= r.c) -> Calls Tryz.prog 60 #[.agg #[.int .i64 n, .slice a zl cap, .slice ao ko co, .slice av kv cv, .int .i64 fine], .agg #[.slice ra2 n2 rc2, .slice la2 l2 lc2]] W fun e w' => e = .returned (.int .i64 (planV n zs os vs ko kv fine (lvF S P R L m).1 (lvF S P R L m).2)) /\ Below W.heap.size W w') := fun W ra2 la2 n2 rc2 l2 lc2 R2 L2 hW h1 h2 h3 h4 h5 h6 h7 h8 => by
   have hal : (allTo R2 R2.length).length <= 1048576 := by
     rw [allTo_flat]
     have := flat_len R2 h5.sm
     have := h5.ln
     omega
   have h := planCode_any n fine a ao av ra2 la2 cap ko co kv cv rc2 lc2 zs os vs L2 R2 W (HA.out.below hW) (HO.out.below hW) (HV.out.below hW) h1 h3 hlo hlv hko hkv (by have := h5.ln; omega) (fun r hr => by have := h5.sm r hr; omega) h8 (by rw [h5.ll]; omega) hal (by rw [h7]; exact HWL.out) hcB
   rw [hzl, h2, h4, planV_key L2 h6] at h
   rw [<- h7]
   exact h
 clear hA hO hV hlo hlv hko hkv hcB hR hn hL hl hfr hfl hc hS hN hP hm hla hI hd hp hwl hkb hcb hzl
 generalize hF : lvF S P R L m = F at PCD HWL
 have HF : Hid (lvF S P R L m = F) := hF
 clear hF HWL
 obtain ⟨pv, HPV⟩ : ∃ v, Hid (planV n zs os vs ko kv fine F.1 F.2 = v) := ⟨_, rfl⟩
 rw [HPV.out] at PCD
 obtain ⟨p1, p2⟩ := cells2 P0.out
 go_enter Tryz.func61, Tryz.ntmps61
 go_wp2_with fail
 clear p1 p2
 generalize (w.alloc (.cells #[.slice ra nR rc, .slice la l lc] 36)).alloc (.cells #[.slice none 0 0, .slice none 0 0] 36) = W0 at *
 obtain ⟨q, HQ⟩ : ∃ v, Hid (w.heap.size = v) := ⟨_, rfl⟩
 obtain ⟨q1, HQ1⟩ : ∃ v, Hid (w.heap.size + 1 = v) := ⟨_, rfl⟩
 rw [HQ1.out] at Q0 ⊢
 rw [HQ.out] at P0
 try rw [HQ.out]
 refine (SB.out W0 B0.out).mono ?_
 rintro e w1 ⟨sl, rfl, hb, ho⟩
 obtain ⟨sa, sc, hsl⟩ := own_formL ho
 subst hsl
 have B1 : Hid (Below w.heap.size w w1) := B0.out.trans (hb.mono B0.out.size)
 have P1 : Hid (w1.heap[q]? = some (.cells #[.slice ra nR rc, .slice la l lc] 36 (0, 0))) := below_row hb (row_lt P0.out) P0.out
 have Q1 : Hid (w1.heap[q1]? = some (.cells #[.slice none 0 0, .slice none 0 0] 36 (0, 0))) := below_row hb (row_lt Q0.out) Q0.out
 have S1 : Hid (IntsAt w1 sa S) := ints_ownL ho
 clear hb ho B0 P0 Q0 SB
 have kc := keepL HKB.out B1.out
 go_wp2_with fail
 clear kc
 refine (PK.out w1).mono ?_
 rintro e w2 ⟨sl2, rfl, hb, ho⟩
 obtain ⟨pa, pc, hsl⟩ := own_formL ho
 subst hsl
 have B2 : Hid (Below w.heap.size w w2) := B1.out.trans (hb.mono B1.out.size)
 have P2 : Hid (w2.heap[q]? = some (.cells #[.slice ra nR rc, .slice la l lc] 36 (0, 0))) := below_row hb (row_lt P1.out) P1.out
 have Q2 : Hid (w2.heap[q1]? = some (.cells #[.slice none 0 0, .slice none 0 0] 36 (0, 0))) := below_row hb (row_lt Q1.out) Q1.out
 have S2 : Hid (IntsAt w2 sa S) := S1.out.below hb
 have O2 : Hid (IntsAt w2 pa P) := ints_ownL ho
 clear hb ho B1 P1 Q1 S1 PK
 have D3 : Hid (DL w2 (w2.alloc (.cells #[.slice ra nR rc, .slice la l lc] 36)) S P R L 0 ra nR rc la l lc R L) := by
   have h2 : Below w2.heap.size w2 (w2.alloc (.cells #[.slice ra nR rc, .slice la l lc] 36)) := (Below.refl _ _).alloc (Nat.le_refl _) _
   have hw := B2.out.trans (h2.mono B2.out.size)
   exact ⟨h2, heap_alloc_new _ _, HR.out.below hw, HRN.out, HL.out.below hw, HLN.out, HI.out, rfl, rfl, HFR.out, HFL.out, HC.out⟩
 obtain ⟨p1, p2⟩ := cells2 P2.out
 go_wp2_with fail
 clear p1 p2
 generalize w2.alloc (.cells #[.slice ra nR rc, .slice la l lc] 36) = W3 at *
 go_loopw [32] (fun t wr => ∃ (i : Nat) (ra2 : Option Addr) (n2 rc2 : Nat) (la2 : Option Addr) (l2 lc2 : Nat) (R2 : List RT) (L2 : List Int), i <= m /\ t = .int .i64 i /\ DL w2 wr S P R L i ra2 n2 rc2 la2 l2 lc2 R2 L2) (fun t _ => m - (intOf t).toNat)
 case atStart => exact ⟨0, ra, nR, rc, la, l, lc, R, L, Nat.zero_le _, rfl, D3.out⟩
 case round =>
   clear D3
   obtain ⟨i, ra2, n2, rc2, la2, l2, lc2, R2, L2, hi, rfl, hD⟩ := hrel
   have DR : Hid (DL w2 wr S P R L i ra2 n2 rc2 la2 l2 lc2 R2 L2) := hD
   clear hD
   by_cases hlt : i < m
   · have hltI : (i : Int) < (m : Int) := by omega
     obtain ⟨pk, hpk⟩ := Int.eq_ofNat_of_zero_le (HP.out i hlt).1
     have HPK : Hid (P.getD i 0 = (pk : Int)) := hpk
     have hpN : pk < N := by have := (HP.out i hlt).2; omega
     clear hpk
     obtain ⟨bp, op, hpa, hc1⟩ := (O2.out.below DR.out.b) i (by rw [HM.out]; exact hlt)
     obtain ⟨bs, os2, hsa, hc2⟩ := (S2.out.below DR.out.b) pk (by rw [HNN.out]; exact hpN)
     subst hpa
     subst hsa
     rw [HPK.out] at hc1
     have HX : Hid (S.getD pk 0 = pkd S P i) := by show _ = _; unfold pkd; rw [HPK.out]; rfl
     rw [HX.out] at hc2
     obtain ⟨k, at_, hk, hno, hat, hin, hid⟩ := DR.out.iv.at (DR.out.iv.mm i (Nat.le_refl _) (by rw [HM.out]; exact hlt))
     have LV : Hid (∀ W, Below wr.heap.size wr W -> Calls Tryz.prog 64 #[.agg #[.slice ra2 n2 rc2, .slice la2 l2 lc2], .int .i64 (pkd S P i)] W (LeaveOk W R2 L2 (pkd S P i) (R2.getD k rt0) at_)) := fun W hW => by
       have D := DR.out.below hW
       have hll := D.iv.ll
       rw [HLN.out] at hll
       have hl2 := D.ln
       exact leaving_any ra2 la2 n2 rc2 l2 lc2 k R2 L2 (pkd S P i) W D.r D.rn (by have := D.iv.ln; have := D.rn; omega) D.iv.rs D.fr D.s D.ln (by omega) (upI_of_pair D.iv.up) D.fl (fun j hj => D.iv.sm _ (getD_mem hj)) hk hno at_ hat hin
     have STP : Hid (∀ W e w1, Below wr.heap.size wr W -> LeaveOk W R2 L2 (pkd S P i) (R2.getD k rt0) at_ e w1 -> ∃ (ra3 : Option Addr) (n3 rc3 : Nat) (la3 : Option Addr) (l3 lc3 : Nat) (R3 : List RT) (L3 : List Int), e = .returned (.agg #[.slice ra3 n3 rc3, .slice la3 l3 lc3]) /\ Below W.heap.size W w1 /\ DL w2 ((w1.setCell ⟨w2.heap.size, 0, none⟩ (.slice ra3 n3 rc3)).setCell ⟨w2.heap.size, 1, none⟩ (.slice la3 l3 lc3)) S P R L (i + 1) ra3 n3 rc3 la3 l3 lc3 R3 L3) := fun W e w1 hW ht => (DR.out.below hW).step HD.out (by rw [HM.out]; exact hlt) hk hin hid ht
     clear hk hno hat hin hid
     obtain ⟨x, HX2⟩ : ∃ v, Hid (pkd S P i = v) := ⟨_, rfl⟩
     rw [HX2.out] at hc2 LV STP
     obtain ⟨y0, y1⟩ := cells2 DR.out.x
     have z0 := fun s : Kin wr => s.cell y0
     have z1 := fun s : Kin wr => s.cell y1
     have z2 := fun s : Kin wr => s.cell hc2
     have hkin := Kin.there wr
     go_wp2_with fail
     refine wp_region_kin_tail 5 (by kernel_rfl) (by kernel_rfl) ?_
     simp only [List.take_succ_cons, List.take_zero, List.drop_succ_cons, List.drop_zero]
     repeat (go_big_quiet_step (fail))
     refine wpQuiet_nil ?_
     rintro _ ⟨s, rfl⟩
     clear z0 z1 z2 hkin y0 y1 hc1 hc2
     have BS : Hid (Below wr.heap.size wr s.w) := s.below
     generalize s.w = w5 at *
     go_wp2_with fail
     refine (LV.out w5 BS.out).mono ?_
     intro e w6 ht
     obtain ⟨ra3, n3, rc3, la3, l3, lc3, R3, L3, rfl, hb6, hD6⟩ := STP.out w5 e w6 BS.out ht
     have D6 : Hid (DL w2 ((w6.setCell ⟨w2.heap.size, 0, none⟩ (.slice ra3 n3 rc3)).setCell ⟨w2.heap.size, 1, none⟩ (.slice la3 l3 lc3)) S P R L (i + 1) ra3 n3 rc3 la3 l3 lc3 R3 L3) := hD6
     have X6 : Hid (w6.heap[w2.heap.size]? = some (.cells #[.slice ra2 n2 rc2, .slice la2 l2 lc2] 36 (0, 0))) := by
       have h5 := below_row BS.out (row_lt DR.out.x) DR.out.x
       exact below_row hb6 (row_lt h5) h5
     clear ht hb6 hD6 LV STP BS DR
     obtain ⟨y0, y1⟩ := cells2 X6.out
     have yf := fun i => frozen_of_row _ _ i _ _ X6.out
     go_wp2
     first
       | exact ⟨⟨i + 1, ra3, n3, rc3, la3, l3, lc3, R3, L3, by omega, by go_num, D6.out⟩, by simp [intOf]; omega⟩
       | (go_roundw
          case rel => exact ⟨i + 1, ra3, n3, rc3, la3, l3, lc3, R3, L3, by omega, by go_num, D6.out⟩
          case measure => simp [intOf]; omega)
   · have hie : i = m := by omega
     subst hie
     have hnl : ¬ ((i : Int) < (i : Int)) := by omega
     clear hlt
     have B5 : Hid (Below w.heap.size w wr) := B2.out.trans (DR.out.b.mono B2.out.size)
     obtain ⟨c0, c1, c2, c3, c4⟩ := cells5 (below_row B5.out (row_lt HCB.out) HCB.out)
     obtain ⟨y0, y1⟩ := cells2 DR.out.x
     have PC := PCD.out wr ra2 la2 n2 rc2 l2 lc2 R2 L2 B5.out DR.out.r DR.out.rn DR.out.s DR.out.ln DR.out.iv (by rw [<- HF.out]; exact DR.out.kr) (by rw [<- HF.out]; exact DR.out.kl) DR.out.c
     go_wp2_with fail
     clear c0 c1 c2 c3 c4 y0 y1
     refine PC.mono ?_
     rintro e w7 ⟨rfl, hb7⟩
     have D7 : Hid (DL w2 w7 S P R L i ra2 n2 rc2 la2 l2 lc2 R2 L2) := DR.out.below hb7
     have B7 : Hid (Below w.heap.size w w7) := B2.out.trans (D7.out.b.mono B2.out.size)
     have P7 : Hid (w7.heap[q]? = some (.cells #[.slice ra nR rc, .slice la l lc] 36 (0, 0))) := below_row D7.out.b (row_lt P2.out) P2.out
     have Q7 : Hid (w7.heap[q1]? = some (.cells #[.slice none 0 0, .slice none 0 0] 36 (0, 0))) := below_row D7.out.b (row_lt Q2.out) Q2.out
     have hqw : w.heap.size <= q1 := by have := HQ1.out; omega
     clear hb7 PC PCD DR B5 P2 Q2 S2 O2
     obtain ⟨v0, v1⟩ := cells2 Q7.out
     have vf := fun i => frozen_of_row _ _ i _ _ Q7.out
     by_cases hz : pv = 0
     · have hz1 : (pv != 0) = false := by rw [hz]; rfl
       have ROW : ((w7.setCell ⟨q1, 0, none⟩ (.slice ra2 n2 rc2)).setCell ⟨q1, 1, none⟩ (.slice la2 l2 lc2)).heap[q1]? = some (.cells #[.slice ra2 n2 rc2, .slice la2 l2 lc2] 36 (0, 0)) := by
         have := heap_setCell_same _ q1 1 _ _ (.slice la2 l2 lc2) (heap_setCell_same w7 q1 0 _ _ (.slice ra2 n2 rc2) Q7.out)
         simpa using this
       have TOLD : Hid (DestOk n fine zs os vs ko kv S P last ra nR rc la l lc R L w (.returned (.tuple #[.agg #[.slice ra2 n2 rc2, .slice la2 l2 lc2], .int .i64 last, .bool true])) ((w7.setCell ⟨q1, 0, none⟩ (.slice ra2 n2 rc2)).setCell ⟨q1, 1, none⟩ (.slice la2 l2 lc2))) := by
         have hx1 : (w7.setCell ⟨q1, 0, none⟩ (.slice ra2 n2 rc2)).heap[q1]? = some (.cells #[.slice ra2 n2 rc2, .slice none 0 0] 36 (0, 0)) := by
           have := heap_setCell_same w7 q1 0 _ _ (.slice ra2 n2 rc2) Q7.out
           simpa using this
         refine ⟨(B7.out.setCell hqw _).setCell hqw _, .inl ⟨by rw [HM.out, HF.out]; exact HPV.out.trans hz, ra2, n2, rc2, la2, l2, lc2, R2, L2, rfl, routes_boxL (routes_boxL D7.out.r Q7.out 0 _) hx1 1 _, D7.out.rn, ints_boxL (ints_boxL D7.out.s Q7.out 0 _) hx1 1 _, D7.out.ln, by rw [HM.out]; exact D7.out.kr, by rw [HM.out]; exact D7.out.kl, by rw [HM.out]; exact D7.out.iv, D7.out.fl⟩⟩
       obtain ⟨r0, r1⟩ := cells2 ROW
       obtain ⟨y0, y1⟩ := cells2 D7.out.x
       clear D7 B7 P7 Q7 ROW
       go_wp2
       exact bodyPost_ret (v := .tuple #[.agg #[.slice ra2 n2 rc2, .slice la2 l2 lc2], .int .i64 last, .bool true]) (by simp [results, Tryz.results61, go_sem, r0, r1]) rfl TOLD.out
     · have hz1 : (pv != 0) = true := by simp [hz]
       have ROW : ((w7.setCell ⟨q1, 0, none⟩ (.slice ra nR rc)).setCell ⟨q1, 1, none⟩ (.slice la l lc)).heap[q1]? = some (.cells #[.slice ra nR rc, .slice la l lc] 36 (0, 0)) := by
         have := heap_setCell_same _ q1 1 _ _ (.slice la l lc) (heap_setCell_same w7 q1 0 _ _ (.slice ra nR rc) Q7.out)
         simpa using this
       have TOLD : Hid (DestOk n fine zs os vs ko kv S P last ra nR rc la l lc R L w (.returned (.tuple #[.agg #[.slice ra nR rc, .slice la l lc], .int .i64 last, .bool false])) ((w7.setCell ⟨q1, 0, none⟩ (.slice ra nR rc)).setCell ⟨q1, 1, none⟩ (.slice la l lc))) :=
         ⟨(B7.out.setCell hqw _).setCell hqw _, .inr ⟨by rw [HM.out, HF.out, HPV.out]; exact hz, rfl⟩⟩
       obtain ⟨r0, r1⟩ := cells2 ROW
       obtain ⟨y0, y1⟩ := cells2 P7.out
       clear D7 B7 P7 Q7 ROW
       go_wp2
       exact bodyPost_ret (v := .tuple #[.agg #[.slice ra nR rc, .slice la l lc], .int .i64 last, .bool false]) (by simp [results, Tryz.results61, go_sem, r0, r1]) rfl TOLD.out
end Go.Proofs.YtjlhmkmhehcmkaaGreat