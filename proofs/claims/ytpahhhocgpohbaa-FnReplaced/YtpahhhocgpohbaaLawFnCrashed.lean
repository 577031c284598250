import Derived.Test.YtpahhhocgpohbaaPack1
import Derived.Test.YtpahhhocgpohbaaPack14
import Derived.Test.YtpahhhocgpohbaaPack18
import Derived.Test.YtpahhhocgpohbaaDrawDisk
import Derived.Test.YtpahhhocgpohbaaPack30
namespace Go.Proofs.Ytpahhhocgpohbaa
open Go.RowKit

set_option maxHeartbeats 2000000 in
theorem drawDiskOk_any (a : Option Addr) (c : Nat) (bs : List Int) (w : World) (h : CodeAt w a bs) (hl : bs.length ≤ 1048576) :
    Calls Try.prog 7 #[.slice a bs.length c] w fun e w' => ∃ (la sa oa : Option Addr) (ln sn on lc sc oc : Nat) (L S : List FI) (O : List OP), e = .returned (.agg #[.slice la ln lc, .slice sa sn sc, .slice oa on oc]) ∧ DAt w' la sa oa L S O ∧ DskOk L S O ∧ (L.length = ln ∧ S.length = sn ∧ O.length = on) ∧ (on ≤ oc ∧ (oa = none → on = 0 ∧ oc = 0)) ∧ Below w.heap.size w w' := by
  have H : Hid (CodeAt w a bs) := h
  clear h
  have RB : Hid ((w.alloc (.cells #[.slice none 0 0, .slice none 0 0, .slice none 0 0] 27)).heap[w.heap.size]? = some (.cells #[.slice none 0 0, .slice none 0 0, .slice none 0 0] 27 (0, 0))) := heap_alloc_new _ _
  have hb0 : Below w.heap.size w (w.alloc (.cells #[.slice none 0 0, .slice none 0 0, .slice none 0 0] 27)) := (Below.refl _ _).alloc (Nat.le_refl _) _
  have B0 : Hid (Below w.heap.size w (w.alloc (.cells #[.slice none 0 0, .slice none 0 0, .slice none 0 0] 27))) := hb0
  have H0 : Hid (CodeAt (w.alloc (.cells #[.slice none 0 0, .slice none 0 0, .slice none 0 0] 27)) a bs) := fun j hj => by
    obtain ⟨b, off, e, hc, hv⟩ := H.out j hj
    exact ⟨b, off, e, (hb0.cell (p := ⟨b, off + j, none⟩) (block_lt_of_cell hc)).trans hc, hv⟩
  clear hb0 H
  go_enter Try.func7, Try.ntmps7
  go_wp2_with fail
  generalize w.alloc (.cells #[.slice none 0 0, .slice none 0 0, .slice none 0 0] 27) = W0 at *
  refine (l1Open_any a c bs W0 H0.out hl).mono ?_
  rintro e w1 ⟨rfl, hb, hr⟩
  have B1 : Hid (Below w.heap.size w w1) := B0.out.trans (hb.mono B0.out.size)
  have RB1 : Hid (w1.heap[w.heap.size]? = some (.cells #[.slice none 0 0, .slice none 0 0, .slice none 0 0] 27 (0, 0))) := below_row hb (row_lt RB.out) RB.out
  have R1 : Hid (RD w1 W0.heap.size a bs c 0) := hr
  have HQ : Hid (w.heap.size < W0.heap.size) := row_lt RB.out
  clear hb hr RB H0 B0
  generalize W0.heap.size = q at *
  go_wp2_with fail
  refine (disk_any q 0 c a bs w1 R1.out).mono ?_
  rintro e w2 ⟨la, sa, oa, ln, sn, on, lc, sc, oc, p, L, S, O, rfl, hd, hk, hn, hc, -, hr, hg⟩
  have B2 : Hid (Below w.heap.size w w2) := grown_below B1.out (by have := HQ.out; omega) hg
  have RB2 : Hid (w2.heap[w.heap.size]? = some (.cells #[.slice none 0 0, .slice none 0 0, .slice none 0 0] 27 (0, 0))) := row_gq RB1.out (row_lt RB1.out) hg (by have := HQ.out; omega)
  have D2 : Hid (DAt w2 la sa oa L S O) := hd
  have FN : Hid (Below w.heap.size w (((w2.setCell ⟨w.heap.size, 0, none⟩ (.slice la ln lc)).setCell ⟨w.heap.size, 1, none⟩ (.slice sa sn sc)).setCell ⟨w.heap.size, 2, none⟩ (.slice oa on oc)) ∧ DAt (((w2.setCell ⟨w.heap.size, 0, none⟩ (.slice la ln lc)).setCell ⟨w.heap.size, 1, none⟩ (.slice sa sn sc)).setCell ⟨w.heap.size, 2, none⟩ (.slice oa on oc)) la sa oa L S O) := ⟨((B2.out.setCell (Nat.le_refl _) _).setCell (Nat.le_refl _) _).setCell (Nat.le_refl _) _, D2.out.box3 RB2.out⟩
  have HK : Hid (DskOk L S O) := hk
  have HN : Hid (L.length = ln ∧ S.length = sn ∧ O.length = on) := hn
  have HC : Hid (on ≤ oc ∧ (oa = none → on = 0 ∧ oc = 0)) := hc
  have RZ := boxW (u := .slice la ln lc) (v := .slice sa sn sc) (x := .slice oa on oc) RB2.out
  obtain ⟨r0, r1, r2⟩ := cells3 RZ
  obtain ⟨y0, y1, y2⟩ := cells3 RB2.out
  have yf := fun i => frozen_of_row _ _ i _ _ RB2.out
  clear hd hk hn hc hr hg R1 RZ
  go_wp2
  refine bodyPost_ret (v := .agg #[.slice la ln lc, .slice sa sn sc, .slice oa on oc]) (by simp [results, Try.results7, go_sem, r0, r1, r2]) rfl ⟨la, sa, oa, ln, sn, on, lc, sc, oc, L, S, O, rfl, FN.out.2, HK.out, HN.out, HC.out, FN.out.1⟩

theorem own_intsL {w : World} {base m c : Nat} {ad : Option Addr} {L : List Int} (h : w.ownsRow base 2 1 (.slice ad m c) m (L.map (Value.int .i64))) (hl : L.length = m) : IntsAt w ad L := by
  rw [← hl] at h
  obtain ⟨a', c', e, _, hi⟩ := owns_at1 h
  have e2 : ad = a' := by injection e
  rw [e2]
  exact hi
theorem own_newI (W : World) : (W.alloc (.cells #[] 2)).ownsRow W.heap.size 2 1 (.slice (some ⟨W.heap.size, 0, none⟩) 0 0) 0 ((idL 0).map (Value.int .i64)) := World.ownsRow_made W #[] 0 (Nat.le_refl _) (by unfold maxLen; omega) (by simp)

set_option maxHeartbeats 8000000 in
set_option maxRecDepth 20000 in
theorem lawFnCrashed (a : Option Addr) (c : Nat) (bs : List Int) (w : World) (h : CodeAt w a bs) (hl : bs.length ≤ 9223372036854775807) :
    Calls Try.prog 3 #[.slice a bs.length c] w fun e w' => e = .returned (.bool true) ∧ Below w.heap.size w w' := by
  have H : Hid (CodeAt w a bs) := h
  clear h
  by_cases hbig : 1048576 < bs.length
  · go_enter Try.func3, Try.ntmps3
    go_wp2_with fail
    refine (big_any a c bs.length w hl).mono ?_
    rintro e w1 ⟨rfl, rfl⟩
    rw [decide_eq_true hbig]
    go_wp2
    go_ret
    exact ⟨rfl, Below.refl _ _⟩
  have hbl : bs.length ≤ 1048576 := by omega
  have DW : Hid (Calls Try.prog 7 #[.slice a bs.length c] w fun e w' => ∃ (la sa oa : Option Addr) (ln sn on lc sc oc : Nat) (L S : List FI) (O : List OP), e = .returned (.agg #[.slice la ln lc, .slice sa sn sc, .slice oa on oc]) ∧ DAt w' la sa oa L S O ∧ DskOk L S O ∧ (L.length = ln ∧ S.length = sn ∧ O.length = on) ∧ (on ≤ oc ∧ (oa = none → on = 0 ∧ oc = 0)) ∧ Below w.heap.size w w') := drawDiskOk_any a c bs w H.out hbl
  clear H hbl
  go_enter Try.func3, Try.ntmps3
  go_wp2_with fail
  refine (big_any a c bs.length w hl).mono ?_
  rintro e w0 ⟨rfl, hw⟩
  replace hw := hw.symm
  subst hw
  rw [decide_eq_false hbig]
  go_wp2_with fail
  refine DW.out.mono ?_
  rintro e w1 ⟨la, sa, oa, ln, sn, on, lc, sc, oc, L, S, O, rfl, hd, hk, ⟨hln, hsn, hon⟩, -, hb⟩
  have B1 : Hid (Below w.heap.size w w1) := hb
  have A1 : Hid (DAt w1 la sa oa L S O) := hd
  have HK : Hid (DskOk L S O) := hk
  have HLN : Hid (L.length = ln) := hln
  have HSN : Hid (S.length = sn) := hsn
  have HON : Hid (O.length = on) := hon
  have bl : ln ≤ 1048576 := by rw [← hln]; exact hk.ln
  have bs' : sn ≤ 1048576 := by rw [← hsn]; exact hk.sn
  have bo : on ≤ 1048576 := by rw [← hon]; exact hk.on
  clear hd hk hln hsn hon hb DW hbig
  cases hd : dskB L S O
  · have CA : Hid (∀ W ka kc, DAt W la sa oa L S O → IntsAt W ka (idL on) → Calls Try.prog 10 #[.agg #[.slice la ln lc, .slice sa sn sc, .slice oa on oc], .slice ka on kc, .int .i64 1099511627776] W fun e w' => ∃ a1 c1 a2 c2, e = .returned (.tuple #[.agg #[.slice a1 0 c1, .slice a2 0 c2, .slice none 0 0], .bool false]) ∧ Below W.heap.size W w' ∧ DA w' W.heap.size (.slice a1 0 c1) (.slice a2 0 c2) (.slice none 0 0) [] [] []) := fun W ka kc hD hI => by
      obtain ⟨e1, e2⟩ := crash_no (K := idL on) (t := 1099511627776) hd
      have h := implCrash_any la sa oa ka lc sc oc ln sn on on kc 0 1099511627776 false L S O (idL on) W hD HK.out hI HLN.out HSN.out HON.out (idL_len on) bo e1 (by rw [e2]; rfl)
      rw [e2] at h
      exact h
    have CN : Hid (∀ W, DAt W la sa oa L S O → Calls Try.prog 10 #[.agg #[.slice la ln lc, .slice sa sn sc, .slice oa on oc], .slice none 0 0, .int .i64 0] W fun e w' => ∃ a1 c1 a2 c2, e = .returned (.tuple #[.agg #[.slice a1 0 c1, .slice a2 0 c2, .slice none 0 0], .bool false]) ∧ Below W.heap.size W w' ∧ DA w' W.heap.size (.slice a1 0 c1) (.slice a2 0 c2) (.slice none 0 0) [] [] []) := fun W  hD => by
      obtain ⟨e1, e2⟩ := crash_no (K := []) (t := 0) hd
      have h := implCrash_any la sa oa none lc sc oc ln sn on 0 0 0 0 false L S O [] W hD HK.out (fun j hj => by simp at hj) HLN.out HSN.out HON.out rfl (by omega) e1 (by rw [e2]; rfl)
      rw [e2] at h
      exact h
    have ID : Hid (∀ W, DAt W la sa oa L S O → Calls Try.prog 8 #[.agg #[.slice la ln lc, .slice sa sn sc, .slice oa on oc]] W fun e w' => e = .returned (.bool false) ∧ Below W.heap.size W w') := fun W hD => by
      rw [← hd]
      exact implDisk_any la sa oa lc sc oc ln sn on L S O W hD HK.out HLN.out HSN.out HON.out
    have SD : Hid (∀ W, DAt W la sa oa L S O → Calls Try.prog 9 #[.agg #[.slice la ln lc, .slice sa sn sc, .slice oa on oc]] W fun e w' => e = .returned (.bool false) ∧ Below W.heap.size W w') := fun W hD => by
      rw [← hd]
      exact specDisk_at la sa oa lc sc oc ln sn on L S O W hD HK.out HLN.out HSN.out HON.out
    clear hd
    have hb2 : Below w1.heap.size w1 (w1.alloc (.cells #[.slice la ln lc, .slice sa sn sc, .slice oa on oc] 27)) := (Below.refl _ _).alloc (Nat.le_refl _) _
    have B2 : Hid (Below w.heap.size w (w1.alloc (.cells #[.slice la ln lc, .slice sa sn sc, .slice oa on oc] 27))) := B1.out.trans (hb2.mono B1.out.size)
    have A2 : Hid (DAt (w1.alloc (.cells #[.slice la ln lc, .slice sa sn sc, .slice oa on oc] 27)) la sa oa L S O) := A1.out.below hb2
    clear B1 A1
    have M2 : Hid ((w1.alloc (.cells #[.slice la ln lc, .slice sa sn sc, .slice oa on oc] 27)).heap[w1.heap.size]? = some (.cells #[.slice la ln lc, .slice sa sn sc, .slice oa on oc] 27 (0, 0))) := heap_alloc_new _ _
    clear hb2
    go_upto_region 4 with fail
    obtain ⟨i3, HI3⟩ : ∃ i, Hid (w1.heap.size = i) := ⟨_, rfl⟩
    rw [HI3.out] at M2 ⊢
    generalize (w1.alloc (.cells #[.slice la ln lc, .slice sa sn sc, .slice oa on oc] 27)) = w2 at *
    clear HI3
    have kS := cells3 (below_row (Below.refl _ _).drew (row_lt M2.out) M2.out)
    go_region_held3 (fun W => W.cell? ⟨i3, 0, none⟩ = some (.slice la ln lc) ∧ W.cell? ⟨i3, 1, none⟩ = some (.slice sa sn sc) ∧ W.cell? ⟨i3, 2, none⟩ = some (.slice oa on oc)) (first | with_reducible exact kS) ((first
      | (go_at_call 8
         with_reducible refine (ID.out _ (A2.out.below (Below.refl _ _).drew)).mono ?_
         rintro e wa ⟨rfl, hba⟩
         have Q1 : Hid (Below w2.heap.size w2 wa) := Below.trans (Below.refl _ _).drew hba
         have kS := cells3 (below_row Q1.out (row_lt M2.out) M2.out)
         clear hba)
      | (go_at_call 9
         with_reducible refine (SD.out wa (A2.out.below Q1.out)).mono ?_
         rintro e wb ⟨rfl, hbb⟩
         have Q2 : Hid (Below w2.heap.size w2 wb) := Q1.out.trans (hbb.mono Q1.out.size)
         have kS := cells3 (below_row Q2.out (row_lt M2.out) M2.out)
         clear hbb Q1)))
    clear kS
    have B3 : Hid (Below w.heap.size w wb) := B2.out.trans (Q2.out.mono B2.out.size)
    have A3 : Hid (DAt wb la sa oa L S O) := A2.out.below Q2.out
    have M3 : Hid (wb.heap[i3]? = some (.cells #[.slice la ln lc, .slice sa sn sc, .slice oa on oc] 27 (0, 0))) := below_row Q2.out (row_lt M2.out) M2.out
    clear B2 A2 M2
    clear Q2
    go_wp2_with fail
    go_loopw [4, 5] (fun t4 t5 wr => ∃ (i : Nat) (ka : Option Addr) (kc : Nat), i ≤ on ∧ t5 = .int .i64 i ∧ t4 = .slice ka i kc ∧ wr.ownsRow wb.heap.size 2 1 (.slice ka i kc) i ((idL i).map (Value.int .i64)) ∧ Below wb.heap.size wb wr) (fun _ t5 _ => on - (intOf t5).toNat)
    case atStart => exact ⟨0, _, _, Nat.zero_le _, rfl, rfl, own_newI _, (Below.refl _ _).alloc (Nat.le_refl _) _⟩
    case round =>
      obtain ⟨i, ka, kc, hi, rfl, rfl, hown, hbr⟩ := hrel
      have OR : Hid (wr.ownsRow wb.heap.size 2 1 (.slice ka i kc) i ((idL i).map (Value.int .i64))) := hown
      have BR : Hid (Below wb.heap.size wb wr) := hbr
      obtain ⟨z0, z1, z2⟩ := cells3 (below_row hbr (row_lt M3.out) M3.out)
      clear hown
      by_cases hlt : i < on
      · have hin : (i : Int) < on := by omega
        have hb4 : Below wr.heap.size wr (wr.alloc (.cells #[.int .i64 (i : Int)] 2)) := (Below.refl _ _).alloc (Nat.le_refl _) _
        have OA : Hid ((wr.alloc (.cells #[.int .i64 (i : Int)] 2)).ownsRow wb.heap.size 2 1 (.slice ka i kc) i ((idL i).map (Value.int .i64))) := own_blw OR.out hb4
        have BA : Hid (Below wb.heap.size wb (wr.alloc (.cells #[.int .i64 (i : Int)] 2))) := BR.out.trans (hb4.mono BR.out.size)
        have HFC : Hid (∀ j u, [Value.int .i64 (i : Int)][j]? = some u → ∃ b off, some (⟨wr.heap.size, 0, none⟩ : Addr) = some ⟨b, off, none⟩ ∧ (wr.alloc (.cells #[.int .i64 (i : Int)] 2)).cell? ⟨b, off + j, none⟩ = some u) := fun j u hu => ⟨_, 0, rfl, by rw [Nat.zero_add, cell_of_row _ _ j _ _ _ (heap_alloc_new _ _)]; simpa using hu⟩
        clear hb4 hbr
        go_wp2_with (
          at_builtin
          refine append_opt Try.underlying30 Try.info2 rfl (by decide) _ rfl _ _ rfl wb.heap.size (.slice ka i kc) i ((idL i).map (Value.int .i64)) rfl OA.out (some ⟨wr.heap.size, 0, none⟩) 1 1 [Value.int .i64 (i : Int)] rfl rfl HFC.out (by simp [Value.oneCell']) (by omega) (by omega) BA.out.size ?_
          intro v' w4 hown hg hbk hnl
          obtain ⟨na, nc, rfl⟩ := own_anyV hown
          have O4 : Hid (w4.ownsRow wb.heap.size 2 1 (.slice na (i + 1) nc) (i + 1) ((idL (i + 1)).map (Value.int .i64))) := by show World.ownsRow _ _ _ _ _ _ _; rw [idL_succ, List.map_append]; exact hown
          have B4 : Hid (Below wb.heap.size wb w4) := BA.out.grown hg BA.out.size (fun k e => (OA.out.lt k e).1)
          clear hown hg hbk hnl)
        go_roundw
        case rel => exact ⟨i + 1, na, nc, by omega, by first | rfl | go_num, rfl, O4.out, B4.out⟩
        case measure => simp [intOf]; omega
      have hin : ¬ ((i : Int) < on) := by omega
      have hie : i = on := by omega
      rw [hie] at OR ⊢
      have IK : Hid (IntsAt wr ka (idL on)) := own_intsL OR.out (idL_len on)
      clear hie hlt hi hin OR z0 z1 z2
      have B4 : Hid (Below w.heap.size w wr) := B3.out.trans (hbr.mono B3.out.size)
      have A4 : Hid (DAt wr la sa oa L S O) := A3.out.below hbr
      have M4 : Hid (wr.heap[i3]? = some (.cells #[.slice la ln lc, .slice sa sn sc, .slice oa on oc] 27 (0, 0))) := below_row hbr (row_lt M3.out) M3.out
      clear B3 A3 M3
      clear hbr BR
      obtain ⟨zm4_0, zm4_1, zm4_2⟩ := cells3 M4.out
      go_wp2_with fail
      refine (CA.out wr ka kc A4.out IK.out).mono ?_
      rintro e w5 ⟨a1, c1, a2, c2, rfl, hb, hda⟩
      have B5 : Hid (Below w.heap.size w w5) := B4.out.trans (hb.mono B4.out.size)
      have A5 : Hid (DAt w5 la sa oa L S O) := A4.out.below hb
      have M5 : Hid (w5.heap[i3]? = some (.cells #[.slice la ln lc, .slice sa sn sc, .slice oa on oc] 27 (0, 0))) := below_row hb (row_lt M4.out) M4.out
      clear B4 A4 M4
      clear zm4_0 zm4_1 zm4_2
      clear hb IK
      have P5 : Hid (DA w5 wr.heap.size (.slice a1 0 c1) (.slice a2 0 c2) (.slice none 0 0) [] [] []) := hda
      clear hda
      have hb : Below w5.heap.size w5 (w5.alloc (.cells #[.slice a1 0 c1, .slice a2 0 c2, .slice none 0 0] 27)) := (Below.refl _ _).alloc (Nat.le_refl _) _
      have B6 : Hid (Below w.heap.size w (w5.alloc (.cells #[.slice a1 0 c1, .slice a2 0 c2, .slice none 0 0] 27))) := B5.out.trans (hb.mono B5.out.size)
      have A6 : Hid (DAt (w5.alloc (.cells #[.slice a1 0 c1, .slice a2 0 c2, .slice none 0 0] 27)) la sa oa L S O) := A5.out.below hb
      have M6 : Hid ((w5.alloc (.cells #[.slice a1 0 c1, .slice a2 0 c2, .slice none 0 0] 27)).heap[i3]? = some (.cells #[.slice la ln lc, .slice sa sn sc, .slice oa on oc] 27 (0, 0))) := below_row hb (row_lt M5.out) M5.out
      have P6 : Hid (DA (w5.alloc (.cells #[.slice a1 0 c1, .slice a2 0 c2, .slice none 0 0] 27)) wr.heap.size (.slice a1 0 c1) (.slice a2 0 c2) (.slice none 0 0) [] [] []) := P5.out.below hb
      clear B5 A5 M5 P5
      have N6 : Hid ((w5.alloc (.cells #[.slice a1 0 c1, .slice a2 0 c2, .slice none 0 0] 27)).heap[w5.heap.size]? = some (.cells #[.slice a1 0 c1, .slice a2 0 c2, .slice none 0 0] 27 (0, 0))) := heap_alloc_new _ _
      clear hb
      obtain ⟨zm6_0, zm6_1, zm6_2⟩ := cells3 M6.out
      go_wp2_with fail
      obtain ⟨i6, HIi6⟩ : ∃ i, Hid (w5.heap.size = i) := ⟨_, rfl⟩
      rw [HIi6.out] at N6 ⊢
      generalize (w5.alloc (.cells #[.slice a1 0 c1, .slice a2 0 c2, .slice none 0 0] 27)) = w6 at *
      clear HIi6
      refine (CN.out w6 A6.out).mono ?_
      rintro e w7 ⟨b1, e1, b2, e2, rfl, hb, hda⟩
      have B7 : Hid (Below w.heap.size w w7) := B6.out.trans (hb.mono B6.out.size)
      have A7 : Hid (DAt w7 la sa oa L S O) := A6.out.below hb
      have M7 : Hid (w7.heap[i3]? = some (.cells #[.slice la ln lc, .slice sa sn sc, .slice oa on oc] 27 (0, 0))) := below_row hb (row_lt M6.out) M6.out
      have P7 : Hid (DA w7 wr.heap.size (.slice a1 0 c1) (.slice a2 0 c2) (.slice none 0 0) [] [] []) := P6.out.below hb
      have N7 : Hid (w7.heap[i6]? = some (.cells #[.slice a1 0 c1, .slice a2 0 c2, .slice none 0 0] 27 (0, 0))) := below_row hb (row_lt N6.out) N6.out
      clear B6 A6 M6 P6 N6
      clear zm6_0 zm6_1 zm6_2
      clear hb
      have Q7 : Hid (DA w7 w6.heap.size (.slice b1 0 e1) (.slice b2 0 e2) (.slice none 0 0) [] [] []) := hda
      clear hda
      have hb : Below w7.heap.size w7 (w7.alloc (.cells #[.slice b1 0 e1, .slice b2 0 e2, .slice none 0 0] 27)) := (Below.refl _ _).alloc (Nat.le_refl _) _
      have B8 : Hid (Below w.heap.size w (w7.alloc (.cells #[.slice b1 0 e1, .slice b2 0 e2, .slice none 0 0] 27))) := B7.out.trans (hb.mono B7.out.size)
      have A8 : Hid (DAt (w7.alloc (.cells #[.slice b1 0 e1, .slice b2 0 e2, .slice none 0 0] 27)) la sa oa L S O) := A7.out.below hb
      have M8 : Hid ((w7.alloc (.cells #[.slice b1 0 e1, .slice b2 0 e2, .slice none 0 0] 27)).heap[i3]? = some (.cells #[.slice la ln lc, .slice sa sn sc, .slice oa on oc] 27 (0, 0))) := below_row hb (row_lt M7.out) M7.out
      have P8 : Hid (DA (w7.alloc (.cells #[.slice b1 0 e1, .slice b2 0 e2, .slice none 0 0] 27)) wr.heap.size (.slice a1 0 c1) (.slice a2 0 c2) (.slice none 0 0) [] [] []) := P7.out.below hb
      have N8 : Hid ((w7.alloc (.cells #[.slice b1 0 e1, .slice b2 0 e2, .slice none 0 0] 27)).heap[i6]? = some (.cells #[.slice a1 0 c1, .slice a2 0 c2, .slice none 0 0] 27 (0, 0))) := below_row hb (row_lt N7.out) N7.out
      have Q8 : Hid (DA (w7.alloc (.cells #[.slice b1 0 e1, .slice b2 0 e2, .slice none 0 0] 27)) w6.heap.size (.slice b1 0 e1) (.slice b2 0 e2) (.slice none 0 0) [] [] []) := Q7.out.below hb
      clear B7 A7 M7 P7 N7 Q7
      have U8 : Hid ((w7.alloc (.cells #[.slice b1 0 e1, .slice b2 0 e2, .slice none 0 0] 27)).heap[w7.heap.size]? = some (.cells #[.slice b1 0 e1, .slice b2 0 e2, .slice none 0 0] 27 (0, 0))) := heap_alloc_new _ _
      clear hb
      obtain ⟨zm8_0, zm8_1, zm8_2⟩ := cells3 M8.out
      go_wp2_with fail
      obtain ⟨i8, HIi8⟩ : ∃ i, Hid (w7.heap.size = i) := ⟨_, rfl⟩
      rw [HIi8.out] at U8 ⊢
      generalize (w7.alloc (.cells #[.slice b1 0 e1, .slice b2 0 e2, .slice none 0 0] 27)) = w8 at *
      clear HIi8
      refine (ID.out w8 A8.out).mono ?_
      rintro e w9 ⟨rfl, hb⟩
      have B9 : Hid (Below w.heap.size w w9) := B8.out.trans (hb.mono B8.out.size)
      have A9 : Hid (DAt w9 la sa oa L S O) := A8.out.below hb
      have M9 : Hid (w9.heap[i3]? = some (.cells #[.slice la ln lc, .slice sa sn sc, .slice oa on oc] 27 (0, 0))) := below_row hb (row_lt M8.out) M8.out
      have P9 : Hid (DA w9 wr.heap.size (.slice a1 0 c1) (.slice a2 0 c2) (.slice none 0 0) [] [] []) := P8.out.below hb
      have N9 : Hid (w9.heap[i6]? = some (.cells #[.slice a1 0 c1, .slice a2 0 c2, .slice none 0 0] 27 (0, 0))) := below_row hb (row_lt N8.out) N8.out
      have Q9 : Hid (DA w9 w6.heap.size (.slice b1 0 e1) (.slice b2 0 e2) (.slice none 0 0) [] [] []) := Q8.out.below hb
      have U9 : Hid (w9.heap[i8]? = some (.cells #[.slice b1 0 e1, .slice b2 0 e2, .slice none 0 0] 27 (0, 0))) := below_row hb (row_lt U8.out) U8.out
      clear B8 A8 M8 P8 N8 Q8 U8
      clear zm8_0 zm8_1 zm8_2
      clear hb
      obtain ⟨zn9_0, zn9_1, zn9_2⟩ := cells3 N9.out
      go_wp2
      go_ret
      exact ⟨rfl, B9.out⟩
  · have CA : Hid (∀ W ka kc, DAt W la sa oa L S O → IntsAt W ka (idL on) → Calls Try.prog 10 #[.agg #[.slice la ln lc, .slice sa sn sc, .slice oa on oc], .slice ka on kc, .int .i64 1099511627776] W fun e w' => ∃ a1 c1 a2 c2, e = .returned (.tuple #[.agg #[.slice a1 ln c1, .slice a2 ln c2, .slice none 0 0], .bool true]) ∧ Below W.heap.size W w' ∧ DA w' W.heap.size (.slice a1 ln c1) (.slice a2 ln c2) (.slice none 0 0) L L []) := fun W ka kc hD hI => by
      obtain ⟨e1, e2⟩ := (by have h := crash_all hd HK.out.os; rw [HON.out] at h; exact h : crB L S O (idL on) 1099511627776 = true ∧ crL L S O (idL on) 1099511627776 = L)
      have h := implCrash_any la sa oa ka lc sc oc ln sn on on kc ln 1099511627776 true L S O (idL on) W hD HK.out hI HLN.out HSN.out HON.out (idL_len on) bo e1 (by rw [e2]; exact HLN.out)
      rw [e2] at h
      exact h
    have CN : Hid (∀ W, DAt W la sa oa L S O → Calls Try.prog 10 #[.agg #[.slice la ln lc, .slice sa sn sc, .slice oa on oc], .slice none 0 0, .int .i64 0] W fun e w' => ∃ a1 c1 a2 c2, e = .returned (.tuple #[.agg #[.slice a1 sn c1, .slice a2 sn c2, .slice none 0 0], .bool true]) ∧ Below W.heap.size W w' ∧ DA w' W.heap.size (.slice a1 sn c1) (.slice a2 sn c2) (.slice none 0 0) S S []) := fun W  hD => by
      obtain ⟨e1, e2⟩ := crash_none hd
      have h := implCrash_any la sa oa none lc sc oc ln sn on 0 0 sn 0 true L S O [] W hD HK.out (fun j hj => by simp at hj) HLN.out HSN.out HON.out rfl (by omega) e1 (by rw [e2]; exact HSN.out)
      rw [e2] at h
      exact h
    have ID : Hid (∀ W, DAt W la sa oa L S O → Calls Try.prog 8 #[.agg #[.slice la ln lc, .slice sa sn sc, .slice oa on oc]] W fun e w' => e = .returned (.bool true) ∧ Below W.heap.size W w') := fun W hD => by
      rw [← hd]
      exact implDisk_any la sa oa lc sc oc ln sn on L S O W hD HK.out HLN.out HSN.out HON.out
    have SD : Hid (∀ W, DAt W la sa oa L S O → Calls Try.prog 9 #[.agg #[.slice la ln lc, .slice sa sn sc, .slice oa on oc]] W fun e w' => e = .returned (.bool true) ∧ Below W.heap.size W w') := fun W hD => by
      rw [← hd]
      exact specDisk_at la sa oa lc sc oc ln sn on L S O W hD HK.out HLN.out HSN.out HON.out
    have SY : Hid (∀ W, DAt W la sa oa L S O → Calls Try.prog 11 #[.agg #[.slice la ln lc, .slice sa sn sc, .slice oa on oc]] W fun e w' => ∃ a1 c1 a2 c2 a3 c3, e = .returned (.agg #[.slice a1 ln c1, .slice a2 ln c2, .slice a3 0 c3]) ∧ Below W.heap.size W w' ∧ DA w' W.heap.size (.slice a1 ln c1) (.slice a2 ln c2) (.slice a3 0 c3) L L []) := fun W hD => by
      have h := implSync_any la sa oa lc sc oc ln sn on ln L S O W hD HK.out HLN.out HSN.out HON.out (by rw [sy_right hd]; exact HLN.out)
      rw [sy_right hd] at h
      exact h
    have SM : Hid (∀ W x y n a1 a2 F, F.length = n → n ≤ 1048576 → FilesAt W x F → FilesAt W y F → Calls Try.prog 12 #[.slice x n a1, .slice y n a2] W fun e w' => e = .returned (.bool true) ∧ Below W.heap.size W w') := fun W x y n a1 a2 F hn hb h1 h2 => by
      subst hn
      have h := sameFiles_any x y a1 a2 F F W h1 h2 hb hb
      rw [decide_eq_true rfl] at h
      exact h
    clear hd
    have hb2 : Below w1.heap.size w1 (w1.alloc (.cells #[.slice la ln lc, .slice sa sn sc, .slice oa on oc] 27)) := (Below.refl _ _).alloc (Nat.le_refl _) _
    have B2 : Hid (Below w.heap.size w (w1.alloc (.cells #[.slice la ln lc, .slice sa sn sc, .slice oa on oc] 27))) := B1.out.trans (hb2.mono B1.out.size)
    have A2 : Hid (DAt (w1.alloc (.cells #[.slice la ln lc, .slice sa sn sc, .slice oa on oc] 27)) la sa oa L S O) := A1.out.below hb2
    clear B1 A1
    have M2 : Hid ((w1.alloc (.cells #[.slice la ln lc, .slice sa sn sc, .slice oa on oc] 27)).heap[w1.heap.size]? = some (.cells #[.slice la ln lc, .slice sa sn sc, .slice oa on oc] 27 (0, 0))) := heap_alloc_new _ _
    clear hb2
    go_upto_region 4 with fail
    obtain ⟨i3, HI3⟩ : ∃ i, Hid (w1.heap.size = i) := ⟨_, rfl⟩
    rw [HI3.out] at M2 ⊢
    generalize (w1.alloc (.cells #[.slice la ln lc, .slice sa sn sc, .slice oa on oc] 27)) = w2 at *
    clear HI3
    have kS := cells3 (below_row (Below.refl _ _).drew (row_lt M2.out) M2.out)
    go_region_held3 (fun W => W.cell? ⟨i3, 0, none⟩ = some (.slice la ln lc) ∧ W.cell? ⟨i3, 1, none⟩ = some (.slice sa sn sc) ∧ W.cell? ⟨i3, 2, none⟩ = some (.slice oa on oc)) (first | with_reducible exact kS) ((first
      | (go_at_call 8
         with_reducible refine (ID.out _ (A2.out.below (Below.refl _ _).drew)).mono ?_
         rintro e wa ⟨rfl, hba⟩
         have Q1 : Hid (Below w2.heap.size w2 wa) := Below.trans (Below.refl _ _).drew hba
         have kS := cells3 (below_row Q1.out (row_lt M2.out) M2.out)
         clear hba)
      | (go_at_call 9
         with_reducible refine (SD.out wa (A2.out.below Q1.out)).mono ?_
         rintro e wb ⟨rfl, hbb⟩
         have Q2 : Hid (Below w2.heap.size w2 wb) := Q1.out.trans (hbb.mono Q1.out.size)
         have kS := cells3 (below_row Q2.out (row_lt M2.out) M2.out)
         clear hbb Q1)))
    clear kS
    have B3 : Hid (Below w.heap.size w wb) := B2.out.trans (Q2.out.mono B2.out.size)
    have A3 : Hid (DAt wb la sa oa L S O) := A2.out.below Q2.out
    have M3 : Hid (wb.heap[i3]? = some (.cells #[.slice la ln lc, .slice sa sn sc, .slice oa on oc] 27 (0, 0))) := below_row Q2.out (row_lt M2.out) M2.out
    clear B2 A2 M2
    clear Q2
    go_wp2_with fail
    go_loopw [4, 5] (fun t4 t5 wr => ∃ (i : Nat) (ka : Option Addr) (kc : Nat), i ≤ on ∧ t5 = .int .i64 i ∧ t4 = .slice ka i kc ∧ wr.ownsRow wb.heap.size 2 1 (.slice ka i kc) i ((idL i).map (Value.int .i64)) ∧ Below wb.heap.size wb wr) (fun _ t5 _ => on - (intOf t5).toNat)
    case atStart => exact ⟨0, _, _, Nat.zero_le _, rfl, rfl, own_newI _, (Below.refl _ _).alloc (Nat.le_refl _) _⟩
    case round =>
      obtain ⟨i, ka, kc, hi, rfl, rfl, hown, hbr⟩ := hrel
      have OR : Hid (wr.ownsRow wb.heap.size 2 1 (.slice ka i kc) i ((idL i).map (Value.int .i64))) := hown
      have BR : Hid (Below wb.heap.size wb wr) := hbr
      obtain ⟨z0, z1, z2⟩ := cells3 (below_row hbr (row_lt M3.out) M3.out)
      clear hown
      by_cases hlt : i < on
      · have hin : (i : Int) < on := by omega
        have hb4 : Below wr.heap.size wr (wr.alloc (.cells #[.int .i64 (i : Int)] 2)) := (Below.refl _ _).alloc (Nat.le_refl _) _
        have OA : Hid ((wr.alloc (.cells #[.int .i64 (i : Int)] 2)).ownsRow wb.heap.size 2 1 (.slice ka i kc) i ((idL i).map (Value.int .i64))) := own_blw OR.out hb4
        have BA : Hid (Below wb.heap.size wb (wr.alloc (.cells #[.int .i64 (i : Int)] 2))) := BR.out.trans (hb4.mono BR.out.size)
        have HFC : Hid (∀ j u, [Value.int .i64 (i : Int)][j]? = some u → ∃ b off, some (⟨wr.heap.size, 0, none⟩ : Addr) = some ⟨b, off, none⟩ ∧ (wr.alloc (.cells #[.int .i64 (i : Int)] 2)).cell? ⟨b, off + j, none⟩ = some u) := fun j u hu => ⟨_, 0, rfl, by rw [Nat.zero_add, cell_of_row _ _ j _ _ _ (heap_alloc_new _ _)]; simpa using hu⟩
        clear hb4 hbr
        go_wp2_with (
          at_builtin
          refine append_opt Try.underlying30 Try.info2 rfl (by decide) _ rfl _ _ rfl wb.heap.size (.slice ka i kc) i ((idL i).map (Value.int .i64)) rfl OA.out (some ⟨wr.heap.size, 0, none⟩) 1 1 [Value.int .i64 (i : Int)] rfl rfl HFC.out (by simp [Value.oneCell']) (by omega) (by omega) BA.out.size ?_
          intro v' w4 hown hg hbk hnl
          obtain ⟨na, nc, rfl⟩ := own_anyV hown
          have O4 : Hid (w4.ownsRow wb.heap.size 2 1 (.slice na (i + 1) nc) (i + 1) ((idL (i + 1)).map (Value.int .i64))) := by show World.ownsRow _ _ _ _ _ _ _; rw [idL_succ, List.map_append]; exact hown
          have B4 : Hid (Below wb.heap.size wb w4) := BA.out.grown hg BA.out.size (fun k e => (OA.out.lt k e).1)
          clear hown hg hbk hnl)
        go_roundw
        case rel => exact ⟨i + 1, na, nc, by omega, by first | rfl | go_num, rfl, O4.out, B4.out⟩
        case measure => simp [intOf]; omega
      have hin : ¬ ((i : Int) < on) := by omega
      have hie : i = on := by omega
      rw [hie] at OR ⊢
      have IK : Hid (IntsAt wr ka (idL on)) := own_intsL OR.out (idL_len on)
      clear hie hlt hi hin OR z0 z1 z2
      have B4 : Hid (Below w.heap.size w wr) := B3.out.trans (hbr.mono B3.out.size)
      have A4 : Hid (DAt wr la sa oa L S O) := A3.out.below hbr
      have M4 : Hid (wr.heap[i3]? = some (.cells #[.slice la ln lc, .slice sa sn sc, .slice oa on oc] 27 (0, 0))) := below_row hbr (row_lt M3.out) M3.out
      clear B3 A3 M3
      clear hbr BR
      obtain ⟨zm4_0, zm4_1, zm4_2⟩ := cells3 M4.out
      go_wp2_with fail
      refine (CA.out wr ka kc A4.out IK.out).mono ?_
      rintro e w5 ⟨a1, c1, a2, c2, rfl, hb, hda⟩
      have B5 : Hid (Below w.heap.size w w5) := B4.out.trans (hb.mono B4.out.size)
      have A5 : Hid (DAt w5 la sa oa L S O) := A4.out.below hb
      have M5 : Hid (w5.heap[i3]? = some (.cells #[.slice la ln lc, .slice sa sn sc, .slice oa on oc] 27 (0, 0))) := below_row hb (row_lt M4.out) M4.out
      clear B4 A4 M4
      clear zm4_0 zm4_1 zm4_2
      clear hb IK
      have P5 : Hid (DA w5 wr.heap.size (.slice a1 ln c1) (.slice a2 ln c2) (.slice none 0 0) L L []) := hda
      clear hda
      have hb : Below w5.heap.size w5 (w5.alloc (.cells #[.slice a1 ln c1, .slice a2 ln c2, .slice none 0 0] 27)) := (Below.refl _ _).alloc (Nat.le_refl _) _
      have B6 : Hid (Below w.heap.size w (w5.alloc (.cells #[.slice a1 ln c1, .slice a2 ln c2, .slice none 0 0] 27))) := B5.out.trans (hb.mono B5.out.size)
      have A6 : Hid (DAt (w5.alloc (.cells #[.slice a1 ln c1, .slice a2 ln c2, .slice none 0 0] 27)) la sa oa L S O) := A5.out.below hb
      have M6 : Hid ((w5.alloc (.cells #[.slice a1 ln c1, .slice a2 ln c2, .slice none 0 0] 27)).heap[i3]? = some (.cells #[.slice la ln lc, .slice sa sn sc, .slice oa on oc] 27 (0, 0))) := below_row hb (row_lt M5.out) M5.out
      have P6 : Hid (DA (w5.alloc (.cells #[.slice a1 ln c1, .slice a2 ln c2, .slice none 0 0] 27)) wr.heap.size (.slice a1 ln c1) (.slice a2 ln c2) (.slice none 0 0) L L []) := P5.out.below hb
      clear B5 A5 M5 P5
      have N6 : Hid ((w5.alloc (.cells #[.slice a1 ln c1, .slice a2 ln c2, .slice none 0 0] 27)).heap[w5.heap.size]? = some (.cells #[.slice a1 ln c1, .slice a2 ln c2, .slice none 0 0] 27 (0, 0))) := heap_alloc_new _ _
      clear hb
      obtain ⟨zm6_0, zm6_1, zm6_2⟩ := cells3 M6.out
      go_wp2_with fail
      obtain ⟨i6, HIi6⟩ : ∃ i, Hid (w5.heap.size = i) := ⟨_, rfl⟩
      rw [HIi6.out] at N6 ⊢
      generalize (w5.alloc (.cells #[.slice a1 ln c1, .slice a2 ln c2, .slice none 0 0] 27)) = w6 at *
      clear HIi6
      refine (CN.out w6 A6.out).mono ?_
      rintro e w7 ⟨b1, e1, b2, e2, rfl, hb, hda⟩
      have B7 : Hid (Below w.heap.size w w7) := B6.out.trans (hb.mono B6.out.size)
      have A7 : Hid (DAt w7 la sa oa L S O) := A6.out.below hb
      have M7 : Hid (w7.heap[i3]? = some (.cells #[.slice la ln lc, .slice sa sn sc, .slice oa on oc] 27 (0, 0))) := below_row hb (row_lt M6.out) M6.out
      have P7 : Hid (DA w7 wr.heap.size (.slice a1 ln c1) (.slice a2 ln c2) (.slice none 0 0) L L []) := P6.out.below hb
      have N7 : Hid (w7.heap[i6]? = some (.cells #[.slice a1 ln c1, .slice a2 ln c2, .slice none 0 0] 27 (0, 0))) := below_row hb (row_lt N6.out) N6.out
      clear B6 A6 M6 P6 N6
      clear zm6_0 zm6_1 zm6_2
      clear hb
      have Q7 : Hid (DA w7 w6.heap.size (.slice b1 sn e1) (.slice b2 sn e2) (.slice none 0 0) S S []) := hda
      clear hda
      have hb : Below w7.heap.size w7 (w7.alloc (.cells #[.slice b1 sn e1, .slice b2 sn e2, .slice none 0 0] 27)) := (Below.refl _ _).alloc (Nat.le_refl _) _
      have B8 : Hid (Below w.heap.size w (w7.alloc (.cells #[.slice b1 sn e1, .slice b2 sn e2, .slice none 0 0] 27))) := B7.out.trans (hb.mono B7.out.size)
      have A8 : Hid (DAt (w7.alloc (.cells #[.slice b1 sn e1, .slice b2 sn e2, .slice none 0 0] 27)) la sa oa L S O) := A7.out.below hb
      have M8 : Hid ((w7.alloc (.cells #[.slice b1 sn e1, .slice b2 sn e2, .slice none 0 0] 27)).heap[i3]? = some (.cells #[.slice la ln lc, .slice sa sn sc, .slice oa on oc] 27 (0, 0))) := below_row hb (row_lt M7.out) M7.out
      have P8 : Hid (DA (w7.alloc (.cells #[.slice b1 sn e1, .slice b2 sn e2, .slice none 0 0] 27)) wr.heap.size (.slice a1 ln c1) (.slice a2 ln c2) (.slice none 0 0) L L []) := P7.out.below hb
      have N8 : Hid ((w7.alloc (.cells #[.slice b1 sn e1, .slice b2 sn e2, .slice none 0 0] 27)).heap[i6]? = some (.cells #[.slice a1 ln c1, .slice a2 ln c2, .slice none 0 0] 27 (0, 0))) := below_row hb (row_lt N7.out) N7.out
      have Q8 : Hid (DA (w7.alloc (.cells #[.slice b1 sn e1, .slice b2 sn e2, .slice none 0 0] 27)) w6.heap.size (.slice b1 sn e1) (.slice b2 sn e2) (.slice none 0 0) S S []) := Q7.out.below hb
      clear B7 A7 M7 P7 N7 Q7
      have U8 : Hid ((w7.alloc (.cells #[.slice b1 sn e1, .slice b2 sn e2, .slice none 0 0] 27)).heap[w7.heap.size]? = some (.cells #[.slice b1 sn e1, .slice b2 sn e2, .slice none 0 0] 27 (0, 0))) := heap_alloc_new _ _
      clear hb
      obtain ⟨zm8_0, zm8_1, zm8_2⟩ := cells3 M8.out
      go_wp2_with fail
      obtain ⟨i8, HIi8⟩ : ∃ i, Hid (w7.heap.size = i) := ⟨_, rfl⟩
      rw [HIi8.out] at U8 ⊢
      generalize (w7.alloc (.cells #[.slice b1 sn e1, .slice b2 sn e2, .slice none 0 0] 27)) = w8 at *
      clear HIi8
      refine (ID.out w8 A8.out).mono ?_
      rintro e w9 ⟨rfl, hb⟩
      have B9 : Hid (Below w.heap.size w w9) := B8.out.trans (hb.mono B8.out.size)
      have A9 : Hid (DAt w9 la sa oa L S O) := A8.out.below hb
      have M9 : Hid (w9.heap[i3]? = some (.cells #[.slice la ln lc, .slice sa sn sc, .slice oa on oc] 27 (0, 0))) := below_row hb (row_lt M8.out) M8.out
      have P9 : Hid (DA w9 wr.heap.size (.slice a1 ln c1) (.slice a2 ln c2) (.slice none 0 0) L L []) := P8.out.below hb
      have N9 : Hid (w9.heap[i6]? = some (.cells #[.slice a1 ln c1, .slice a2 ln c2, .slice none 0 0] 27 (0, 0))) := below_row hb (row_lt N8.out) N8.out
      have Q9 : Hid (DA w9 w6.heap.size (.slice b1 sn e1) (.slice b2 sn e2) (.slice none 0 0) S S []) := Q8.out.below hb
      have U9 : Hid (w9.heap[i8]? = some (.cells #[.slice b1 sn e1, .slice b2 sn e2, .slice none 0 0] 27 (0, 0))) := below_row hb (row_lt U8.out) U8.out
      clear B8 A8 M8 P8 N8 Q8 U8
      clear zm8_0 zm8_1 zm8_2
      clear hb
      obtain ⟨zm9_0, zm9_1, zm9_2⟩ := cells3 M9.out
      go_wp2_with fail
      refine (SY.out w9 A9.out).mono ?_
      rintro e w10 ⟨d1, f1, d2, f2, d3, f3, rfl, hb, hda⟩
      have B10 : Hid (Below w.heap.size w w10) := B9.out.trans (hb.mono B9.out.size)
      have A10 : Hid (DAt w10 la sa oa L S O) := A9.out.below hb
      have M10 : Hid (w10.heap[i3]? = some (.cells #[.slice la ln lc, .slice sa sn sc, .slice oa on oc] 27 (0, 0))) := below_row hb (row_lt M9.out) M9.out
      have P10 : Hid (DA w10 wr.heap.size (.slice a1 ln c1) (.slice a2 ln c2) (.slice none 0 0) L L []) := P9.out.below hb
      have N10 : Hid (w10.heap[i6]? = some (.cells #[.slice a1 ln c1, .slice a2 ln c2, .slice none 0 0] 27 (0, 0))) := below_row hb (row_lt N9.out) N9.out
      have Q10 : Hid (DA w10 w6.heap.size (.slice b1 sn e1) (.slice b2 sn e2) (.slice none 0 0) S S []) := Q9.out.below hb
      have U10 : Hid (w10.heap[i8]? = some (.cells #[.slice b1 sn e1, .slice b2 sn e2, .slice none 0 0] 27 (0, 0))) := below_row hb (row_lt U9.out) U9.out
      clear B9 A9 M9 P9 N9 Q9 U9
      clear zm9_0 zm9_1 zm9_2
      clear hb
      have Y10 : Hid (DA w10 w9.heap.size (.slice d1 ln f1) (.slice d2 ln f2) (.slice d3 0 f3) L L []) := hda
      clear hda
      have hb : Below w10.heap.size w10 (w10.alloc (.cells #[.slice d1 ln f1, .slice d2 ln f2, .slice d3 0 f3] 27)) := (Below.refl _ _).alloc (Nat.le_refl _) _
      have B11 : Hid (Below w.heap.size w (w10.alloc (.cells #[.slice d1 ln f1, .slice d2 ln f2, .slice d3 0 f3] 27))) := B10.out.trans (hb.mono B10.out.size)
      have A11 : Hid (DAt (w10.alloc (.cells #[.slice d1 ln f1, .slice d2 ln f2, .slice d3 0 f3] 27)) la sa oa L S O) := A10.out.below hb
      have M11 : Hid ((w10.alloc (.cells #[.slice d1 ln f1, .slice d2 ln f2, .slice d3 0 f3] 27)).heap[i3]? = some (.cells #[.slice la ln lc, .slice sa sn sc, .slice oa on oc] 27 (0, 0))) := below_row hb (row_lt M10.out) M10.out
      have P11 : Hid (DA (w10.alloc (.cells #[.slice d1 ln f1, .slice d2 ln f2, .slice d3 0 f3] 27)) wr.heap.size (.slice a1 ln c1) (.slice a2 ln c2) (.slice none 0 0) L L []) := P10.out.below hb
      have N11 : Hid ((w10.alloc (.cells #[.slice d1 ln f1, .slice d2 ln f2, .slice d3 0 f3] 27)).heap[i6]? = some (.cells #[.slice a1 ln c1, .slice a2 ln c2, .slice none 0 0] 27 (0, 0))) := below_row hb (row_lt N10.out) N10.out
      have Q11 : Hid (DA (w10.alloc (.cells #[.slice d1 ln f1, .slice d2 ln f2, .slice d3 0 f3] 27)) w6.heap.size (.slice b1 sn e1) (.slice b2 sn e2) (.slice none 0 0) S S []) := Q10.out.below hb
      have U11 : Hid ((w10.alloc (.cells #[.slice d1 ln f1, .slice d2 ln f2, .slice d3 0 f3] 27)).heap[i8]? = some (.cells #[.slice b1 sn e1, .slice b2 sn e2, .slice none 0 0] 27 (0, 0))) := below_row hb (row_lt U10.out) U10.out
      have Y11 : Hid (DA (w10.alloc (.cells #[.slice d1 ln f1, .slice d2 ln f2, .slice d3 0 f3] 27)) w9.heap.size (.slice d1 ln f1) (.slice d2 ln f2) (.slice d3 0 f3) L L []) := Y10.out.below hb
      clear B10 A10 M10 P10 N10 Q10 U10 Y10
      have X11 : Hid ((w10.alloc (.cells #[.slice d1 ln f1, .slice d2 ln f2, .slice d3 0 f3] 27)).heap[w10.heap.size]? = some (.cells #[.slice d1 ln f1, .slice d2 ln f2, .slice d3 0 f3] 27 (0, 0))) := heap_alloc_new _ _
      clear hb
      obtain ⟨zm11_0, zm11_1, zm11_2⟩ := cells3 M11.out
      obtain ⟨zn11_0, zn11_1, zn11_2⟩ := cells3 N11.out
      go_wp2_with fail
      obtain ⟨i10, HIi10⟩ : ∃ i, Hid (w10.heap.size = i) := ⟨_, rfl⟩
      rw [HIi10.out] at X11 ⊢
      generalize (w10.alloc (.cells #[.slice d1 ln f1, .slice d2 ln f2, .slice d3 0 f3] 27)) = w11 at *
      clear HIi10
      refine (SM.out w11 _ _ _ _ _ L HLN.out bl (P11.out.at HLN.out HLN.out rfl).l A11.out.l).mono ?_
      rintro e w12 ⟨rfl, hb⟩
      have B12 : Hid (Below w.heap.size w w12) := B11.out.trans (hb.mono B11.out.size)
      have A12 : Hid (DAt w12 la sa oa L S O) := A11.out.below hb
      have M12 : Hid (w12.heap[i3]? = some (.cells #[.slice la ln lc, .slice sa sn sc, .slice oa on oc] 27 (0, 0))) := below_row hb (row_lt M11.out) M11.out
      have P12 : Hid (DA w12 wr.heap.size (.slice a1 ln c1) (.slice a2 ln c2) (.slice none 0 0) L L []) := P11.out.below hb
      have N12 : Hid (w12.heap[i6]? = some (.cells #[.slice a1 ln c1, .slice a2 ln c2, .slice none 0 0] 27 (0, 0))) := below_row hb (row_lt N11.out) N11.out
      have Q12 : Hid (DA w12 w6.heap.size (.slice b1 sn e1) (.slice b2 sn e2) (.slice none 0 0) S S []) := Q11.out.below hb
      have U12 : Hid (w12.heap[i8]? = some (.cells #[.slice b1 sn e1, .slice b2 sn e2, .slice none 0 0] 27 (0, 0))) := below_row hb (row_lt U11.out) U11.out
      have Y12 : Hid (DA w12 w9.heap.size (.slice d1 ln f1) (.slice d2 ln f2) (.slice d3 0 f3) L L []) := Y11.out.below hb
      have X12 : Hid (w12.heap[i10]? = some (.cells #[.slice d1 ln f1, .slice d2 ln f2, .slice d3 0 f3] 27 (0, 0))) := below_row hb (row_lt X11.out) X11.out
      clear B11 A11 M11 P11 N11 Q11 U11 Y11 X11
      clear zm11_0 zm11_1 zm11_2 zn11_0 zn11_1 zn11_2
      clear hb
      obtain ⟨zm12_0, zm12_1, zm12_2⟩ := cells3 M12.out
      obtain ⟨zn12_0, zn12_1, zn12_2⟩ := cells3 N12.out
      go_wp2_with fail
      refine (SM.out w12 _ _ _ _ _ L HLN.out bl (P12.out.at HLN.out HLN.out rfl).s A12.out.l).mono ?_
      rintro e w13 ⟨rfl, hb⟩
      have B13 : Hid (Below w.heap.size w w13) := B12.out.trans (hb.mono B12.out.size)
      have A13 : Hid (DAt w13 la sa oa L S O) := A12.out.below hb
      have M13 : Hid (w13.heap[i3]? = some (.cells #[.slice la ln lc, .slice sa sn sc, .slice oa on oc] 27 (0, 0))) := below_row hb (row_lt M12.out) M12.out
      have P13 : Hid (DA w13 wr.heap.size (.slice a1 ln c1) (.slice a2 ln c2) (.slice none 0 0) L L []) := P12.out.below hb
      have N13 : Hid (w13.heap[i6]? = some (.cells #[.slice a1 ln c1, .slice a2 ln c2, .slice none 0 0] 27 (0, 0))) := below_row hb (row_lt N12.out) N12.out
      have Q13 : Hid (DA w13 w6.heap.size (.slice b1 sn e1) (.slice b2 sn e2) (.slice none 0 0) S S []) := Q12.out.below hb
      have U13 : Hid (w13.heap[i8]? = some (.cells #[.slice b1 sn e1, .slice b2 sn e2, .slice none 0 0] 27 (0, 0))) := below_row hb (row_lt U12.out) U12.out
      have Y13 : Hid (DA w13 w9.heap.size (.slice d1 ln f1) (.slice d2 ln f2) (.slice d3 0 f3) L L []) := Y12.out.below hb
      have X13 : Hid (w13.heap[i10]? = some (.cells #[.slice d1 ln f1, .slice d2 ln f2, .slice d3 0 f3] 27 (0, 0))) := below_row hb (row_lt X12.out) X12.out
      clear B12 A12 M12 P12 N12 Q12 U12 Y12 X12
      clear zm12_0 zm12_1 zm12_2 zn12_0 zn12_1 zn12_2
      clear hb
      obtain ⟨zm13_0, zm13_1, zm13_2⟩ := cells3 M13.out
      obtain ⟨zu13_0, zu13_1, zu13_2⟩ := cells3 U13.out
      go_wp2_with fail
      refine (SM.out w13 _ _ _ _ _ S HSN.out bs' (Q13.out.at HSN.out HSN.out rfl).l A13.out.s).mono ?_
      rintro e w14 ⟨rfl, hb⟩
      have B14 : Hid (Below w.heap.size w w14) := B13.out.trans (hb.mono B13.out.size)
      have A14 : Hid (DAt w14 la sa oa L S O) := A13.out.below hb
      have M14 : Hid (w14.heap[i3]? = some (.cells #[.slice la ln lc, .slice sa sn sc, .slice oa on oc] 27 (0, 0))) := below_row hb (row_lt M13.out) M13.out
      have P14 : Hid (DA w14 wr.heap.size (.slice a1 ln c1) (.slice a2 ln c2) (.slice none 0 0) L L []) := P13.out.below hb
      have N14 : Hid (w14.heap[i6]? = some (.cells #[.slice a1 ln c1, .slice a2 ln c2, .slice none 0 0] 27 (0, 0))) := below_row hb (row_lt N13.out) N13.out
      have Q14 : Hid (DA w14 w6.heap.size (.slice b1 sn e1) (.slice b2 sn e2) (.slice none 0 0) S S []) := Q13.out.below hb
      have U14 : Hid (w14.heap[i8]? = some (.cells #[.slice b1 sn e1, .slice b2 sn e2, .slice none 0 0] 27 (0, 0))) := below_row hb (row_lt U13.out) U13.out
      have Y14 : Hid (DA w14 w9.heap.size (.slice d1 ln f1) (.slice d2 ln f2) (.slice d3 0 f3) L L []) := Y13.out.below hb
      have X14 : Hid (w14.heap[i10]? = some (.cells #[.slice d1 ln f1, .slice d2 ln f2, .slice d3 0 f3] 27 (0, 0))) := below_row hb (row_lt X13.out) X13.out
      clear B13 A13 M13 P13 N13 Q13 U13 Y13 X13
      clear zm13_0 zm13_1 zm13_2 zu13_0 zu13_1 zu13_2
      clear hb
      obtain ⟨zn14_0, zn14_1, zn14_2⟩ := cells3 N14.out
      obtain ⟨zu14_0, zu14_1, zu14_2⟩ := cells3 U14.out
      obtain ⟨zm14_0, zm14_1, zm14_2⟩ := cells3 M14.out
      obtain ⟨zx14_0, zx14_1, zx14_2⟩ := cells3 X14.out
      go_wp2_with fail
      refine (SM.out w14 _ _ _ _ _ L HLN.out bl (Y14.out.at HLN.out HLN.out rfl).s A14.out.l).mono ?_
      rintro e w15 ⟨rfl, hb⟩
      have B15 : Hid (Below w.heap.size w w15) := B14.out.trans (hb.mono B14.out.size)
      have A15 : Hid (DAt w15 la sa oa L S O) := A14.out.below hb
      have M15 : Hid (w15.heap[i3]? = some (.cells #[.slice la ln lc, .slice sa sn sc, .slice oa on oc] 27 (0, 0))) := below_row hb (row_lt M14.out) M14.out
      have P15 : Hid (DA w15 wr.heap.size (.slice a1 ln c1) (.slice a2 ln c2) (.slice none 0 0) L L []) := P14.out.below hb
      have N15 : Hid (w15.heap[i6]? = some (.cells #[.slice a1 ln c1, .slice a2 ln c2, .slice none 0 0] 27 (0, 0))) := below_row hb (row_lt N14.out) N14.out
      have Q15 : Hid (DA w15 w6.heap.size (.slice b1 sn e1) (.slice b2 sn e2) (.slice none 0 0) S S []) := Q14.out.below hb
      have U15 : Hid (w15.heap[i8]? = some (.cells #[.slice b1 sn e1, .slice b2 sn e2, .slice none 0 0] 27 (0, 0))) := below_row hb (row_lt U14.out) U14.out
      have Y15 : Hid (DA w15 w9.heap.size (.slice d1 ln f1) (.slice d2 ln f2) (.slice d3 0 f3) L L []) := Y14.out.below hb
      have X15 : Hid (w15.heap[i10]? = some (.cells #[.slice d1 ln f1, .slice d2 ln f2, .slice d3 0 f3] 27 (0, 0))) := below_row hb (row_lt X14.out) X14.out
      clear B14 A14 M14 P14 N14 Q14 U14 Y14 X14
      clear zn14_0 zn14_1 zn14_2 zu14_0 zu14_1 zu14_2 zm14_0 zm14_1 zm14_2 zx14_0 zx14_1 zx14_2
      clear hb
      obtain ⟨zx15_0, zx15_1, zx15_2⟩ := cells3 X15.out
      go_wp2
      go_ret
      exact ⟨rfl, B15.out⟩

end Go.Proofs.Ytpahhhocgpohbaa
