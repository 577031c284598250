import Derived.Test.YtaofpbmdloihgaaDoorPack1
import Derived.Test.YtaofpbmdloihgaaDoorPack9
import Derived.Test.YtaofpbmdloihgaaDoorDrawCase
import Derived.Test.YtaofpbmdloihgaaDoorPack22
import Derived.Test.YtaofpbmdloihgaaDoorCaseTx
namespace Go.Proofs.YtaofpbmdloihgaaDoor
open Go.RowKit

theorem CodeAt.blwC {w w' : World} {a : Option Addr} {bs : List Int} (h : CodeAt w a bs) (hb : Below w.heap.size w w') : CodeAt w' a bs := fun j hj => by
  obtain ⟨b, off, e, hc, hv⟩ := h j hj
  exact ⟨b, off, e, (hb.cell (p := ⟨b, off + j, none⟩) (block_lt_of_cell hc)).trans hc, hv⟩
/-- A drawn case. -/
def CaseTold3 (w : World) (e : Ending) (w' : World) : Prop := ∃ (n : Int) (g zl cg go ko co gv kv cv : Nat) (zs O V : List Int) (fi : Int), e = .returned (.agg #[.int .i64 n, .slice (some ⟨g, 0, none⟩) zl cg, .slice (some ⟨go, 0, none⟩) ko co, .slice (some ⟨gv, 0, none⟩) kv cv, .int .i64 fi]) ∧ (zs.length = zl ∧ O.length = ko * 6 ∧ V.length = kv * 5 ∧ ko ≤ 12 ∧ kv ≤ 5 ∧ zl ≤ cg) ∧ Below w.heap.size w w' ∧ IntsAt w' (some ⟨g, 0, none⟩) zs ∧ IntsAt w' (some ⟨go, 0, none⟩) O ∧ IntsAt w' (some ⟨gv, 0, none⟩) V

set_option maxHeartbeats 4000000 in
theorem drawCaseText_any (a : Option Addr) (c : Nat) (bs : List Int) (w : World) (h : CodeAt w a bs) (hl : bs.length ≤ 1048576) :
    Calls Tryd.prog 5 #[.slice a bs.length c] w (CaseTold3 w) := by
  have H : Hid (CodeAt w a bs) := h
  clear h
  have BA : Hid (Below w.heap.size w (w.alloc (.cells #[.int .i64 0, .slice none 0 0, .slice none 0 0, .slice none 0 0, .int .i64 0] 30))) := (Below.refl _ _).alloc (Nat.le_refl _) _
  have GA : Hid ((w.alloc (.cells #[.int .i64 0, .slice none 0 0, .slice none 0 0, .slice none 0 0, .int .i64 0] 30)).heap[w.heap.size]? = some (.cells #[.int .i64 0, .slice none 0 0, .slice none 0 0, .slice none 0 0, .int .i64 0] 30 (0, 0))) := heap_alloc_new _ _
  have CA : Hid (CodeAt (w.alloc (.cells #[.int .i64 0, .slice none 0 0, .slice none 0 0, .slice none 0 0, .int .i64 0] 30)) a bs) := H.out.blwC BA.out
  go_enter Tryd.func5, Tryd.ntmps5
  go_wp2_with fail
  generalize (w.alloc (.cells #[.int .i64 0, .slice none 0 0, .slice none 0 0, .slice none 0 0, .int .i64 0] 30)) = W0 at *
  refine (l1Open_any a c bs W0 CA.out hl).mono ?_
  rintro e w1 ⟨rfl, hb, hr⟩
  obtain ⟨q, HQ⟩ : ∃ q, Hid (W0.heap.size = q) := ⟨_, rfl⟩
  have HQL : Hid (w.heap.size < q) := by show _ < _; rw [← HQ.out]; exact row_lt GA.out
  have B1 : Hid (Below w.heap.size w w1) := BA.out.trans (hb.mono BA.out.size)
  have G1 : Hid (w1.heap[w.heap.size]? = some (.cells #[.int .i64 0, .slice none 0 0, .slice none 0 0, .slice none 0 0, .int .i64 0] 30 (0, 0))) := below_row hb (row_lt GA.out) GA.out
  have R1 : Hid (RD w1 q a bs c 0) := by have := hr; rw [HQ.out] at this; exact this
  clear hb hr
  rw [HQ.out]
  go_wp2_with fail
  refine (case1_cap q 0 c 4 a bs w1 R1.out (by omega) (by omega)).mono ?_
  rintro e w3 ⟨n, g, zl, cg, go, ko, co, gv, kv, cv, zs, O, V, fi, rfl, hls, hg, -, iz, io, iv, hgs, hcg⟩
  have hwq := HQL.out
  have hq1 : q < w1.heap.size := row_lt R1.out.1
  have B3 : Hid (Below w.heap.size w w3) := grown_below B1.out (by omega) hg
  have G3 : Hid (w3.heap[w.heap.size]? = some (.cells #[.int .i64 0, .slice none 0 0, .slice none 0 0, .slice none 0 0, .int .i64 0] 30 (0, 0))) := grown_row hg G1.out (fun e => by injection e with e; omega)
  obtain ⟨l1, l2, l3, -, l4, -, l5⟩ := hls
  obtain ⟨g1, g2, g3, -⟩ := hgs
  have hs : w3.grownBy (((((w3.setCell ⟨w.heap.size, 0, none⟩ (.int .i64 n)).setCell ⟨w.heap.size, 1, none⟩ (.slice (some ⟨g, 0, none⟩) zl cg)).setCell ⟨w.heap.size, 2, none⟩ (.slice (some ⟨go, 0, none⟩) ko co)).setCell ⟨w.heap.size, 3, none⟩ (.slice (some ⟨gv, 0, none⟩) kv cv)).setCell ⟨w.heap.size, 4, none⟩ (.int .i64 fi)) (some w.heap.size) :=
    grown_trans (grown_trans (grown_trans (grown_trans (grown_set _ _ _ _) (grown_set _ _ _ _)) (grown_set _ _ _ _)) (grown_set _ _ _ _)) (grown_set _ _ _ _)
  have G6 : (((((w3.setCell ⟨w.heap.size, 0, none⟩ (.int .i64 n)).setCell ⟨w.heap.size, 1, none⟩ (.slice (some ⟨g, 0, none⟩) zl cg)).setCell ⟨w.heap.size, 2, none⟩ (.slice (some ⟨go, 0, none⟩) ko co)).setCell ⟨w.heap.size, 3, none⟩ (.slice (some ⟨gv, 0, none⟩) kv cv)).setCell ⟨w.heap.size, 4, none⟩ (.int .i64 fi)).heap[w.heap.size]? = some (.cells #[.int .i64 n, .slice (some ⟨g, 0, none⟩) zl cg, .slice (some ⟨go, 0, none⟩) ko co, .slice (some ⟨gv, 0, none⟩) kv cv, .int .i64 fi] 30 (0, 0)) := by
    have := row_put (i := 4) (.int .i64 fi) (row_put (i := 3) (.slice (some ⟨gv, 0, none⟩) kv cv) (row_put (i := 2) (.slice (some ⟨go, 0, none⟩) ko co) (row_put (i := 1) (.slice (some ⟨g, 0, none⟩) zl cg) (row_put (i := 0) (.int .i64 n) G3.out))))
    simpa using this
  have TOLD : Hid (CaseTold3 w (.returned (.agg #[.int .i64 n, .slice (some ⟨g, 0, none⟩) zl cg, .slice (some ⟨go, 0, none⟩) ko co, .slice (some ⟨gv, 0, none⟩) kv cv, .int .i64 fi])) (((((w3.setCell ⟨w.heap.size, 0, none⟩ (.int .i64 n)).setCell ⟨w.heap.size, 1, none⟩ (.slice (some ⟨g, 0, none⟩) zl cg)).setCell ⟨w.heap.size, 2, none⟩ (.slice (some ⟨go, 0, none⟩) ko co)).setCell ⟨w.heap.size, 3, none⟩ (.slice (some ⟨gv, 0, none⟩) kv cv)).setCell ⟨w.heap.size, 4, none⟩ (.int .i64 fi))) := ⟨n, g, zl, cg, go, ko, co, gv, kv, cv, zs, O, V, fi, rfl, ⟨l1, l2, l3, by omega, by omega, hcg⟩, Below.setCell (Below.setCell (Below.setCell (Below.setCell (Below.setCell B3.out (Nat.le_refl _) _) (Nat.le_refl _) _) (Nat.le_refl _) _) (Nat.le_refl _) _) (Nat.le_refl _) _, ints_row iz hs (fun e => by injection e with e; omega), ints_row io hs (fun e => by injection e with e; omega), ints_row iv hs (fun e => by injection e with e; omega)⟩
  have HG6 : Hid ((((((w3.setCell ⟨w.heap.size, 0, none⟩ (.int .i64 n)).setCell ⟨w.heap.size, 1, none⟩ (.slice (some ⟨g, 0, none⟩) zl cg)).setCell ⟨w.heap.size, 2, none⟩ (.slice (some ⟨go, 0, none⟩) ko co)).setCell ⟨w.heap.size, 3, none⟩ (.slice (some ⟨gv, 0, none⟩) kv cv)).setCell ⟨w.heap.size, 4, none⟩ (.int .i64 fi)).heap[w.heap.size]? = some (.cells #[.int .i64 n, .slice (some ⟨g, 0, none⟩) zl cg, .slice (some ⟨go, 0, none⟩) ko co, .slice (some ⟨gv, 0, none⟩) kv cv, .int .i64 fi] 30 (0, 0))) := G6
  clear hg iz io iv hs G6 B1 G1 R1 BA GA CA hq1 l1 l2 l3 l4 l5 g1 g2 g3 hcg
  obtain ⟨y0, y1, y2, y3, y4⟩ := cells5 G3.out
  have yf := fun i => frozen_of_row _ _ i _ _ G3.out
  go_wp2
  clear y0 y1 y2 y3 y4 yf
  generalize (((((w3.setCell ⟨w.heap.size, 0, none⟩ (.int .i64 n)).setCell ⟨w.heap.size, 1, none⟩ (.slice (some ⟨g, 0, none⟩) zl cg)).setCell ⟨w.heap.size, 2, none⟩ (.slice (some ⟨go, 0, none⟩) ko co)).setCell ⟨w.heap.size, 3, none⟩ (.slice (some ⟨gv, 0, none⟩) kv cv)).setCell ⟨w.heap.size, 4, none⟩ (.int .i64 fi)) = W6 at *
  refine bodyPost_ret (v := .agg #[.int .i64 n, .slice (some ⟨g, 0, none⟩) zl cg, .slice (some ⟨go, 0, none⟩) ko co, .slice (some ⟨gv, 0, none⟩) kv cv, .int .i64 fi]) ?_ rfl TOLD.out
  have r1 := run_loadVar_row (P := Tryd.prog) _ w.heap.size 30 30 #[.int .i64 n, .slice (some ⟨g, 0, none⟩) zl cg, .slice (some ⟨go, 0, none⟩) ko co, .slice (some ⟨gv, 0, none⟩) kv cv, .int .i64 fi] (0, 0) _ HG6.out Tryd.underlying30 rfl sizeCase5
  simp [results, Tryd.results5, asAddr, r1]

set_option maxHeartbeats 4000000 in
theorem drawReadCase_any (a : Option Addr) (c : Nat) (bs : List Int) (w : World) (h : CodeAt w a bs) (hl : bs.length ≤ 1048576) :
    Calls Tryd.prog 10 #[.slice a bs.length c] w fun e w' => ∃ s : List UInt8, e = .returned (.string (txt s)) ∧ s.length ≤ 20002 ∧ Below w.heap.size w w' := by
  have H : Hid (CodeAt w a bs) := h
  clear h
  go_enter Tryd.func10, Tryd.ntmps10
  go_wp2_with fail
  refine (l1Open_any a c bs w H.out hl).mono ?_
  rintro e w1 ⟨rfl, hb, hr⟩
  obtain ⟨q, HQ⟩ : ∃ q, Hid (w.heap.size = q) := ⟨_, rfl⟩
  have B1 : Hid (Below w.heap.size w w1) := hb
  have R1 : Hid (RD w1 q a bs c 0) := by have := hr; rw [HQ.out] at this; exact this
  clear hb hr
  have hwq : w.heap.size ≤ q := by rw [HQ.out]; exact Nat.le_refl _
  rw [HQ.out]
  go_wp2_with fail
  refine (case1_cap q 0 c 4 a bs w1 R1.out (by omega) (by omega)).mono ?_
  rintro e w3 ⟨n, g, zl, cg, go, ko, co, gv, kv, cv, zs, O, V, fi, rfl, hls, hg, ⟨p3, hr⟩, iz, io, iv, hgs, hcg⟩
  have hq1 : q < w1.heap.size := row_lt R1.out.1
  have B3 : Hid (Below w.heap.size w w3) := grown_below B1.out (by omega) hg
  have R3 : Hid (RD w3 q a bs c p3) := hr
  obtain ⟨l1, l2, l3, -, l4, -, l5⟩ := hls
  have CT : Calls Tryd.prog 8 #[.agg #[.int .i64 n, .slice (some ⟨g, 0, none⟩) zl cg, .slice (some ⟨go, 0, none⟩) ko co, .slice (some ⟨gv, 0, none⟩) kv cv, .int .i64 fi]] w3 fun e w' => e = .returned (.string (txt (csTx n fi zs O V ko kv))) ∧ Below w3.heap.size w3 w' := by
    subst l1
    have := specCaseText_cap n fi _ _ _ cg ko co kv cv zs O V w3 iz io iv l2 l3 (by omega) (by omega) hcg
    rw [csTx_is] at this
    exact this
  clear hr hg iz io iv hgs B1 R1 hq1 l1 l2 l3 hcg
  go_wp2_with fail
  refine CT.mono ?_
  rintro e w6 ⟨rfl, hb6⟩
  have B6 : Hid (Below w.heap.size w w6) := B3.out.trans (hb6.mono B3.out.size)
  have R6 : Hid (RD w6 q a bs c p3) := R3.out.below hb6
  have hsz : (txt (csTx n fi zs O V ko kv)).size ≤ 20000 := by rw [txt_size]; exact csTx_len _ _ _ _ _ _ _
  clear hb6 B3 R3 CT
  generalize txt (csTx n fi zs O V ko kv) = s at *
  go_wp2_with fail
  refine (hurt_any q p3 c a bs s 20000 w6 R6.out hsz (by omega)).mono ?_
  rintro e w7 ⟨t, p7, rfl, ht, -, hg7⟩
  have hq6 : q < w6.heap.size := row_lt R6.out.1
  have B7 : Hid (Below w.heap.size w w7) := grown_below B6.out (by omega) hg7
  have HT : Hid (t.size ≤ 20000 + 2) := ht
  clear ht hg7 B6 R6
  go_wp2
  go_ret
  refine ⟨t.data.toList, ?_, by have := HT.out; simpa using this, B7.out⟩
  unfold txt
  simp

end Go.Proofs.YtaofpbmdloihgaaDoor

namespace Go.Proofs.YtaofpbmdloihgaaDoor
open Go.RowKit

theorem ints3_below {w w' : World} {a b c : Option Addr} {x y z : List Int} (h : IntsAt w a x ∧ IntsAt w b y ∧ IntsAt w c z) (hb : Below w.heap.size w w') : IntsAt w' a x ∧ IntsAt w' b y ∧ IntsAt w' c z := ⟨h.1.below hb, h.2.1.below hb, h.2.2.below hb⟩

set_option maxHeartbeats 400000 in
theorem lawFnCaseTexts_big (a : Option Addr) (c len : Nat) (w : World) (hl : len ≤ 9223372036854775807) (h : 1048576 < len) :
    Calls Tryd.prog 3 #[.slice a len c] w fun e w' => e = .returned (.bool true) ∧ Below w.heap.size w w' := by
  have hd : decide (1048576 < len) = true := decide_eq_true h
  go_enter Tryd.func3, Tryd.ntmps3
  go_wp2_with (go_at_call 4; refine (big_any a c len w hl).mono ?_; rintro e w1 ⟨rfl, hw1⟩; subst w1; rw [hd])
  go_ret
  exact ⟨rfl, Below.refl _ _⟩

set_option maxRecDepth 10000 in
set_option maxHeartbeats 8000000 in
theorem lawFnCaseTexts (a : Option Addr) (ca : Nat) (bs : List Int) (w : World) (hA : CodeAt w a bs) (hl : bs.length ≤ 1048576) (hT : PW w) :
    Calls Tryd.prog 3 #[.slice a bs.length ca] w fun e w' => e = .returned (.bool true) ∧ Below w.heap.size w w' := by
  have HA : Hid (CodeAt w a bs) := hA
  have HPW : Hid (PW w) := hT
  clear hA hT
  have hd : decide (1048576 < bs.length) = false := decide_eq_false (by omega)
  go_enter Tryd.func3, Tryd.ntmps3
  go_wp2_with fail
  refine (big_any a ca bs.length w (by omega)).mono ?_
  rintro e w1 ⟨rfl, hw1⟩
  subst w1
  rw [hd]
  clear hd
  go_wp2_with fail
  refine (drawCaseText_any a ca bs w HA.out hl).mono ?_
  rintro e w1 ⟨n, g, zl, cg, go, ko, co, gv, kv, cv, zs, O, V, fi, rfl, ⟨hz0, ho0, hv0, hko, hkv, hcg⟩, hb1, hi1⟩
  obtain ⟨N, HLb⟩ : ∃ v, Hid (bs.length = v) := ⟨_, rfl⟩
  have CDR : Hid (∀ W, CodeAt W a bs → Calls Tryd.prog 10 #[.slice a N ca] W fun e w' => ∃ s : List UInt8, e = .returned (.string (txt s)) ∧ s.length ≤ 20002 ∧ Below W.heap.size W w') := fun W h => by
    have := drawReadCase_any a ca bs W h hl
    rw [HLb.out] at this
    exact this
  rw [HLb.out] at hl ⊢
  obtain ⟨s, HS⟩ : ∃ s, Hid (csTx n fi zs O V ko kv = s) := ⟨_, rfl⟩
  have hsl : s.length ≤ 20000 := by rw [← HS.out]; exact csTx_len _ _ _ _ _ _ _
  have hrd := rdC_of n fi zs O V ko kv ho0 hv0
  rw [HS.out] at hrd
  obtain ⟨hrd1, hrd2⟩ := hrd
  have CTI : Hid (∀ W, (IntsAt W (some ⟨g, 0, none⟩) zs ∧ IntsAt W (some ⟨go, 0, none⟩) O ∧ IntsAt W (some ⟨gv, 0, none⟩) V) → PW W → Calls Tryd.prog 6 #[.agg #[.int .i64 n, .slice (some ⟨g, 0, none⟩) zl cg, .slice (some ⟨go, 0, none⟩) ko co, .slice (some ⟨gv, 0, none⟩) kv cv, .int .i64 fi]] W fun e w' => e = .returned (.string (txt s)) ∧ Below W.heap.size W w') := fun W hi hp => by
    subst hz0
    have := implCaseText_cap n fi _ _ _ cg ko co kv cv zs O V W hi.1 hi.2.1 hi.2.2 ho0 hv0 (by omega) (by omega) hcg hp
    rw [csTx_is, HS.out] at this
    exact this
  have CTS : Hid (∀ W, (IntsAt W (some ⟨g, 0, none⟩) zs ∧ IntsAt W (some ⟨go, 0, none⟩) O ∧ IntsAt W (some ⟨gv, 0, none⟩) V) → Calls Tryd.prog 8 #[.agg #[.int .i64 n, .slice (some ⟨g, 0, none⟩) zl cg, .slice (some ⟨go, 0, none⟩) ko co, .slice (some ⟨gv, 0, none⟩) kv cv, .int .i64 fi]] W fun e w' => e = .returned (.string (txt s)) ∧ Below W.heap.size W w') := fun W hi => by
    subst hz0
    have := specCaseText_cap n fi _ _ _ cg ko co kv cv zs O V W hi.1 hi.2.1 hi.2.2 ho0 hv0 (by omega) (by omega) hcg
    rw [csTx_is, HS.out] at this
    exact this
  have COK : ∀ W, (IntsAt W (some ⟨g, 0, none⟩) zs ∧ IntsAt W (some ⟨go, 0, none⟩) O ∧ IntsAt W (some ⟨gv, 0, none⟩) V) → Calls Tryd.prog 9 #[.agg #[.int .i64 n, .slice (some ⟨g, 0, none⟩) zl cg, .slice (some ⟨go, 0, none⟩) ko co, .slice (some ⟨gv, 0, none⟩) kv cv, .int .i64 fi]] W fun e w' => e = .returned (.bool (rdCB s)) ∧ Below W.heap.size W w' := fun W hi => by
    subst hz0
    have := implCase_any n fi _ _ _ cg ko co kv cv zs O V W hi.1 hi.2.1 hi.2.2 ho0 hv0 (by omega) (by omega)
    rw [← hrd1] at this
    exact this
  have HRK : rdCB s = true → rdC s = ⟨n, fi, zs, O, V, ko, kv⟩ := fun h => hrd2 (by rw [← hrd1]; exact h)
  obtain ⟨hd1, hd2, hd3, hd4, hd5⟩ := rdC_small s
  have CIx : ∀ W, Calls Tryd.prog 7 #[.string (txt s)] W fun e w' => ∃ za zc oa oc va vc, e = .returned (.tuple #[.agg #[.int .i64 (rdC s).n, .slice za (rdC s).zs.length zc, .slice oa (rdC s).ko oc, .slice va (rdC s).kv vc, .int .i64 (rdC s).f], .bool (rdCB s)]) ∧ Below W.heap.size W w' ∧ CK w' (W.heap.size + 3) za (rdC s).zs.length zc oa (rdC s).ko oc va (rdC s).kv vc (rdC s).zs (rdC s).os (rdC s).vs := fun W => implReadCK s W (by omega)
  generalize rdC s = d at *
  obtain ⟨n1, f1, zs1, os1, vs1, no1, nv1⟩ := d
  simp only at hd1 hd2 hd3 hd4 hd5 CIx HRK
  obtain ⟨nz1, HNZ1⟩ : ∃ x, Hid (zs1.length = x) := ⟨_, rfl⟩
  rw [HNZ1.out] at hd1 CIx
  obtain ⟨bb, HBB⟩ : ∃ v, Hid (rdCB s = v) := ⟨_, rfl⟩
  rw [HBB.out] at CIx COK HRK
  have HRK1 : Hid (bb = true → (⟨n1, f1, zs1, os1, vs1, no1, nv1⟩ : CV) = ⟨n, fi, zs, O, V, ko, kv⟩) := HRK
  have CI : Hid (∀ W, Calls Tryd.prog 7 #[.string (txt s)] W fun e w' => ∃ za zc oa oc va vc, e = .returned (.tuple #[.agg #[.int .i64 n1, .slice za nz1 zc, .slice oa no1 oc, .slice va nv1 vc, .int .i64 f1], .bool bb]) ∧ Below W.heap.size W w' ∧ CK w' (W.heap.size + 3) za nz1 zc oa no1 oc va nv1 vc zs1 os1 vs1) := CIx
  have CO1 : Hid (∀ W, (IntsAt W (some ⟨g, 0, none⟩) zs ∧ IntsAt W (some ⟨go, 0, none⟩) O ∧ IntsAt W (some ⟨gv, 0, none⟩) V) → Calls Tryd.prog 9 #[.agg #[.int .i64 n, .slice (some ⟨g, 0, none⟩) zl cg, .slice (some ⟨go, 0, none⟩) ko co, .slice (some ⟨gv, 0, none⟩) kv cv, .int .i64 fi]] W fun e w' => e = .returned (.bool bb) ∧ Below W.heap.size W w') := COK
  have HZ0 : Hid (zs.length = zl) := hz0
  have HLO1 : Hid (os1.length = no1 * 6) := hd4
  have HLV1 : Hid (vs1.length = nv1 * 5) := hd5
  have A1 : Hid (Below w1.heap.size w1 (w1.alloc (.cells #[.int .i64 n, .slice (some ⟨g, 0, none⟩) zl cg, .slice (some ⟨go, 0, none⟩) ko co, .slice (some ⟨gv, 0, none⟩) kv cv, .int .i64 fi] 30))) := (Below.refl _ _).alloc (Nat.le_refl _) _
  have B1 : Hid (Below w.heap.size w (w1.alloc (.cells #[.int .i64 n, .slice (some ⟨g, 0, none⟩) zl cg, .slice (some ⟨go, 0, none⟩) ko co, .slice (some ⟨gv, 0, none⟩) kv cv, .int .i64 fi] 30))) := hb1.trans (A1.out.mono hb1.size)
  have P1 : Hid (IntsAt (w1.alloc (.cells #[.int .i64 n, .slice (some ⟨g, 0, none⟩) zl cg, .slice (some ⟨go, 0, none⟩) ko co, .slice (some ⟨gv, 0, none⟩) kv cv, .int .i64 fi] 30)) (some ⟨g, 0, none⟩) zs ∧ IntsAt (w1.alloc (.cells #[.int .i64 n, .slice (some ⟨g, 0, none⟩) zl cg, .slice (some ⟨go, 0, none⟩) ko co, .slice (some ⟨gv, 0, none⟩) kv cv, .int .i64 fi] 30)) (some ⟨go, 0, none⟩) O ∧ IntsAt (w1.alloc (.cells #[.int .i64 n, .slice (some ⟨g, 0, none⟩) zl cg, .slice (some ⟨go, 0, none⟩) ko co, .slice (some ⟨gv, 0, none⟩) kv cv, .int .i64 fi] 30)) (some ⟨gv, 0, none⟩) V) := ints3_below hi1 A1.out
  have X1 : Hid ((w1.alloc (.cells #[.int .i64 n, .slice (some ⟨g, 0, none⟩) zl cg, .slice (some ⟨go, 0, none⟩) ko co, .slice (some ⟨gv, 0, none⟩) kv cv, .int .i64 fi] 30)).heap[w1.heap.size]? = some (.cells #[.int .i64 n, .slice (some ⟨g, 0, none⟩) zl cg, .slice (some ⟨go, 0, none⟩) ko co, .slice (some ⟨gv, 0, none⟩) kv cv, .int .i64 fi] 30 (0, 0))) := heap_alloc_new _ _
  clear hb1 hi1 A1 hrd1 hrd2 COK CIx HRK hz0 ho0 hv0 hcg hd4 hd5
  obtain ⟨x0, x1, x2, x3, x4⟩ := cells5 X1.out
  go_wp2_with fail
  clear x0 x1 x2 x3 x4
  generalize (w1.alloc (.cells #[.int .i64 n, .slice (some ⟨g, 0, none⟩) zl cg, .slice (some ⟨go, 0, none⟩) ko co, .slice (some ⟨gv, 0, none⟩) kv cv, .int .i64 fi] 30)) = W1 at *
  generalize w1.heap.size = k1 at *
  refine (CTI.out W1 P1.out (HPW.out.below B1.out (Nat.le_refl _))).mono ?_
  rintro e w2 ⟨rfl, hb2⟩
  have B2 : Hid (Below w.heap.size w w2) := B1.out.trans (hb2.mono B1.out.size)
  have P2 : Hid (IntsAt w2 (some ⟨g, 0, none⟩) zs ∧ IntsAt w2 (some ⟨go, 0, none⟩) O ∧ IntsAt w2 (some ⟨gv, 0, none⟩) V) := ints3_below P1.out hb2
  have X2 : Hid (w2.heap[k1]? = some (.cells #[.int .i64 n, .slice (some ⟨g, 0, none⟩) zl cg, .slice (some ⟨go, 0, none⟩) ko co, .slice (some ⟨gv, 0, none⟩) kv cv, .int .i64 fi] 30 (0, 0))) := below_row hb2 (row_lt X1.out) X1.out
  clear hb2 B1 P1 X1
  obtain ⟨tx, HTX⟩ : ∃ v, Hid (txt s = v) := ⟨_, rfl⟩
  rw [HTX.out] at CI CTS CTI ⊢
  go_wp2_with fail
  refine (CI.out w2).mono ?_
  rintro e w3 ⟨za1, zc1, oa1, oc1, va1, vc1, rfl, hb3, hp3⟩
  have A3 : Hid (Below w3.heap.size w3 (w3.alloc (.cells #[.int .i64 n1, .slice za1 nz1 zc1, .slice oa1 no1 oc1, .slice va1 nv1 vc1, .int .i64 f1] 30))) := (Below.refl _ _).alloc (Nat.le_refl _) _
  have BX : Below w2.heap.size w2 (w3.alloc (.cells #[.int .i64 n1, .slice za1 nz1 zc1, .slice oa1 no1 oc1, .slice va1 nv1 vc1, .int .i64 f1] 30)) := hb3.trans (A3.out.mono hb3.size)
  have B3 : Hid (Below w.heap.size w (w3.alloc (.cells #[.int .i64 n1, .slice za1 nz1 zc1, .slice oa1 no1 oc1, .slice va1 nv1 vc1, .int .i64 f1] 30))) := B2.out.trans (BX.mono B2.out.size)
  have P3 : Hid (IntsAt (w3.alloc (.cells #[.int .i64 n1, .slice za1 nz1 zc1, .slice oa1 no1 oc1, .slice va1 nv1 vc1, .int .i64 f1] 30)) (some ⟨g, 0, none⟩) zs ∧ IntsAt (w3.alloc (.cells #[.int .i64 n1, .slice za1 nz1 zc1, .slice oa1 no1 oc1, .slice va1 nv1 vc1, .int .i64 f1] 30)) (some ⟨go, 0, none⟩) O ∧ IntsAt (w3.alloc (.cells #[.int .i64 n1, .slice za1 nz1 zc1, .slice oa1 no1 oc1, .slice va1 nv1 vc1, .int .i64 f1] 30)) (some ⟨gv, 0, none⟩) V) := ints3_below P2.out BX
  have Q3 : Hid (CK (w3.alloc (.cells #[.int .i64 n1, .slice za1 nz1 zc1, .slice oa1 no1 oc1, .slice va1 nv1 vc1, .int .i64 f1] 30)) (w2.heap.size + 3) za1 nz1 zc1 oa1 no1 oc1 va1 nv1 vc1 zs1 os1 vs1) := hp3.below A3.out
  have X3 : Hid ((w3.alloc (.cells #[.int .i64 n1, .slice za1 nz1 zc1, .slice oa1 no1 oc1, .slice va1 nv1 vc1, .int .i64 f1] 30)).heap[k1]? = some (.cells #[.int .i64 n, .slice (some ⟨g, 0, none⟩) zl cg, .slice (some ⟨go, 0, none⟩) ko co, .slice (some ⟨gv, 0, none⟩) kv cv, .int .i64 fi] 30 (0, 0))) := below_row BX (row_lt X2.out) X2.out
  have Y3 : Hid ((w3.alloc (.cells #[.int .i64 n1, .slice za1 nz1 zc1, .slice oa1 no1 oc1, .slice va1 nv1 vc1, .int .i64 f1] 30)).heap[w3.heap.size]? = some (.cells #[.int .i64 n1, .slice za1 nz1 zc1, .slice oa1 no1 oc1, .slice va1 nv1 vc1, .int .i64 f1] 30 (0, 0))) := heap_alloc_new _ _
  clear hb3 hp3 A3 BX B2 P2 X2
  obtain ⟨x0, x1, x2, x3, x4⟩ := cells5 X3.out
  go_wp2_with fail
  clear x0 x1 x2 x3 x4
  generalize (w3.alloc (.cells #[.int .i64 n1, .slice za1 nz1 zc1, .slice oa1 no1 oc1, .slice va1 nv1 vc1, .int .i64 f1] 30)) = W3 at *
  generalize w3.heap.size = k3 at *
  refine (CTS.out W3 P3.out).mono ?_
  rintro e w4 ⟨rfl, hb4⟩
  have B4 : Hid (Below w.heap.size w w4) := B3.out.trans (hb4.mono B3.out.size)
  have P4 : Hid (IntsAt w4 (some ⟨g, 0, none⟩) zs ∧ IntsAt w4 (some ⟨go, 0, none⟩) O ∧ IntsAt w4 (some ⟨gv, 0, none⟩) V) := ints3_below P3.out hb4
  have Q4 : Hid (CK w4 (w2.heap.size + 3) za1 nz1 zc1 oa1 no1 oc1 va1 nv1 vc1 zs1 os1 vs1) := Q3.out.below hb4
  have X4 : Hid (w4.heap[k1]? = some (.cells #[.int .i64 n, .slice (some ⟨g, 0, none⟩) zl cg, .slice (some ⟨go, 0, none⟩) ko co, .slice (some ⟨gv, 0, none⟩) kv cv, .int .i64 fi] 30 (0, 0))) := below_row hb4 (row_lt X3.out) X3.out
  have Y4 : Hid (w4.heap[k3]? = some (.cells #[.int .i64 n1, .slice za1 nz1 zc1, .slice oa1 no1 oc1, .slice va1 nv1 vc1, .int .i64 f1] 30 (0, 0))) := below_row hb4 (row_lt Y3.out) Y3.out
  clear hb4 B3 P3 Q3 X3 Y3 CI
  have htt : (tx.toList == tx.toList) = true := beq_self_eq_true _
  obtain ⟨x0, x1, x2, x3, x4⟩ := cells5 X4.out
  go_wp2_with fail
  clear x0 x1 x2 x3 x4
  refine (CO1.out w4 P4.out).mono ?_
  rintro e w4b ⟨rfl, hb4⟩
  have B4b : Hid (Below w.heap.size w w4b) := B4.out.trans (hb4.mono B4.out.size)
  have Q4b : Hid (CK w4b (w2.heap.size + 3) za1 nz1 zc1 oa1 no1 oc1 va1 nv1 vc1 zs1 os1 vs1) := Q4.out.below hb4
  have X4b : Hid (w4b.heap[k1]? = some (.cells #[.int .i64 n, .slice (some ⟨g, 0, none⟩) zl cg, .slice (some ⟨go, 0, none⟩) ko co, .slice (some ⟨gv, 0, none⟩) kv cv, .int .i64 fi] 30 (0, 0))) := below_row hb4 (row_lt X4.out) X4.out
  have Y4b : Hid (w4b.heap[k3]? = some (.cells #[.int .i64 n1, .slice za1 nz1 zc1, .slice oa1 no1 oc1, .slice va1 nv1 vc1, .int .i64 f1] 30 (0, 0))) := below_row hb4 (row_lt Y4.out) Y4.out
  clear hb4 B4 P4 Q4 X4 Y4
  have hbb : (bb != bb) = false := by simp
  cases bb
  · go_wp2_with fail
    have B5 : Hid (Below w.heap.size w w4b) := B4b.out
    clear B4b Q4b X4b Y4b htt hbb
    generalize w4b = w5 at *
    refine (CDR.out w5 (HA.out.blwC B5.out)).mono ?_
    rintro e w6 ⟨s2, rfl, hs2, hb6⟩
    have CS2 : Hid (∀ W, Calls Tryd.prog 11 #[.string (txt s2)] W fun e w' => ∃ n nz za zc no oa oc nv va vc f, e = .returned (.tuple #[.agg #[.int .i64 n, .slice za nz zc, .slice oa no oc, .slice va nv vc, .int .i64 f], .bool (rdCB s2)]) ∧ Below W.heap.size W w') := fun W => specReadCK s2 W (by omega)
    obtain ⟨hd1, hd2, hd3, hd4, hd5⟩ := rdC_small s2
    have CIx : ∀ W, Calls Tryd.prog 7 #[.string (txt s2)] W fun e w' => ∃ za zc oa oc va vc, e = .returned (.tuple #[.agg #[.int .i64 (rdC s2).n, .slice za (rdC s2).zs.length zc, .slice oa (rdC s2).ko oc, .slice va (rdC s2).kv vc, .int .i64 (rdC s2).f], .bool (rdCB s2)]) ∧ Below W.heap.size W w' ∧ CK w' (W.heap.size + 3) za (rdC s2).zs.length zc oa (rdC s2).ko oc va (rdC s2).kv vc (rdC s2).zs (rdC s2).os (rdC s2).vs := fun W => implReadCK s2 W (by omega)
    have HBKx : rdCB s2 = true → csTx (rdC s2).n (rdC s2).f (rdC s2).zs (rdC s2).os (rdC s2).vs (rdC s2).ko (rdC s2).kv = s2 := fun h => rdC_back h
    generalize rdC s2 = d at *
    obtain ⟨n3, f3, zs3, os3, vs3, no3, nv3⟩ := d
    simp only at hd1 hd2 hd3 hd4 hd5 CIx HBKx
    obtain ⟨nz3, HNZ3⟩ : ∃ x, Hid (zs3.length = x) := ⟨_, rfl⟩
    rw [HNZ3.out] at hd1 CIx
    obtain ⟨b2, HB2⟩ : ∃ v, Hid (rdCB s2 = v) := ⟨_, rfl⟩
    rw [HB2.out] at CIx CS2 HBKx
    have HBK : Hid (b2 = true → txt (csTx n3 f3 zs3 os3 vs3 no3 nv3) = txt s2) := fun h => by rw [HBKx h]
    have CI2 : Hid (∀ W, Calls Tryd.prog 7 #[.string (txt s2)] W fun e w' => ∃ za zc oa oc va vc, e = .returned (.tuple #[.agg #[.int .i64 n3, .slice za nz3 zc, .slice oa no3 oc, .slice va nv3 vc, .int .i64 f3], .bool b2]) ∧ Below W.heap.size W w' ∧ CK w' (W.heap.size + 3) za nz3 zc oa no3 oc va nv3 vc zs3 os3 vs3) := CIx
    have HLO3 : Hid (os3.length = no3 * 6) := hd4
    have HLV3 : Hid (vs3.length = nv3 * 5) := hd5
    have B6 : Hid (Below w.heap.size w w6) := B5.out.trans (hb6.mono B5.out.size)
    clear hb6 hs2 B5 CIx HBKx hd4 hd5
    obtain ⟨t2, HT2⟩ : ∃ v, Hid (txt s2 = v) := ⟨_, rfl⟩
    rw [HT2.out] at CI2 CS2 HBK ⊢
    go_wp2_with fail
    refine (CI2.out w6).mono ?_
    rintro e w7 ⟨za3, zc3, oa3, oc3, va3, vc3, rfl, hb7, hp7⟩
    have A7 : Hid (Below w7.heap.size w7 (w7.alloc (.cells #[.int .i64 n3, .slice za3 nz3 zc3, .slice oa3 no3 oc3, .slice va3 nv3 vc3, .int .i64 f3] 30))) := (Below.refl _ _).alloc (Nat.le_refl _) _
    have B7 : Hid (Below w.heap.size w (w7.alloc (.cells #[.int .i64 n3, .slice za3 nz3 zc3, .slice oa3 no3 oc3, .slice va3 nv3 vc3, .int .i64 f3] 30))) := (B6.out.trans (hb7.mono B6.out.size)).trans (A7.out.mono (Nat.le_trans B6.out.size hb7.size))
    have P7 : Hid (CK (w7.alloc (.cells #[.int .i64 n3, .slice za3 nz3 zc3, .slice oa3 no3 oc3, .slice va3 nv3 vc3, .int .i64 f3] 30)) (w6.heap.size + 3) za3 nz3 zc3 oa3 no3 oc3 va3 nv3 vc3 zs3 os3 vs3) := hp7.below A7.out
    have X7 : Hid ((w7.alloc (.cells #[.int .i64 n3, .slice za3 nz3 zc3, .slice oa3 no3 oc3, .slice va3 nv3 vc3, .int .i64 f3] 30)).heap[w7.heap.size]? = some (.cells #[.int .i64 n3, .slice za3 nz3 zc3, .slice oa3 no3 oc3, .slice va3 nv3 vc3, .int .i64 f3] 30 (0, 0))) := heap_alloc_new _ _
    clear hb7 hp7 A7 B6
    go_wp2_with fail
    generalize (w7.alloc (.cells #[.int .i64 n3, .slice za3 nz3 zc3, .slice oa3 no3 oc3, .slice va3 nv3 vc3, .int .i64 f3] 30)) = W7 at *
    generalize w7.heap.size = k7 at *
    refine (CS2.out W7).mono ?_
    rintro e w8 ⟨n4, nz4, za4, zc4, no4, oa4, oc4, nv4, va4, vc4, f4, rfl, hb8⟩
    have A8 : Below w8.heap.size w8 (w8.alloc (.cells #[.int .i64 n4, .slice za4 nz4 zc4, .slice oa4 no4 oc4, .slice va4 nv4 vc4, .int .i64 f4] 30)) := (Below.refl _ _).alloc (Nat.le_refl _) _
    have BX : Below W7.heap.size W7 (w8.alloc (.cells #[.int .i64 n4, .slice za4 nz4 zc4, .slice oa4 no4 oc4, .slice va4 nv4 vc4, .int .i64 f4] 30)) := hb8.trans (A8.mono hb8.size)
    have B8 : Hid (Below w.heap.size w (w8.alloc (.cells #[.int .i64 n4, .slice za4 nz4 zc4, .slice oa4 no4 oc4, .slice va4 nv4 vc4, .int .i64 f4] 30))) := B7.out.trans (BX.mono B7.out.size)
    have P8 : Hid (CK (w8.alloc (.cells #[.int .i64 n4, .slice za4 nz4 zc4, .slice oa4 no4 oc4, .slice va4 nv4 vc4, .int .i64 f4] 30)) (w6.heap.size + 3) za3 nz3 zc3 oa3 no3 oc3 va3 nv3 vc3 zs3 os3 vs3) := P7.out.below BX
    have X8 : Hid ((w8.alloc (.cells #[.int .i64 n4, .slice za4 nz4 zc4, .slice oa4 no4 oc4, .slice va4 nv4 vc4, .int .i64 f4] 30)).heap[k7]? = some (.cells #[.int .i64 n3, .slice za3 nz3 zc3, .slice oa3 no3 oc3, .slice va3 nv3 vc3, .int .i64 f3] 30 (0, 0))) := below_row BX (row_lt X7.out) X7.out
    clear hb8 A8 BX B7 P7 X7
    obtain ⟨x0, x1, x2, x3, x4⟩ := cells5 X8.out
    cases b2
    · go_wp2
      go_ret
      exact ⟨rfl, B8.out⟩
    · go_wp2_with fail
      clear x0 x1 x2 x3 x4
      generalize (w8.alloc (.cells #[.int .i64 n4, .slice za4 nz4 zc4, .slice oa4 no4 oc4, .slice va4 nv4 vc4, .int .i64 f4] 30)) = W8 at *
      refine (implTextCK n3 f3 P8.out HNZ3.out HLO3.out HLV3.out (by omega) (by omega) (HPW.out.below B8.out (Nat.le_refl _))).mono ?_
      rintro e w9 ⟨rfl, hb9⟩
      rw [HBK.out (by first | exact trivial | rfl)]
      have B9 : Hid (Below w.heap.size w w9) := B8.out.trans (hb9.mono B8.out.size)
      clear hb9 B8 P8 X8
      have htt : (t2.toList == t2.toList) = true := beq_self_eq_true _
      go_wp2
      go_ret
      exact ⟨by first | rfl | simp, B9.out⟩
  · have hc := HRK1.out rfl
    obtain ⟨e1, e2, e3, e4, e5, e6, e7⟩ := CV.mk.inj hc
    subst e1 e2 e3 e4 e5 e6 e7
    obtain ⟨x0, x1, x2, x3, x4⟩ := cells5 X4b.out
    obtain ⟨y0, y1, y2, y3, y4⟩ := cells5 Y4b.out
    have hne1 : (no1 != no1) = false := by simp
    have hne2 : (f1 != f1) = false := by simp
    go_wp2_with fail
    clear y0 y1 y2 y3 y4 x0 x1 x2 x3 x4
    refine (implTextCK n1 f1 Q4b.out HNZ1.out HLO1.out HLV1.out (by omega) (by omega) (HPW.out.below B4b.out (Nat.le_refl _))).mono ?_
    rintro e w5 ⟨rfl, hb5⟩
    rw [HS.out, HTX.out]
    have B5 : Hid (Below w.heap.size w w5) := B4b.out.trans (hb5.mono B4b.out.size)
    have X5 : Hid (w5.heap[k1]? = _) := below_row hb5 (row_lt X4b.out) X4b.out
    have Y5 : Hid (w5.heap[k3]? = _) := below_row hb5 (row_lt Y4b.out) Y4b.out
    clear hb5 B4b Q4b X4b Y4b hc
    obtain ⟨x0, x1, x2, x3, x4⟩ := cells5 X5.out
    obtain ⟨y0, y1, y2, y3, y4⟩ := cells5 Y5.out
    go_wp2_with fail
    clear y0 y1 y2 y3 y4 x0 x1 x2 x3 x4 htt hbb hne1 hne2 X5 Y5
    refine (CDR.out w5 (HA.out.blwC B5.out)).mono ?_
    rintro e w6 ⟨s2, rfl, hs2, hb6⟩
    have CS2 : Hid (∀ W, Calls Tryd.prog 11 #[.string (txt s2)] W fun e w' => ∃ n nz za zc no oa oc nv va vc f, e = .returned (.tuple #[.agg #[.int .i64 n, .slice za nz zc, .slice oa no oc, .slice va nv vc, .int .i64 f], .bool (rdCB s2)]) ∧ Below W.heap.size W w') := fun W => specReadCK s2 W (by omega)
    obtain ⟨hd1, hd2, hd3, hd4, hd5⟩ := rdC_small s2
    have CIx : ∀ W, Calls Tryd.prog 7 #[.string (txt s2)] W fun e w' => ∃ za zc oa oc va vc, e = .returned (.tuple #[.agg #[.int .i64 (rdC s2).n, .slice za (rdC s2).zs.length zc, .slice oa (rdC s2).ko oc, .slice va (rdC s2).kv vc, .int .i64 (rdC s2).f], .bool (rdCB s2)]) ∧ Below W.heap.size W w' ∧ CK w' (W.heap.size + 3) za (rdC s2).zs.length zc oa (rdC s2).ko oc va (rdC s2).kv vc (rdC s2).zs (rdC s2).os (rdC s2).vs := fun W => implReadCK s2 W (by omega)
    have HBKx : rdCB s2 = true → csTx (rdC s2).n (rdC s2).f (rdC s2).zs (rdC s2).os (rdC s2).vs (rdC s2).ko (rdC s2).kv = s2 := fun h => rdC_back h
    generalize rdC s2 = d at *
    obtain ⟨n3, f3, zs3, os3, vs3, no3, nv3⟩ := d
    simp only at hd1 hd2 hd3 hd4 hd5 CIx HBKx
    obtain ⟨nz3, HNZ3⟩ : ∃ x, Hid (zs3.length = x) := ⟨_, rfl⟩
    rw [HNZ3.out] at hd1 CIx
    obtain ⟨b2, HB2⟩ : ∃ v, Hid (rdCB s2 = v) := ⟨_, rfl⟩
    rw [HB2.out] at CIx CS2 HBKx
    have HBK : Hid (b2 = true → txt (csTx n3 f3 zs3 os3 vs3 no3 nv3) = txt s2) := fun h => by rw [HBKx h]
    have CI2 : Hid (∀ W, Calls Tryd.prog 7 #[.string (txt s2)] W fun e w' => ∃ za zc oa oc va vc, e = .returned (.tuple #[.agg #[.int .i64 n3, .slice za nz3 zc, .slice oa no3 oc, .slice va nv3 vc, .int .i64 f3], .bool b2]) ∧ Below W.heap.size W w' ∧ CK w' (W.heap.size + 3) za nz3 zc oa no3 oc va nv3 vc zs3 os3 vs3) := CIx
    have HLO3 : Hid (os3.length = no3 * 6) := hd4
    have HLV3 : Hid (vs3.length = nv3 * 5) := hd5
    have B6 : Hid (Below w.heap.size w w6) := B5.out.trans (hb6.mono B5.out.size)
    clear hb6 hs2 B5 CIx HBKx hd4 hd5
    obtain ⟨t2, HT2⟩ : ∃ v, Hid (txt s2 = v) := ⟨_, rfl⟩
    rw [HT2.out] at CI2 CS2 HBK ⊢
    go_wp2_with fail
    refine (CI2.out w6).mono ?_
    rintro e w7 ⟨za3, zc3, oa3, oc3, va3, vc3, rfl, hb7, hp7⟩
    have A7 : Hid (Below w7.heap.size w7 (w7.alloc (.cells #[.int .i64 n3, .slice za3 nz3 zc3, .slice oa3 no3 oc3, .slice va3 nv3 vc3, .int .i64 f3] 30))) := (Below.refl _ _).alloc (Nat.le_refl _) _
    have B7 : Hid (Below w.heap.size w (w7.alloc (.cells #[.int .i64 n3, .slice za3 nz3 zc3, .slice oa3 no3 oc3, .slice va3 nv3 vc3, .int .i64 f3] 30))) := (B6.out.trans (hb7.mono B6.out.size)).trans (A7.out.mono (Nat.le_trans B6.out.size hb7.size))
    have P7 : Hid (CK (w7.alloc (.cells #[.int .i64 n3, .slice za3 nz3 zc3, .slice oa3 no3 oc3, .slice va3 nv3 vc3, .int .i64 f3] 30)) (w6.heap.size + 3) za3 nz3 zc3 oa3 no3 oc3 va3 nv3 vc3 zs3 os3 vs3) := hp7.below A7.out
    have X7 : Hid ((w7.alloc (.cells #[.int .i64 n3, .slice za3 nz3 zc3, .slice oa3 no3 oc3, .slice va3 nv3 vc3, .int .i64 f3] 30)).heap[w7.heap.size]? = some (.cells #[.int .i64 n3, .slice za3 nz3 zc3, .slice oa3 no3 oc3, .slice va3 nv3 vc3, .int .i64 f3] 30 (0, 0))) := heap_alloc_new _ _
    clear hb7 hp7 A7 B6
    go_wp2_with fail
    generalize (w7.alloc (.cells #[.int .i64 n3, .slice za3 nz3 zc3, .slice oa3 no3 oc3, .slice va3 nv3 vc3, .int .i64 f3] 30)) = W7 at *
    generalize w7.heap.size = k7 at *
    refine (CS2.out W7).mono ?_
    rintro e w8 ⟨n4, nz4, za4, zc4, no4, oa4, oc4, nv4, va4, vc4, f4, rfl, hb8⟩
    have A8 : Below w8.heap.size w8 (w8.alloc (.cells #[.int .i64 n4, .slice za4 nz4 zc4, .slice oa4 no4 oc4, .slice va4 nv4 vc4, .int .i64 f4] 30)) := (Below.refl _ _).alloc (Nat.le_refl _) _
    have BX : Below W7.heap.size W7 (w8.alloc (.cells #[.int .i64 n4, .slice za4 nz4 zc4, .slice oa4 no4 oc4, .slice va4 nv4 vc4, .int .i64 f4] 30)) := hb8.trans (A8.mono hb8.size)
    have B8 : Hid (Below w.heap.size w (w8.alloc (.cells #[.int .i64 n4, .slice za4 nz4 zc4, .slice oa4 no4 oc4, .slice va4 nv4 vc4, .int .i64 f4] 30))) := B7.out.trans (BX.mono B7.out.size)
    have P8 : Hid (CK (w8.alloc (.cells #[.int .i64 n4, .slice za4 nz4 zc4, .slice oa4 no4 oc4, .slice va4 nv4 vc4, .int .i64 f4] 30)) (w6.heap.size + 3) za3 nz3 zc3 oa3 no3 oc3 va3 nv3 vc3 zs3 os3 vs3) := P7.out.below BX
    have X8 : Hid ((w8.alloc (.cells #[.int .i64 n4, .slice za4 nz4 zc4, .slice oa4 no4 oc4, .slice va4 nv4 vc4, .int .i64 f4] 30)).heap[k7]? = some (.cells #[.int .i64 n3, .slice za3 nz3 zc3, .slice oa3 no3 oc3, .slice va3 nv3 vc3, .int .i64 f3] 30 (0, 0))) := below_row BX (row_lt X7.out) X7.out
    clear hb8 A8 BX B7 P7 X7
    obtain ⟨x0, x1, x2, x3, x4⟩ := cells5 X8.out
    cases b2
    · go_wp2
      go_ret
      exact ⟨rfl, B8.out⟩
    · go_wp2_with fail
      clear x0 x1 x2 x3 x4
      generalize (w8.alloc (.cells #[.int .i64 n4, .slice za4 nz4 zc4, .slice oa4 no4 oc4, .slice va4 nv4 vc4, .int .i64 f4] 30)) = W8 at *
      refine (implTextCK n3 f3 P8.out HNZ3.out HLO3.out HLV3.out (by omega) (by omega) (HPW.out.below B8.out (Nat.le_refl _))).mono ?_
      rintro e w9 ⟨rfl, hb9⟩
      rw [HBK.out (by first | exact trivial | rfl)]
      have B9 : Hid (Below w.heap.size w w9) := B8.out.trans (hb9.mono B8.out.size)
      clear hb9 B8 P8 X8
      have htt : (t2.toList == t2.toList) = true := beq_self_eq_true _
      go_wp2
      go_ret
      exact ⟨by first | rfl | simp, B9.out⟩

theorem lawFnCaseTexts_all (a : Option Addr) (c : Nat) (bs : List Int) (w : World) (hA : CodeAt w a bs) (hl : bs.length ≤ 9223372036854775807) (hT : PW w) :
    Calls Tryd.prog 3 #[.slice a bs.length c] w fun e w' => e = .returned (.bool true) ∧ Below w.heap.size w w' := by
  by_cases h : bs.length ≤ 1048576
  · exact lawFnCaseTexts a c bs w hA h hT
  · exact lawFnCaseTexts_big a c bs.length w hl (by omega)

end Go.Proofs.YtaofpbmdloihgaaDoor
