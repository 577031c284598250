import Derived.Test.YtocnlgmcjdggaaaPack2
import Derived.Test.YtocnlgmcjdggaaaPack14
import Derived.Test.YtocnlgmcjdggaaaSpecLatest
import Derived.Deep.CutRange
namespace Go.Proofs.Ytocnlgmcjdggaaa
open Go.RowKit

theorem grown_new {w w1 w2 : World} {q : Nat} {row : Option Nat} (h : w.grownBy w1 (some q)) (hg : w1.grownBy w2 row) (hr : ∀ r, row = some r → w.heap.size ≤ r) : w.grownBy w2 (some q) :=
  ⟨hg.os.trans h.os, hg.tape.trans h.tape, hg.output.trans h.output, Nat.le_trans h.size hg.size, fun k hk hne => (hg.block k (Nat.lt_of_lt_of_le hk h.size) (fun e => by have := hr k e.symm; omega)).trans (h.block k hk hne)⟩
theorem owns_other {w w' : World} {B q n : Nat} {e : TypeId} {v : Value} {xs : List Value} (h : w.ownsRow B e 1 v n xs) (hg : w.grownBy w' (some q)) (hq : q < B) : w'.ownsRow B e 1 v n xs := by
  obtain ⟨h1, h2 | ⟨g, cap, cur, h2, h3, h4, h5⟩⟩ := h
  · exact ⟨h1, .inl h2⟩
  · exact ⟨h1, .inr ⟨g, cap, cur, h2, h3, grown_row hg h4 (fun e => by injection e with e; omega), h5⟩⟩
/-- A reader is no row of numbers. -/
theorem reader_apart {w : World} {q p c g off : Nat} {a : Option Addr} {bs xs : List Int} (hr : RD w q a bs c p) (h : IntsAt w (some ⟨g, off, none⟩) xs) (hx : 0 < xs.length) : g ≠ q ∨ off ≠ 0 := by
  by_cases e : g = q ∧ off = 0
  · obtain ⟨rfl, rfl⟩ := e
    obtain ⟨_, _, e2, hc⟩ := h 0 hx
    simp at e2
    obtain ⟨rfl, rfl⟩ := e2
    rw [cell_of_row _ _ _ _ _ _ hr.1] at hc
    simp at hc
  · by_cases e2 : g = q
    · exact .inr (fun h9 => e ⟨e2, h9⟩)
    · exact .inl e2
/-- A drawn case, a route and some starts, told to their caller. -/
def KeepTold (w : World) (e : Ending) (w' : World) : Prop := ∃ (n : Int) (g zl cg go ko co gv kv cv : Nat) (zs O V L : List Int) (fi veh : Int) (ao : Option Addr) (m co2 : Nat) (gs ks cs : Nat) (S : List Int),
  e = .returned (.tuple #[.agg #[.int .i64 n, .slice (some ⟨g, 0, none⟩) zl cg, .slice (some ⟨go, 0, none⟩) ko co, .slice (some ⟨gv, 0, none⟩) kv cv, .int .i64 fi], .agg #[.int .i64 veh, .slice ao m co2], .slice (some ⟨gs, 0, none⟩) ks cs]) ∧ (zs.length = zl ∧ O.length = ko * 6 ∧ V.length = kv * 5 ∧ 1 ≤ ko ∧ ko ≤ 5 ∧ 1 ≤ kv ∧ kv ≤ 3) ∧ (L.length = m ∧ m ≤ 4 ∧ m ≤ co2) ∧ (S.length = ks ∧ ks ≤ 4) ∧
  Below w.heap.size w w' ∧ IntsAt w' (some ⟨g, 0, none⟩) zs ∧ IntsAt w' (some ⟨go, 0, none⟩) O ∧ IntsAt w' (some ⟨gv, 0, none⟩) V ∧ IntsAt w' ao L ∧ IntsAt w' (some ⟨gs, 0, none⟩) S
theorem XD.doneK {w W : World} {q k kx : Nat} {a : Option Addr} {bs : List Int} {c : Nat} {n fi veh : Int} {g zl cg go ko co gv kv cv : Nat} {zs O V : List Int} {ao : Option Addr} {m co2 : Nat} {L : List Int} (h : XD w W q k kx a bs c n fi veh g zl cg go ko co gv kv cv zs O V ao m co2 L #[.int .i64 n, .slice (some ⟨g, 0, none⟩) zl cg, .slice (some ⟨go, 0, none⟩) ko co, .slice (some ⟨gv, 0, none⟩) kv cv, .int .i64 fi] #[.int .i64 veh, .slice ao m co2]) (hls : zs.length = zl ∧ O.length = ko * 6 ∧ V.length = kv * 5 ∧ 1 ≤ ko ∧ ko ≤ 5 ∧ 1 ≤ kv ∧ kv ≤ 3) (gs ks cs : Nat) (S : List Int) (hS : S.length = ks ∧ ks ≤ 4) (hI : IntsAt W (some ⟨gs, 0, none⟩) S) (A : Act) (h2 : A.tmps.getD 2 undef = .pointer (some ⟨w.heap.size, 0, none⟩)) (h3 : A.tmps.getD 3 undef = .pointer (some ⟨w.heap.size + 1, 0, none⟩)) (h4 : A.tmps.getD 4 undef = .slice (some ⟨gs, 0, none⟩) ks cs) (hds : A.defers = []) :
    bodyPost Try.prog Try.f17 (KeepTold w) Exit.ret A W := by
  refine bodyPost_ret (v := .tuple #[.agg #[.int .i64 n, .slice (some ⟨g, 0, none⟩) zl cg, .slice (some ⟨go, 0, none⟩) ko co, .slice (some ⟨gv, 0, none⟩) kv cv, .int .i64 fi], .agg #[.int .i64 veh, .slice ao m co2], .slice (some ⟨gs, 0, none⟩) ks cs]) ?_ hds ⟨n, g, zl, cg, go, ko, co, gv, kv, cv, zs, O, V, L, fi, veh, ao, m, co2, gs, ks, cs, S, rfl, hls, h.l, hS, h.s.b, h.s.iz, h.s.io, h.s.iv, h.il, hI⟩
  have r1 := run_loadVar_row (P := Try.prog) W w.heap.size 30 30 #[.int .i64 n, .slice (some ⟨g, 0, none⟩) zl cg, .slice (some ⟨go, 0, none⟩) ko co, .slice (some ⟨gv, 0, none⟩) kv cv, .int .i64 fi] (0, 0) _ h.s.b0 Try.underlying30 rfl sizeCase5
  have r2 := run_loadVar_row (P := Try.prog) W (w.heap.size + 1) 32 32 #[.int .i64 veh, .slice ao m co2] (0, 0) _ h.s.b2 Try.underlying32 rfl sizeRoute2
  have h2' : A.tmps[2]?.getD undef = .pointer (some ⟨w.heap.size, 0, none⟩) := by simpa using h2
  have h3' : A.tmps[3]?.getD undef = .pointer (some ⟨w.heap.size + 1, 0, none⟩) := by simpa using h3
  have h4' : A.tmps[4]?.getD undef = .slice (some ⟨gs, 0, none⟩) ks cs := by simpa using h4
  simp [results, Try.results17, h2', h3', h4', asAddr, r1, r2]

set_option maxRecDepth 10000 in
set_option maxHeartbeats 40000000 in
theorem drawKeeps_any (a : Option Addr) (c : Nat) (bs : List Int) (w : World) (h : CodeAt w a bs) (hl : bs.length ≤ 1048576) :
    Calls Try.prog 17 #[.slice a bs.length c] w (KeepTold w) := by
  have H : Hid (CodeAt w a bs) := h
  clear h
  have BA : Hid (Below w.heap.size w ((w.alloc (.cells #[.int .i64 0, .slice none 0 0, .slice none 0 0, .slice none 0 0, .int .i64 0] 30)).alloc (.cells #[.int .i64 0, .slice none 0 0] 32))) := ((Below.refl _ _).alloc (Nat.le_refl _) _).alloc (by simp) _
  have GA : Hid (((w.alloc (.cells #[.int .i64 0, .slice none 0 0, .slice none 0 0, .slice none 0 0, .int .i64 0] 30)).alloc (.cells #[.int .i64 0, .slice none 0 0] 32)).heap[w.heap.size]? = some (.cells #[.int .i64 0, .slice none 0 0, .slice none 0 0, .slice none 0 0, .int .i64 0] 30 (0, 0))) := heap_alloc2_old _ _ _
  have GB : Hid (((w.alloc (.cells #[.int .i64 0, .slice none 0 0, .slice none 0 0, .slice none 0 0, .int .i64 0] 30)).alloc (.cells #[.int .i64 0, .slice none 0 0] 32)).heap[w.heap.size + 1]? = some (.cells #[.int .i64 0, .slice none 0 0] 32 (0, 0))) := heap_alloc2_new _ _ _
  have CA : Hid (CodeAt ((w.alloc (.cells #[.int .i64 0, .slice none 0 0, .slice none 0 0, .slice none 0 0, .int .i64 0] 30)).alloc (.cells #[.int .i64 0, .slice none 0 0] 32)) a bs) := by
    intro j hj
    obtain ⟨b, off, e, hc, hv⟩ := H.out j hj
    exact ⟨b, off, e, (BA.out.cell (p := ⟨b, off + j, none⟩) (block_lt_of_cell hc)).trans hc, hv⟩
  go_enter Try.func17, Try.ntmps17
  go_wp2_with fail
  generalize (w.alloc (.cells #[.int .i64 0, .slice none 0 0, .slice none 0 0, .slice none 0 0, .int .i64 0] 30)).alloc (.cells #[.int .i64 0, .slice none 0 0] 32) = W0 at *
  refine (l1Open_any a c bs W0 CA.out hl).mono ?_
  rintro e w1 ⟨rfl, hb, hr⟩
  obtain ⟨q, HQ⟩ : ∃ q, Hid (W0.heap.size = q) := ⟨_, rfl⟩
  have hw0 : w.heap.size + 1 < W0.heap.size := row_lt GB.out
  have HQL : Hid (w.heap.size + 1 < q) := by show _ < _; rw [← HQ.out]; exact hw0
  have B1 : Hid (Below w.heap.size w w1) := BA.out.trans (hb.mono BA.out.size)
  have G1 : Hid (w1.heap[w.heap.size]? = some (.cells #[.int .i64 0, .slice none 0 0, .slice none 0 0, .slice none 0 0, .int .i64 0] 30 (0, 0))) := below_row hb (row_lt GA.out) GA.out
  have G2 : Hid (w1.heap[w.heap.size + 1]? = some (.cells #[.int .i64 0, .slice none 0 0] 32 (0, 0))) := below_row hb (row_lt GB.out) GB.out
  have R1 : Hid (RD w1 q a bs c 0) := by have := hr; rw [HQ.out] at this; exact this
  clear hb hr hw0
  rw [HQ.out]
  go_wp2_with fail
  refine (case1_any q 0 c 5 a bs w1 R1.out (by omega) (by omega)).mono ?_
  rintro e w3 ⟨n, g, zl, cg, go, ko, co, gv, kv, cv, zs, O, V, fi, rfl, hls, hg, ⟨p3, hr⟩, iz, io, iv, hgs⟩
  have HLS : Hid (zs.length = zl ∧ O.length = ko * 6 ∧ V.length = kv * 5 ∧ 1 ≤ ko ∧ ko ≤ 5 ∧ 1 ≤ kv ∧ kv ≤ 3) := hls
  have hko : ko ≤ 5 := hls.2.2.2.2.1
  have hkv : kv ≤ 3 := hls.2.2.2.2.2.2
  have hk1 : 1 ≤ ko := hls.2.2.2.1
  have hv1 : 1 ≤ kv := hls.2.2.2.2.2.1
  have S3 : Hid (SD w (w3.alloc (.cells #[.int .i64 n, .slice (some ⟨g, 0, none⟩) zl cg, .slice (some ⟨go, 0, none⟩) ko co, .slice (some ⟨gv, 0, none⟩) kv cv, .int .i64 fi] 30)) q w3.heap.size a bs c #[.int .i64 n, .slice (some ⟨g, 0, none⟩) zl cg, .slice (some ⟨go, 0, none⟩) ko co, .slice (some ⟨gv, 0, none⟩) kv cv, .int .i64 fi] g go gv zs O V #[.int .i64 0, .slice none 0 0, .slice none 0 0, .slice none 0 0, .int .i64 0] #[.int .i64 0, .slice none 0 0]) := by
    have hA : Below w3.heap.size w3 (w3.alloc (.cells #[.int .i64 n, .slice (some ⟨g, 0, none⟩) zl cg, .slice (some ⟨go, 0, none⟩) ko co, .slice (some ⟨gv, 0, none⟩) kv cv, .int .i64 fi] 30)) := (Below.refl _ _).alloc (Nat.le_refl _) _
    have hwq := HQL.out
    have hq1 : q < w1.heap.size := row_lt R1.out.1
    have b3 : Below w.heap.size w w3 := grown_below B1.out (by omega) hg
    have g3 := grown_row hg G1.out (fun e => by injection e with e; omega)
    have g4 := grown_row hg G2.out (fun e => by injection e with e; omega)
    have hq3 : q < w3.heap.size := row_lt hr.1
    obtain ⟨hs1, hs2, hs3, -⟩ := hgs
    refine ⟨b3.alloc b3.size _, ⟨p3, hr.below hA⟩, ⟨hwq, ⟨by omega, by have := row_lt g4; omega⟩, ⟨by omega, by omega⟩, ⟨by omega, by omega⟩, ⟨by omega, by omega⟩⟩, fun j hj => ?_, below_row hA (row_lt g3) g3, below_row hA (row_lt g4) g4, heap_alloc_new _ _, iz.below hA, io.below hA, iv.below hA⟩
    obtain ⟨b, off, e, hc, _⟩ := H.out j hj
    exact ⟨b, off, e, block_lt_of_cell hc⟩
  have R3 : Hid (RD (w3.alloc (.cells #[.int .i64 n, .slice (some ⟨g, 0, none⟩) zl cg, .slice (some ⟨go, 0, none⟩) ko co, .slice (some ⟨gv, 0, none⟩) kv cv, .int .i64 fi] 30)) q a bs c p3) := hr.below ((Below.refl _ _).alloc (Nat.le_refl _) _)
  clear hr hg iz io iv hgs hls B1 G1 G2 R1 BA GA GB CA
  obtain ⟨c0, c1, c2', c3, c4⟩ := cells5z S3.out.b1
  go_wp2_with fail
  obtain ⟨k, HKk⟩ : ∃ v, Hid (w3.heap.size = v) := ⟨_, rfl⟩
  rw [HKk.out] at S3 c0 c1 c2' c3 c4 ⊢
  generalize w3.alloc (.cells #[.int .i64 n, .slice (some ⟨g, 0, none⟩) zl cg, .slice (some ⟨go, 0, none⟩) ko co, .slice (some ⟨gv, 0, none⟩) kv cv, .int .i64 fi] 30) = W3 at *
  refine (route_any q p3 c n fi g zl cg go ko co gv kv cv O V a bs W3 R3.out S3.out.io S3.out.iv S3.out.h.2.2.2.1.1 S3.out.h.2.2.2.2.1 HLS.out.2.1 HLS.out.2.2.1 hk1 (by omega) hv1 (by omega)).mono ?_
  rintro e w4 ⟨veh, sl, L, rfl, hL, hg, ⟨p4, hr⟩, ho⟩
  obtain ⟨ao, co2, e⟩ := own_any ho
  subst e
  obtain ⟨m, HM⟩ : ∃ m, Hid (L.length = m) := ⟨_, rfl⟩
  have X4 : Hid (XD w (w4.alloc (.cells #[.int .i64 veh, .slice ao m co2] 32)) q k w4.heap.size a bs c n fi veh g zl cg go ko co gv kv cv zs O V ao m co2 L #[.int .i64 0, .slice none 0 0, .slice none 0 0, .slice none 0 0, .int .i64 0] #[.int .i64 0, .slice none 0 0]) := by
    have ha : Below w4.heap.size w4 (w4.alloc (.cells #[.int .i64 veh, .slice ao m co2] 32)) := (Below.refl _ _).alloc (Nat.le_refl _) _
    have hst := StopsAt.of_own (w := w) (by rw [HM.out] at ho; exact ho) HM.out hL S3.out.size
    have hS4 := S3.out.read hr hg
    have hq3 : q < W3.heap.size := row_lt R3.out.1
    have hq4 : q < w4.heap.size := row_lt hr.1
    refine ⟨hS4.below ha, heap_alloc_new _ _, ⟨by have := hS4.size; omega, by omega⟩, ⟨hst.1, hst.2.1, hst.2.2.1⟩, hst.2.2.2.1.below ha, fun b e => ?_⟩
    have e2 : (Value.slice ao L.length co2).ownBlock = some b := by rw [show (Value.slice ao L.length co2).ownBlock = (Value.slice ao 0 0).ownBlock from by cases ao <;> rfl]; exact e
    have := (ho.lt b e2).1
    have := S3.out.size
    omega
  rw [HM.out]
  have R4 : Hid (RD (w4.alloc (.cells #[.int .i64 veh, .slice ao m co2] 32)) q a bs c p4) := hr.below ((Below.refl _ _).alloc (Nat.le_refl _) _)
  rw [HM.out] at hL
  clear hg hr ho S3 R3 c0 c1 c2' c3 c4
  go_upto_region 4 with fail
  obtain ⟨kx, HKX⟩ : ∃ v, Hid (w4.heap.size = v) := ⟨_, rfl⟩
  rw [HKX.out] at X4 ⊢
  generalize w4.alloc (.cells #[.int .i64 veh, .slice ao m co2] 32) = W4 at *
  have hmL : L.length = m := HM.out
  have hmc : m ≤ co2 := X4.out.l.2.2
  obtain ⟨mm, HMM⟩ : ∃ v, Hid ((if codeV (caseB n zs O V ko kv fi) n zs O V ko kv veh L = 0 then m else 0) = v) := ⟨_, rfl⟩
  obtain ⟨vis, HVI⟩ : ∃ v, Hid ((if codeV (caseB n zs O V ko kv fi) n zs O V ko kv veh L = 0 then visL n zs (rosOf O ko L) (fnd5F V kv veh 1) (fnd5F V kv veh 3) m else []) = v) := ⟨_, rfl⟩
  obtain ⟨lat, HLA⟩ : ∃ v, Hid ((if codeV (caseB n zs O V ko kv fi) n zs O V ko kv veh L = 0 then latL n zs (rosOf O ko L) m (fnd5F V kv veh 1) (fnd5F V kv veh 4) else []) = v) := ⟨_, rfl⟩
  have hmm4 : mm ≤ 4 := by rw [← HMM.out]; split <;> omega
  have HVL : Hid (vis.length = mm * 4) := by
    show _ = _
    rw [← HVI.out, ← HMM.out]
    split
    · rw [visL_length]
    · rfl
  have HLL : Hid (lat.length = mm) := by
    show _ = _
    rw [← HLA.out, ← HMM.out]
    split
    · rw [latL_length]
    · rfl
  have HBB : Hid (∀ i, i < mm → (0 ≤ vis.getD (i * 4 + 2) 0 ∧ vis.getD (i * 4 + 2) 0 ≤ 2000000) ∧ (-2000000 ≤ lat.getD i 0 ∧ lat.getD i 0 ≤ 2000000)) := fun i hi => by
    by_cases hc : codeV (caseB n zs O V ko kv fi) n zs O V ko kv veh L = 0
    · have e1 := HMM.out
      have e2 := HVI.out
      have e3 := HLA.out
      rw [if_pos hc] at e1 e2 e3
      obtain ⟨hcb, _, hst⟩ := formV_zero (codeV_zero hc).1
      obtain ⟨hmat, hords, hvehs, hn1, _⟩ := caseB_parts hcb
      have hvb := fnd5F_bd hvehs hn1 veh
      have hrb := rosBd_of hords hn1 L
      rw [hmL] at hrb
      have hi' : i < m := by omega
      rw [← e2, ← e3]
      have h1 := arrV_bd (home := fnd5F V kv veh 1) hmat hrb hvb.2.2.1 (by omega) hi'
      have h2 := latT_bd (home := fnd5F V kv veh 1) hmat hrb hvb.2.2.2 (m - i) (by omega)
      rw [visL_at n zs _ _ _ hi' (by omega), latL_at n zs _ _ _ hi']
      simp only [visF, if_false, if_true, Nat.reduceEqDiff]
      omega
    · have e1 := HMM.out
      rw [if_neg hc] at e1
      omega
  have SCH : Hid (∀ W, XD w W q k kx a bs c n fi veh g zl cg go ko co gv kv cv zs O V ao m co2 L #[.int .i64 0, .slice none 0 0, .slice none 0 0, .slice none 0 0, .int .i64 0] #[.int .i64 0, .slice none 0 0] → Calls Try.prog 10 #[.agg #[.int .i64 n, .slice (some ⟨g, 0, none⟩) zl cg, .slice (some ⟨go, 0, none⟩) ko co, .slice (some ⟨gv, 0, none⟩) kv cv, .int .i64 fi], .agg #[.int .i64 veh, .slice ao m co2]] W fun e w' => ∃ av cav h cd, e = .returned (.tuple #[.slice av mm cav, .int .i64 h, .int .i64 cd]) ∧ Below W.heap.size W w' ∧ IntsAt w' av vis) := fun W h => by
    have := specSchedule_any n fi veh (some ⟨g, 0, none⟩) (some ⟨go, 0, none⟩) (some ⟨gv, 0, none⟩) ao cg ko co kv cv co2 zs O V L W h.s.iz h.s.io h.s.iv h.il HLS.out.2.1 HLS.out.2.2.1 (by omega) (by omega) (by rw [hmL]; omega) (by rw [hmL]; exact hmc)
    rw [HLS.out.1, hmL] at this
    refine this.mono ?_
    rintro e w' ⟨hb, ⟨hc, rfl⟩ | ⟨hc, gg, cc, -, rfl, hi⟩⟩
    · have e1 := HMM.out
      have e2 := HVI.out
      rw [if_neg hc] at e1 e2
      subst e1 e2
      exact ⟨_, _, _, _, rfl, hb, fun j hj => by simp at hj⟩
    · have e1 := HMM.out
      have e2 := HVI.out
      rw [if_pos hc] at e1 e2
      rw [← e1, ← e2]
      exact ⟨_, _, _, _, rfl, hb, hi⟩
  have SLA : Hid (∀ W, XD w W q k kx a bs c n fi veh g zl cg go ko co gv kv cv zs O V ao m co2 L #[.int .i64 0, .slice none 0 0, .slice none 0 0, .slice none 0 0, .int .i64 0] #[.int .i64 0, .slice none 0 0] → Calls Try.prog 21 #[.agg #[.int .i64 n, .slice (some ⟨g, 0, none⟩) zl cg, .slice (some ⟨go, 0, none⟩) ko co, .slice (some ⟨gv, 0, none⟩) kv cv, .int .i64 fi], .agg #[.int .i64 veh, .slice ao m co2]] W fun e w' => ∃ al cal h, e = .returned (.tuple #[.slice al mm cal, .int .i64 h]) ∧ Below W.heap.size W w' ∧ IntsAt w' al lat ∧ ∀ b off, al = some ⟨b, off, none⟩ → off = 0) := fun W h => by
    have := specLatest_any n fi veh (some ⟨g, 0, none⟩) (some ⟨go, 0, none⟩) (some ⟨gv, 0, none⟩) ao cg ko co kv cv co2 zs O V L W h.s.iz h.s.io h.s.iv h.il HLS.out.2.1 HLS.out.2.2.1 (by omega) (by omega) (by rw [hmL]; omega) (by rw [hmL]; exact hmc)
    rw [HLS.out.1, hmL] at this
    refine this.mono ?_
    rintro e w' ⟨hb, ⟨hc, rfl⟩ | ⟨hc, gg, rfl, hi⟩⟩
    · have e1 := HMM.out
      have e2 := HLA.out
      rw [if_neg hc] at e1 e2
      subst e1 e2
      exact ⟨_, _, _, rfl, hb, fun j hj => by simp at hj, fun b off e => by cases e⟩
    · have e1 := HMM.out
      have e2 := HLA.out
      rw [if_pos hc] at e1 e2
      rw [← e1, ← e2]
      exact ⟨_, _, _, rfl, hb, hi, fun b off e => by cases e; rfl⟩
  clear HMM HVI HLA
  obtain ⟨d0, d1, d2, d3, d4, e0, e1⟩ := X4.out.keep
  go_wp2_with fail
  refine (SCH.out _ X4.out).mono ?_
  rintro e w5 ⟨av, cav, hh, cd, rfl, hb, hvi⟩
  have X5 : Hid (XD w w5 q k kx a bs c n fi veh g zl cg go ko co gv kv cv zs O V ao m co2 L #[.int .i64 0, .slice none 0 0, .slice none 0 0, .slice none 0 0, .int .i64 0] #[.int .i64 0, .slice none 0 0]) := X4.out.below hb
  have R5 : Hid (RD w5 q a bs c p4) := R4.out.below hb
  have V5 : Hid (IntsAt w5 av vis) := hvi
  clear hb hvi d0 d1 d2 d3 d4 e0 e1 X4 R4 SCH
  obtain ⟨d0, d1, d2, d3, d4, e0, e1⟩ := X5.out.keep
  go_wp2_with fail
  refine (SLA.out _ X5.out).mono ?_
  rintro e w6 ⟨al, cal, hv9, rfl, hb, hla, hlz⟩
  have HAL : Hid (∀ b off, al = some ⟨b, off, none⟩ → off = 0) := hlz
  clear hlz
  have X6 : Hid (XD w w6 q k kx a bs c n fi veh g zl cg go ko co gv kv cv zs O V ao m co2 L #[.int .i64 0, .slice none 0 0, .slice none 0 0, .slice none 0 0, .int .i64 0] #[.int .i64 0, .slice none 0 0]) := X5.out.below hb
  have R6 : Hid (RD w6 q a bs c p4) := R5.out.below hb
  have V6 : Hid (IntsAt w6 av vis ∧ IntsAt w6 al lat) := ⟨V5.out.below hb, hla⟩
  clear hb hla d0 d1 d2 d3 d4 e0 e1 X5 R5 V5 SLA
  generalize w6 = W6 at *
  have HQ6 : Hid (q < W6.heap.size) := row_lt R6.out.1
  have HW6 : Hid (w.heap.size ≤ W6.heap.size) := X6.out.s.b.size
  have HCD : Hid (∀ j, j < bs.length → ∃ b off, a = some ⟨b, off, none⟩ ∧ b < w.heap.size) := X6.out.s.cd
  have G7 : Hid (W6.grownBy (W6.alloc (.cells #[] 2)) (some q)) := World.grownBy_alloc _ _ _
  have O7 : Hid ((W6.alloc (.cells #[] 2)).ownsRow W6.heap.size 2 1 (.slice (some ⟨W6.heap.size, 0, none⟩) 0 0) 0 (([] : List Int).map (Value.int .i64))) := World.ownsRow_made W6 #[] 0 (Nat.le_refl _) (by unfold maxLen; omega) (by simp)
  have R7 : Hid (RD (W6.alloc (.cells #[] 2)) q a bs c p4) := R6.out.below ((Below.refl _ _).alloc (Nat.le_refl _) _)
  go_wp2_with fail
  go_loopw [13, 14] (fun sl t wr => ∃ (i : Nat) (S0 : List Int), i ≤ mm ∧ S0.length = i ∧ t = .int .i64 i ∧ wr.ownsRow W6.heap.size 2 1 sl i (S0.map (Value.int .i64)) ∧ sl ≠ .slice none 0 0 ∧ W6.grownBy wr (some q) ∧ ∃ p, RD wr q a bs c p) (fun _ t _ => mm - (intOf t).toNat)
  case atStart => exact ⟨0, [], Nat.zero_le _, rfl, rfl, O7.out, by simp, G7.out, _, R7.out⟩
  case round =>
    clear G7 O7 R7
    obtain ⟨i, S0, hi, hsl, rfl, ho, hnl, hg, pRr, hr⟩ := hrel
    obtain ⟨gp, cp, rfl⟩ := own_sm ho hnl
    have HSL : Hid (S0.length = i) := hsl
    have Or : Hid (wr.ownsRow W6.heap.size 2 1 (.slice (some ⟨gp, 0, none⟩) i cp) i (S0.map (Value.int .i64))) := ho
    have Gr : Hid (W6.grownBy wr (some q)) := hg
    have Rr : Hid (RD wr q a bs c pRr) := hr
    clear hsl ho hnl hg hr
    by_cases hlt : i < mm
    · obtain ⟨vb, vo, ev, hcv⟩ := V6.out.1.some (j := i * 4 + 2) (by rw [HVL.out]; omega)
      have cv6 := hcv (i * 4 + 2) (by rw [HVL.out]; omega)
      obtain ⟨lb, lo, el, hcl⟩ := V6.out.2.some (j := i) (by rw [HLL.out]; exact hlt)
      have cl6 := hcl i (by rw [HLL.out]; exact hlt)
      have hvq : vb ≠ q := fun e9 => by
        have h9 := hcv 0 (by rw [HVL.out]; omega)
        have h8 := hcv 1 (by rw [HVL.out]; omega)
        have h7 := hcv 2 (by rw [HVL.out]; omega)
        subst e9
        rw [cell_of_row _ _ _ _ _ _ R6.out.1] at h9 h8 h7
        rcases Nat.lt_or_ge vo 1 with h6 | h6
        · have : vo = 0 := by omega
          subst this
          simp at h9
        · have : ∀ j, 2 ≤ j → (#[Value.slice a bs.length c, Value.int IntKind.i64 (p4 : Int)] : Array Value)[j]? = none := fun j hj => by simp; omega
          rw [this (vo + 2) (by omega)] at h7
          cases h7
      have hlq : lb ≠ q := fun e9 => by
        have h9 := hcl 0 (by rw [HLL.out]; omega)
        have h8 := HAL.out lb lo el
        subst e9 h8
        rw [cell_of_row _ _ _ _ _ _ R6.out.1] at h9
        simp at h9
      clear hcv hcl
      obtain ⟨⟨hz0, hz1⟩, hl0, hl1⟩ := HBB.out i hlt
      obtain ⟨z, HZ⟩ : ∃ v, Hid (vis.getD (i * 4 + 2) 0 = v) := ⟨_, rfl⟩
      obtain ⟨lt, HLT⟩ : ∃ v, Hid (lat.getD i 0 = v) := ⟨_, rfl⟩
      rw [HZ.out] at hz0 hz1 cv6
      rw [HLT.out] at hl0 hl1 cl6
      have cvr : wr.cell? ⟨vb, vo + i * 4 + 2, none⟩ = some (.int .i64 z) := by
        have := Gr.out.cell cv6 (fun e => absurd (Option.some.inj e) hvq)
        rw [show vo + i * 4 + 2 = vo + (i * 4 + 2) from by omega]
        exact this
      have clr : wr.cell? ⟨lb, lo + i, none⟩ = some (.int .i64 lt) := Gr.out.cell cl6 (fun e => absurd (Option.some.inj e) hlq)
      have HLQ : Hid (lb ≠ q) := hlq
      clear cv6 cl6 hvq hlq
      subst ev el
      by_cases hgt : z < lt
      · have hgd : decide (z < lt) = true := decide_eq_true hgt
        go_wp2_with fail
        refine (once_any q pRr c 2 a bs wr Rr.out (by omega) (by omega)).mono ?_
        rintro e wa ⟨ta, pRa, rfl, hr, hg⟩
        have Ra : Hid (RD wa q a bs c pRa) := hr
        have Ga : Hid (W6.grownBy wa (some q)) := grown_trans Gr.out hg
        have Oa : Hid (wa.ownsRow W6.heap.size 2 1 (.slice (some ⟨gp, 0, none⟩) i cp) i (S0.map (Value.int .i64))) := owns_other Or.out hg HQ6.out
        have clra : wa.cell? ⟨lb, lo + i, none⟩ = some (.int .i64 lt) := hg.cell clr (fun e => absurd (Option.some.inj e) HLQ.out)
        clear hr hg clr cvr
        cases ta
        · skip
          go_wp2_with fail
          refine (once_any q pRa c 10 a bs wa Ra.out (by omega) (by omega)).mono ?_
          rintro e wb ⟨tb, pRb, rfl, hr, hg⟩
          have Rb : Hid (RD wb q a bs c pRb) := hr
          have Gb : Hid (W6.grownBy wb (some q)) := grown_trans Ga.out hg
          have Ob : Hid (wb.ownsRow W6.heap.size 2 1 (.slice (some ⟨gp, 0, none⟩) i cp) i (S0.map (Value.int .i64))) := owns_other Oa.out hg HQ6.out
          clear hr hg
          cases tb
          · skip
            have BA : Hid (Below wb.heap.size wb (wb.alloc (.cells #[.int .i64 z] 2))) := (Below.refl _ _).alloc (Nat.le_refl _) _
            have HS9 : Hid (W6.heap.size ≤ wb.heap.size) := Gb.out.size
            go_wp2_with (
              at_builtin
              refine append_many _ rfl _ _ rfl W6.heap.size _ i S0 rfl (Ob.out.alloc _) wb.heap.size 0 1 1 [z] rfl rfl (ints_new1 wb z) (by omega) (by omega) (Nat.le_trans HS9.out (by simp)) ?_
              intro v' w9 hown hg hz9 hnl
              have O9 : Hid (w9.ownsRow W6.heap.size 2 1 v' (i + 1) ((S0 ++ [z]).map (Value.int .i64))) := hown
              have HG9 : Hid (World.grownBy (wb.alloc (.cells #[.int .i64 z] 2)) w9 (some gp)) := hg
              have N9 : Hid (v' ≠ .slice none 0 0) := not_nil hnl ⟨_, _, _, rfl⟩
              clear hown hg hnl hz9)
            have hgp : W6.heap.size ≤ gp := (Ob.out.lt gp rfl).1
            have G9 : Hid (W6.grownBy w9 (some q)) := grown_new (grown_new Gb.out (World.grownBy_alloc wb _ none) (fun r e => by cases e)) HG9.out (fun r e => by cases e; exact hgp)
            have R9 : Hid (RD w9 q a bs c pRb) := (Rb.out.below BA.out).aside HCD.out HG9.out (by have h8 := HW6.out; omega) (by have h8 := HQ6.out; omega)
            go_roundw
            case rel => exact ⟨i + 1, S0 ++ [z], by omega, by rw [List.length_append, HSL.out]; rfl, by first | rfl | go_num, O9.out, N9.out, G9.out, _, R9.out⟩
            case measure => simp [intOf]; omega
          · go_wp2_with fail
            refine (below_any q pRb c 9 a bs wb Rb.out (by omega)).mono ?_
            rintro e wd ⟨y9, pRd, rfl, hy0, hy1, hr, hg⟩
            have Rd : Hid (RD wd q a bs c pRd) := hr
            have Gd : Hid (W6.grownBy wd (some q)) := grown_trans Gb.out hg
            have Od : Hid (wd.ownsRow W6.heap.size 2 1 (.slice (some ⟨gp, 0, none⟩) i cp) i (S0.map (Value.int .i64))) := owns_other Ob.out hg HQ6.out
            clear hr hg
            have hy2 : y9 < 9 := by omega
            obtain ⟨z9, HZ9⟩ : ∃ v, Hid (z + y9 = v) := ⟨_, rfl⟩
            have w3a : wrap64 (z + y9) = z9 := by rw [IntWalk.wrap64_in _ (by omega)]; exact HZ9.out
            have w3b : IntKind.i64.wrap (z + y9) = z9 := by rw [← HZ9.out, IntKind.wrap_i64]; omega
            obtain ⟨z8, HZ8⟩ : ∃ v, Hid (z9 - 4 = v) := ⟨_, rfl⟩
            have w4a : wrap64 (z9 - 4) = z8 := by have h9 := HZ9.out; rw [IntWalk.wrap64_in _ (by omega)]; exact HZ8.out
            have w4b : IntKind.i64.wrap (z9 - 4) = z8 := by have h9 := HZ9.out; rw [← HZ8.out, IntKind.wrap_i64]; omega
            have BA : Hid (Below wd.heap.size wd (wd.alloc (.cells #[.int .i64 z8] 2))) := (Below.refl _ _).alloc (Nat.le_refl _) _
            have HS9 : Hid (W6.heap.size ≤ wd.heap.size) := Gd.out.size
            go_wp2_with (
              at_builtin
              refine append_many _ rfl _ _ rfl W6.heap.size _ i S0 rfl (Od.out.alloc _) wd.heap.size 0 1 1 [z8] rfl rfl (ints_new1 wd z8) (by omega) (by omega) (Nat.le_trans HS9.out (by simp)) ?_
              intro v' w9 hown hg hz9 hnl
              have O9 : Hid (w9.ownsRow W6.heap.size 2 1 v' (i + 1) ((S0 ++ [z8]).map (Value.int .i64))) := hown
              have HG9 : Hid (World.grownBy (wd.alloc (.cells #[.int .i64 z8] 2)) w9 (some gp)) := hg
              have N9 : Hid (v' ≠ .slice none 0 0) := not_nil hnl ⟨_, _, _, rfl⟩
              clear hown hg hnl hz9)
            have hgp : W6.heap.size ≤ gp := (Od.out.lt gp rfl).1
            have G9 : Hid (W6.grownBy w9 (some q)) := grown_new (grown_new Gd.out (World.grownBy_alloc wd _ none) (fun r e => by cases e)) HG9.out (fun r e => by cases e; exact hgp)
            have R9 : Hid (RD w9 q a bs c pRd) := (Rd.out.below BA.out).aside HCD.out HG9.out (by have h8 := HW6.out; omega) (by have h8 := HQ6.out; omega)
            go_roundw
            case rel => exact ⟨i + 1, S0 ++ [z8], by omega, by rw [List.length_append, HSL.out]; rfl, by first | rfl | go_num, O9.out, N9.out, G9.out, _, R9.out⟩
            case measure => simp [intOf]; omega
        · have w1a : wrap64 (lt - z) = lt - z := IntWalk.wrap64_in _ (by omega)
          have w1b : IntKind.i64.wrap (lt - z) = lt - z := by rw [IntKind.wrap_i64]; omega
          have w2a : wrap64 (lt - z + 1) = lt - z + 1 := IntWalk.wrap64_in _ (by omega)
          have w2b : IntKind.i64.wrap (lt - z + 1) = lt - z + 1 := by rw [IntKind.wrap_i64]; omega
          go_wp2_with fail
          refine (below_big q pRa c (lt - z + 1) a bs wa Ra.out (by omega)).mono ?_
          rintro e we ⟨y5, pRe, rfl, hy5, hy6, hr, hg⟩
          have Re : Hid (RD we q a bs c pRe) := hr
          have Ge : Hid (W6.grownBy we (some q)) := grown_trans Ga.out hg
          have Oe : Hid (we.ownsRow W6.heap.size 2 1 (.slice (some ⟨gp, 0, none⟩) i cp) i (S0.map (Value.int .i64))) := owns_other Oa.out hg HQ6.out
          clear hr hg clra w1a w1b w2a w2b
          have hy7 : y5 < lt - z + 1 := by omega
          obtain ⟨z5, HZ5⟩ : ∃ v, Hid (z + y5 = v) := ⟨_, rfl⟩
          have w3a' : wrap64 (z + y5) = z5 := by rw [IntWalk.wrap64_in _ (by omega)]; exact HZ5.out
          have w3b' : IntKind.i64.wrap (z + y5) = z5 := by rw [← HZ5.out, IntKind.wrap_i64]; omega
          have hz5 : 0 ≤ z5 ∧ z5 ≤ 4000000 := by have := HZ5.out; omega
          go_wp2_with fail
          refine (once_any q pRe c 10 a bs we Re.out (by omega) (by omega)).mono ?_
          rintro e wb ⟨tb, pRb, rfl, hr, hg⟩
          have Rb : Hid (RD wb q a bs c pRb) := hr
          have Gb : Hid (W6.grownBy wb (some q)) := grown_trans Ge.out hg
          have Ob : Hid (wb.ownsRow W6.heap.size 2 1 (.slice (some ⟨gp, 0, none⟩) i cp) i (S0.map (Value.int .i64))) := owns_other Oe.out hg HQ6.out
          clear hr hg
          cases tb
          · skip
            have BA : Hid (Below wb.heap.size wb (wb.alloc (.cells #[.int .i64 z5] 2))) := (Below.refl _ _).alloc (Nat.le_refl _) _
            have HS9 : Hid (W6.heap.size ≤ wb.heap.size) := Gb.out.size
            go_wp2_with (
              at_builtin
              refine append_many _ rfl _ _ rfl W6.heap.size _ i S0 rfl (Ob.out.alloc _) wb.heap.size 0 1 1 [z5] rfl rfl (ints_new1 wb z5) (by omega) (by omega) (Nat.le_trans HS9.out (by simp)) ?_
              intro v' w9 hown hg hz9 hnl
              have O9 : Hid (w9.ownsRow W6.heap.size 2 1 v' (i + 1) ((S0 ++ [z5]).map (Value.int .i64))) := hown
              have HG9 : Hid (World.grownBy (wb.alloc (.cells #[.int .i64 z5] 2)) w9 (some gp)) := hg
              have N9 : Hid (v' ≠ .slice none 0 0) := not_nil hnl ⟨_, _, _, rfl⟩
              clear hown hg hnl hz9)
            have hgp : W6.heap.size ≤ gp := (Ob.out.lt gp rfl).1
            have G9 : Hid (W6.grownBy w9 (some q)) := grown_new (grown_new Gb.out (World.grownBy_alloc wb _ none) (fun r e => by cases e)) HG9.out (fun r e => by cases e; exact hgp)
            have R9 : Hid (RD w9 q a bs c pRb) := (Rb.out.below BA.out).aside HCD.out HG9.out (by have h8 := HW6.out; omega) (by have h8 := HQ6.out; omega)
            go_roundw
            case rel => exact ⟨i + 1, S0 ++ [z5], by omega, by rw [List.length_append, HSL.out]; rfl, by first | rfl | go_num, O9.out, N9.out, G9.out, _, R9.out⟩
            case measure => simp [intOf]; omega
          · go_wp2_with fail
            refine (below_any q pRb c 9 a bs wb Rb.out (by omega)).mono ?_
            rintro e wd ⟨y9, pRd, rfl, hy0, hy1, hr, hg⟩
            have Rd : Hid (RD wd q a bs c pRd) := hr
            have Gd : Hid (W6.grownBy wd (some q)) := grown_trans Gb.out hg
            have Od : Hid (wd.ownsRow W6.heap.size 2 1 (.slice (some ⟨gp, 0, none⟩) i cp) i (S0.map (Value.int .i64))) := owns_other Ob.out hg HQ6.out
            clear hr hg
            have hy2 : y9 < 9 := by omega
            obtain ⟨z9, HZ9⟩ : ∃ v, Hid (z5 + y9 = v) := ⟨_, rfl⟩
            have w3a : wrap64 (z5 + y9) = z9 := by rw [IntWalk.wrap64_in _ (by omega)]; exact HZ9.out
            have w3b : IntKind.i64.wrap (z5 + y9) = z9 := by rw [← HZ9.out, IntKind.wrap_i64]; omega
            obtain ⟨z8, HZ8⟩ : ∃ v, Hid (z9 - 4 = v) := ⟨_, rfl⟩
            have w4a : wrap64 (z9 - 4) = z8 := by have h9 := HZ9.out; rw [IntWalk.wrap64_in _ (by omega)]; exact HZ8.out
            have w4b : IntKind.i64.wrap (z9 - 4) = z8 := by have h9 := HZ9.out; rw [← HZ8.out, IntKind.wrap_i64]; omega
            have BA : Hid (Below wd.heap.size wd (wd.alloc (.cells #[.int .i64 z8] 2))) := (Below.refl _ _).alloc (Nat.le_refl _) _
            have HS9 : Hid (W6.heap.size ≤ wd.heap.size) := Gd.out.size
            go_wp2_with (
              at_builtin
              refine append_many _ rfl _ _ rfl W6.heap.size _ i S0 rfl (Od.out.alloc _) wd.heap.size 0 1 1 [z8] rfl rfl (ints_new1 wd z8) (by omega) (by omega) (Nat.le_trans HS9.out (by simp)) ?_
              intro v' w9 hown hg hz9 hnl
              have O9 : Hid (w9.ownsRow W6.heap.size 2 1 v' (i + 1) ((S0 ++ [z8]).map (Value.int .i64))) := hown
              have HG9 : Hid (World.grownBy (wd.alloc (.cells #[.int .i64 z8] 2)) w9 (some gp)) := hg
              have N9 : Hid (v' ≠ .slice none 0 0) := not_nil hnl ⟨_, _, _, rfl⟩
              clear hown hg hnl hz9)
            have hgp : W6.heap.size ≤ gp := (Od.out.lt gp rfl).1
            have G9 : Hid (W6.grownBy w9 (some q)) := grown_new (grown_new Gd.out (World.grownBy_alloc wd _ none) (fun r e => by cases e)) HG9.out (fun r e => by cases e; exact hgp)
            have R9 : Hid (RD w9 q a bs c pRd) := (Rd.out.below BA.out).aside HCD.out HG9.out (by have h8 := HW6.out; omega) (by have h8 := HQ6.out; omega)
            go_roundw
            case rel => exact ⟨i + 1, S0 ++ [z8], by omega, by rw [List.length_append, HSL.out]; rfl, by first | rfl | go_num, O9.out, N9.out, G9.out, _, R9.out⟩
            case measure => simp [intOf]; omega
      · have hgd : decide (z < lt) = false := decide_eq_false hgt
        go_wp2_with fail
        refine (once_any q pRr c 10 a bs wr Rr.out (by omega) (by omega)).mono ?_
        rintro e wb ⟨tb, pRb, rfl, hr, hg⟩
        have Rb : Hid (RD wb q a bs c pRb) := hr
        have Gb : Hid (W6.grownBy wb (some q)) := grown_trans Gr.out hg
        have Ob : Hid (wb.ownsRow W6.heap.size 2 1 (.slice (some ⟨gp, 0, none⟩) i cp) i (S0.map (Value.int .i64))) := owns_other Or.out hg HQ6.out
        clear hr hg
        cases tb
        · skip
          have BA : Hid (Below wb.heap.size wb (wb.alloc (.cells #[.int .i64 z] 2))) := (Below.refl _ _).alloc (Nat.le_refl _) _
          have HS9 : Hid (W6.heap.size ≤ wb.heap.size) := Gb.out.size
          go_wp2_with (
            at_builtin
            refine append_many _ rfl _ _ rfl W6.heap.size _ i S0 rfl (Ob.out.alloc _) wb.heap.size 0 1 1 [z] rfl rfl (ints_new1 wb z) (by omega) (by omega) (Nat.le_trans HS9.out (by simp)) ?_
            intro v' w9 hown hg hz9 hnl
            have O9 : Hid (w9.ownsRow W6.heap.size 2 1 v' (i + 1) ((S0 ++ [z]).map (Value.int .i64))) := hown
            have HG9 : Hid (World.grownBy (wb.alloc (.cells #[.int .i64 z] 2)) w9 (some gp)) := hg
            have N9 : Hid (v' ≠ .slice none 0 0) := not_nil hnl ⟨_, _, _, rfl⟩
            clear hown hg hnl hz9)
          have hgp : W6.heap.size ≤ gp := (Ob.out.lt gp rfl).1
          have G9 : Hid (W6.grownBy w9 (some q)) := grown_new (grown_new Gb.out (World.grownBy_alloc wb _ none) (fun r e => by cases e)) HG9.out (fun r e => by cases e; exact hgp)
          have R9 : Hid (RD w9 q a bs c pRb) := (Rb.out.below BA.out).aside HCD.out HG9.out (by have h8 := HW6.out; omega) (by have h8 := HQ6.out; omega)
          go_roundw
          case rel => exact ⟨i + 1, S0 ++ [z], by omega, by rw [List.length_append, HSL.out]; rfl, by first | rfl | go_num, O9.out, N9.out, G9.out, _, R9.out⟩
          case measure => simp [intOf]; omega
        · go_wp2_with fail
          refine (below_any q pRb c 9 a bs wb Rb.out (by omega)).mono ?_
          rintro e wd ⟨y9, pRd, rfl, hy0, hy1, hr, hg⟩
          have Rd : Hid (RD wd q a bs c pRd) := hr
          have Gd : Hid (W6.grownBy wd (some q)) := grown_trans Gb.out hg
          have Od : Hid (wd.ownsRow W6.heap.size 2 1 (.slice (some ⟨gp, 0, none⟩) i cp) i (S0.map (Value.int .i64))) := owns_other Ob.out hg HQ6.out
          clear hr hg
          have hy2 : y9 < 9 := by omega
          obtain ⟨z9, HZ9⟩ : ∃ v, Hid (z + y9 = v) := ⟨_, rfl⟩
          have w3a : wrap64 (z + y9) = z9 := by rw [IntWalk.wrap64_in _ (by omega)]; exact HZ9.out
          have w3b : IntKind.i64.wrap (z + y9) = z9 := by rw [← HZ9.out, IntKind.wrap_i64]; omega
          obtain ⟨z8, HZ8⟩ : ∃ v, Hid (z9 - 4 = v) := ⟨_, rfl⟩
          have w4a : wrap64 (z9 - 4) = z8 := by have h9 := HZ9.out; rw [IntWalk.wrap64_in _ (by omega)]; exact HZ8.out
          have w4b : IntKind.i64.wrap (z9 - 4) = z8 := by have h9 := HZ9.out; rw [← HZ8.out, IntKind.wrap_i64]; omega
          have BA : Hid (Below wd.heap.size wd (wd.alloc (.cells #[.int .i64 z8] 2))) := (Below.refl _ _).alloc (Nat.le_refl _) _
          have HS9 : Hid (W6.heap.size ≤ wd.heap.size) := Gd.out.size
          go_wp2_with (
            at_builtin
            refine append_many _ rfl _ _ rfl W6.heap.size _ i S0 rfl (Od.out.alloc _) wd.heap.size 0 1 1 [z8] rfl rfl (ints_new1 wd z8) (by omega) (by omega) (Nat.le_trans HS9.out (by simp)) ?_
            intro v' w9 hown hg hz9 hnl
            have O9 : Hid (w9.ownsRow W6.heap.size 2 1 v' (i + 1) ((S0 ++ [z8]).map (Value.int .i64))) := hown
            have HG9 : Hid (World.grownBy (wd.alloc (.cells #[.int .i64 z8] 2)) w9 (some gp)) := hg
            have N9 : Hid (v' ≠ .slice none 0 0) := not_nil hnl ⟨_, _, _, rfl⟩
            clear hown hg hnl hz9)
          have hgp : W6.heap.size ≤ gp := (Od.out.lt gp rfl).1
          have G9 : Hid (W6.grownBy w9 (some q)) := grown_new (grown_new Gd.out (World.grownBy_alloc wd _ none) (fun r e => by cases e)) HG9.out (fun r e => by cases e; exact hgp)
          have R9 : Hid (RD w9 q a bs c pRd) := (Rd.out.below BA.out).aside HCD.out HG9.out (by have h8 := HW6.out; omega) (by have h8 := HQ6.out; omega)
          go_roundw
          case rel => exact ⟨i + 1, S0 ++ [z8], by omega, by rw [List.length_append, HSL.out]; rfl, by first | rfl | go_num, O9.out, N9.out, G9.out, _, R9.out⟩
          case measure => simp [intOf]; omega
    · have him : i = mm := by omega
      subst him
      clear hlt hi
      have XR : Hid (XD w wr q k kx a bs c n fi veh g zl cg go ko co gv kv cv zs O V ao m co2 L #[.int .i64 0, .slice none 0 0, .slice none 0 0, .slice none 0 0, .int .i64 0] #[.int .i64 0, .slice none 0 0]) := X6.out.read Rr.out Gr.out
      have HON : Hid (IntsAt wr (some ⟨gp, 0, none⟩) S0) := owns_ints Or.out
      have HGP : Hid (w.heap.size + 1 < gp ∧ S0.length = i ∧ i ≤ 4) := ⟨by have h9 := (Or.out.lt gp rfl).1; have h8 := X6.out.s.size; omega, HSL.out, by omega⟩
      have X9 : Hid (XD w wr.drew q k kx a bs c n fi veh g zl cg go ko co gv kv cv zs O V ao m co2 L #[.int .i64 0, .slice none 0 0, .slice none 0 0, .slice none 0 0, .int .i64 0] #[.int .i64 0, .slice none 0 0]) := XR.out.below (Below.refl _ _).drew
      have kS := X9.out.keep
      have kC := (XR.out.setC.below (Below.refl _ _).drew).keep
      have kR := (XR.out.setR.below (Below.refl _ _).drew).keep
      have kCR := (XR.out.setC.setR.below (Below.refl _ _).drew).keep
      obtain ⟨q0, q1, q2, q3, q4⟩ := cells5z XR.out.s.b0
      have qf := fun i => frozen_of_row _ _ i _ _ XR.out.s.b0
      obtain ⟨r0, r1⟩ := cells2 XR.out.s.b2
      have rf := fun i => frozen_of_row _ _ i _ _ XR.out.s.b2
      have HON9 : Hid (IntsAt ((((((((wr.setCell ⟨w.heap.size, 0, none⟩ (.int .i64 n)).setCell ⟨w.heap.size, 1, none⟩ (.slice (some ⟨g, 0, none⟩) zl cg)).setCell ⟨w.heap.size, 2, none⟩ (.slice (some ⟨go, 0, none⟩) ko co)).setCell ⟨w.heap.size, 3, none⟩ (.slice (some ⟨gv, 0, none⟩) kv cv)).setCell ⟨w.heap.size, 4, none⟩ (.int .i64 fi))).setCell ⟨w.heap.size + 1, 0, none⟩ (.int .i64 veh)).setCell ⟨w.heap.size + 1, 1, none⟩ (.slice ao m co2)).drew (some ⟨gp, 0, none⟩) S0) := by
        have h9 := HGP.out.1
        exact (ints_row (ints_row HON.out (grown_trans (grown_trans (grown_trans (grown_trans (grown_set _ _ _ _) (grown_set _ _ _ _)) (grown_set _ _ _ _)) (grown_set _ _ _ _)) (grown_set _ _ _ _)) (fun e => by injection e with e; omega)) (grown_trans (grown_set _ _ _ _) (grown_set _ _ _ _)) (fun e => by injection e with e; omega)).below (Below.refl _ _).drew
      go_wp2_with fail
      go_region_held3 (fun W => W.cell? ⟨k, 0, none⟩ = some (.int .i64 n) ∧ W.cell? ⟨k, 1, none⟩ = some (.slice (some ⟨g, 0, none⟩) zl cg) ∧ W.cell? ⟨k, 2, none⟩ = some (.slice (some ⟨go, 0, none⟩) ko co) ∧ W.cell? ⟨k, 3, none⟩ = some (.slice (some ⟨gv, 0, none⟩) kv cv) ∧ W.cell? ⟨k, 4, none⟩ = some (.int .i64 fi) ∧ W.cell? ⟨kx, 0, none⟩ = some (.int .i64 veh) ∧ W.cell? ⟨kx, 1, none⟩ = some (.slice ao m co2)) (first | with_reducible exact kS | with_reducible exact kC | with_reducible exact kR | with_reducible exact kCR | go_keep) ((fail))
      all_goals
        go_wp2
        exact XD.doneK (XR.out.setC.setR.below (Below.refl _ _).drew) HLS.out gp i cp S0 HGP.out.2 HON9.out _ (by rfl) (by rfl) (by rfl) (by rfl)

end Go.Proofs.Ytocnlgmcjdggaaa
