import Derived.Test.YtaofpbmdloihgaaDoorSpecCaseBase
import Derived.Deep.RegionHeld3
namespace Go.Proofs.YtaofpbmdloihgaaDoor
open Go.RowKit

theorem lnsC_snoc (ls : List (List UInt8)) (x : List UInt8) : lnsC (ls ++ [x]) = lineC (lnsC ls) x := by simp [lnsC]
theorem lnsC_bad (ls ms : List (List UInt8)) (h : lnsC ls = none) : lnsC (ls ++ ms) = none := by
  unfold lnsC at *
  rw [List.foldl_append, h]
  exact lineC_none ms
theorem cellsR_at (W : World) (g : Nat) (l : List Int) (T : TypeId) (h : W.heap[g]? = some (.cells (l.map (Value.int .i64)).toArray T (0, 0))) : ∀ (j : Nat) (u : Value), (l.map (Value.int .i64))[j]? = some u → W.cell? ⟨g, 0 + j, none⟩ = some u := fun j u hj => by
  rw [Nat.zero_add, cell_of_row _ _ _ _ _ _ h]
  simpa using hj
theorem own_capC {w : World} {base size n c : Nat} {e : TypeId} {a : Option Addr} {xs : List Value} (h : w.ownsRow base e size (.slice a n c) n xs) : n ≤ c ∧ c ≤ maxLen := by
  obtain ⟨_, ⟨h1, h2⟩ | ⟨g', c', cur, h1, _, _, h2, h3, _⟩⟩ := h
  · simp only [Value.slice.injEq] at h1
    exact ⟨by omega, by unfold maxLen; omega⟩
  · simp only [Value.slice.injEq] at h1
    obtain ⟨-, -, rfl⟩ := h1
    exact ⟨h2, h3⟩
/-- What spec.ReadCase answers. -/
def SReadOkC (w : World) (s : List UInt8) (e : Ending) (w' : World) : Prop :=
  (∃ c zl ol vl, specC s = some c ∧ e = .returned (.tuple #[.agg #[.int .i64 c.n, zl, ol, vl, .int .i64 c.f], .bool true]) ∧ Below w.heap.size w w' ∧ w'.ownsRow (w.heap.size + 1) 2 1 zl c.zs.length (c.zs.map (Value.int .i64)) ∧ w'.ownsRow (w.heap.size + 1) 45 6 ol c.ko (c.os.map (Value.int .i64)) ∧ w'.ownsRow (w.heap.size + 1) 47 5 vl c.kv (c.vs.map (Value.int .i64))) ∨ (specC s = none ∧ e = .returned (.tuple #[.agg #[.int .i64 0, .slice none 0 0, .slice none 0 0, .slice none 0 0, .int .i64 0], .bool false]) ∧ Below w.heap.size w w')

set_option maxHeartbeats 8000000 in
set_option maxRecDepth 20000 in
theorem specReadCase_any (s : List UInt8) (w : World) (hs : s.length ≤ 1048576) :
    Calls Tryd.prog 11 #[.string (txt s)] w (SReadOkC w s) := by
  have HS : Hid ((txt s).size = s.length) := txt_size s
  obtain ⟨a, HA⟩ : ∃ a, Hid (txt s = a) := ⟨_, rfl⟩
  obtain ⟨sn, HSN⟩ : ∃ n, Hid (s.length = n) := ⟨_, rfl⟩
  have CL := l2Lines_any s (w.alloc (.cells #[.int .i64 0, .slice none 0 0, .slice none 0 0, .slice none 0 0, .int .i64 0] 30)) hs
  rw [HA.out] at CL ⊢
  rw [HA.out, HSN.out] at HS
  have hn : a.size = sn := HS.out
  have HSUM : Hid (lnSum (sepF 10 s).1 ≤ sn) := HSN.out ▸ lines_sum s
  have HLEN : Hid ((sepF 10 s).1.length ≤ sn) := by
    have := (sep_len (p := 10) s [] []).1
    show _ ≤ _
    rw [← HSN.out]
    simpa [sepF] using this
  have HSP : Hid (specFC s = if (sepF 10 s).2 = [] ∧ sn ≤ 20000 then lnsC (sepF 10 s).1 else none) := by show _ = _; unfold specFC; rw [HSN.out]
  have HSR : Hid (specC s = match specFC s with | none => none | some c => if s ≠ [] ∧ c.txt0 = s then some c else none) := rfl
  have HWD : Hid (∀ x ∈ (sepF 10 s).1, x.length ≤ sn) := fun x hx => by
    have := sep_word (p := 10) s [] [] s.length (fun x hx => by simp at hx) (by simp) x hx
    rw [HSN.out] at this
    exact this
  rw [HSN.out] at hs
  obtain ⟨q2, HQ2⟩ : ∃ q, Hid ((sepF 10 s).2 = q) := ⟨_, rfl⟩
  obtain ⟨lines, HLN⟩ : ∃ q, Hid ((sepF 10 s).1 = q) := ⟨_, rfl⟩
  rw [HLN.out] at CL HSUM HLEN HSP HWD
  rw [HQ2.out] at CL HSP
  have B0 : Hid (Below w.heap.size w (w.alloc (.cells #[.int .i64 0, .slice none 0 0, .slice none 0 0, .slice none 0 0, .int .i64 0] 30))) := (Below.refl _ _).alloc (Nat.le_refl _) _
  have Z0 : Hid ((w.alloc (.cells #[.int .i64 0, .slice none 0 0, .slice none 0 0, .slice none 0 0, .int .i64 0] 30)).heap[w.heap.size]? = some (.cells #[.int .i64 0, .slice none 0 0, .slice none 0 0, .slice none 0 0, .int .i64 0] 30 (0, 0))) := heap_alloc_new _ _
  have S0 : Hid ((w.alloc (.cells #[.int .i64 0, .slice none 0 0, .slice none 0 0, .slice none 0 0, .int .i64 0] 30)).heap.size = w.heap.size + 1) := by show _ = _; simp
  go_enter Tryd.func11, Tryd.ntmps11
  go_wp2_with fail
  generalize w.alloc (.cells #[.int .i64 0, .slice none 0 0, .slice none 0 0, .slice none 0 0, .int .i64 0] 30) = W0 at *
  refine CL.mono ?_
  rintro e w1 ⟨ll, rfl, hb, ho⟩
  have B1 : Hid (Below w.heap.size w w1) := B0.out.trans (hb.mono B0.out.size)
  have Z1 : Hid (w1.heap[w.heap.size]? = some (.cells #[.int .i64 0, .slice none 0 0, .slice none 0 0, .slice none 0 0, .int .i64 0] 30 (0, 0))) := below_row hb (row_lt Z0.out) Z0.out
  rw [S0.out] at ho
  obtain ⟨la, lc, e, -⟩ := own_sl9 ho
  subst e
  have N1 : Hid (w1.ownsRow (w.heap.size + 1) 9 1 (.slice la lines.length lc) lines.length (strs lines)) := ho
  clear hb ho CL B0 Z0
  obtain ⟨N, HNN⟩ : ∃ n, Hid (lines.length = n) := ⟨_, rfl⟩
  rw [HNN.out] at HLEN ⊢
  have hN := HLEN.out
  obtain ⟨c0, c1, c2, c3, c4⟩ := cells5 Z1.out
  have zf := fun i => frozen_of_row _ _ i _ _ Z1.out
  have hcase : (¬ (q2 = []) ∧ decide (q2 = []) = false) ∨ (q2 = [] ∧ decide (q2 = []) = true ∧ (20000 : Int) < sn) ∨ (q2 = [] ∧ decide (q2 = []) = true ∧ ¬ ((20000 : Int) < sn)) := by
    by_cases h : q2 = []
    · by_cases h2 : (20000 : Int) < sn
      · exact .inr (.inl ⟨h, decide_eq_true h, h2⟩)
      · exact .inr (.inr ⟨h, decide_eq_true h, h2⟩)
    · exact .inl ⟨h, decide_eq_false h⟩
  have HNOT : Hid ((¬ (q2 = []) ∨ (20000 : Int) < sn) → specC s = none) := fun h => by rw [HSR.out, HSP.out, if_neg (fun h2 => by rcases h with h | h; exact h h2.1; omega)]
  rcases hcase with ⟨hq, hqd⟩ | ⟨hq, hqd, hbig⟩ | ⟨hq, hqd, hbig⟩
  · have HR : Hid (specC s = none) := HNOT.out (.inl hq)
    rw [hqd]
    go_wp2
    refine bodyPost_ret (v := .tuple #[.agg #[.int .i64 0, .slice none 0 0, .slice none 0 0, .slice none 0 0, .int .i64 0], .bool false]) (by simp [results, Tryd.results11, go_sem, c0, c1, c2, c3, c4]) rfl ?_
    refine .inr ⟨HR.out, rfl, ?_⟩
    exact Below.setCell (Below.setCell (Below.setCell (Below.setCell (Below.setCell B1.out (by simp) _) (by simp) _) (by simp) _) (by simp) _) (by simp) _
  · have HR : Hid (specC s = none) := HNOT.out (.inr hbig)
    rw [hqd]
    go_wp2
    refine bodyPost_ret (v := .tuple #[.agg #[.int .i64 0, .slice none 0 0, .slice none 0 0, .slice none 0 0, .int .i64 0], .bool false]) (by simp [results, Tryd.results11, go_sem, c0, c1, c2, c3, c4]) rfl ?_
    refine .inr ⟨HR.out, rfl, ?_⟩
    exact Below.setCell (Below.setCell (Below.setCell (Below.setCell (Below.setCell B1.out (by simp) _) (by simp) _) (by simp) _) (by simp) _) (by simp) _
  have HSP2 : Hid (specFC s = lnsC lines) := by show _ = _; rw [HSP.out, if_pos ⟨hq, by omega⟩]
  have hsn : sn ≤ 20000 := by omega
  clear HNOT HSP hq c0 c1 c2 c3 c4 zf
  rw [hqd]
  clear hqd
  have K0 : Hid (SCb w (w1.alloc (.cells #[.int .i64 0, .slice none 0 0, .slice none 0 0, .slice none 0 0, .int .i64 0] 30)) w1.heap.size cv0 (.slice none 0 0) (.slice none 0 0) (.slice none 0 0) (.slice la N lc) lines) := by
    have := SCb.new B1.out Z1.out N1.out
    rw [HNN.out] at this
    exact this
  go_wp2_with fail
  generalize w1.alloc (.cells #[.int .i64 0, .slice none 0 0, .slice none 0 0, .slice none 0 0, .int .i64 0] 30) = V9 at *
  generalize w1.heap.size = bp at *
  clear Z1 B1 N1
  go_loopw [7] (fun ti wr => ∃ (j : Nat) (c : CV) (zl ol vl : Value), j ≤ N ∧ ti = .int .i64 j ∧ lnsC (lines.take j) = some c ∧ c.zs.length ≤ lnSum (lines.take j) ∧ c.ko ≤ j ∧ c.kv ≤ j ∧ c.lens ∧ SCb w wr bp c zl ol vl (.slice la N lc) lines) (fun ti _ => N - (intOf ti).toNat)
  case atStart => exact ⟨0, cv0, _, _, _, Nat.zero_le _, rfl, rfl, Nat.zero_le _, Nat.le_refl _, Nat.le_refl _, ⟨rfl, rfl⟩, K0.out⟩
  case round =>
    clear K0
    obtain ⟨j, ⟨n, f, zs, os, vs, ko, kv⟩, zl, ol, vl, hj, rfl, hlf, hzl, hko, hkv, hln, hk⟩ := hrel
    simp only at hzl hko hkv
    have HLF : Hid (lnsC (lines.take j) = some (⟨n, f, zs, os, vs, ko, kv⟩ : CV)) := hlf
    have HZL : Hid (zs.length ≤ lnSum (lines.take j)) := hzl
    have HLE : Hid (CV.lens (⟨n, f, zs, os, vs, ko, kv⟩ : CV)) := hln
    obtain ⟨za, zc, e1, -⟩ := own_sl9 hk.oz
    obtain ⟨oa, oc, e2, -⟩ := own_sl9 hk.oo
    obtain ⟨va, vc, e3, -⟩ := own_sl9 hk.ov
    simp only at e1 e2 e3
    obtain ⟨m, HM⟩ : ∃ m, Hid (zs.length = m) := ⟨_, rfl⟩
    rw [HM.out] at e1
    subst e1 e2 e3
    have hmb : m ≤ 20000 := by
      have h2 := take_sum lines j
      have h3 := HSUM.out
      rw [HM.out] at hzl
      omega
    have KW : Hid (SCb w wr bp (⟨n, f, zs, os, vs, ko, kv⟩ : CV) (.slice za m zc) (.slice oa ko oc) (.slice va kv vc) (.slice la N lc) lines) := hk
    clear hlf hzl hln hk
    by_cases hlt : j < N
    · have hltI : (j : Int) < (N : Int) := by omega
      have hjl : j < lines.length := by rw [HNN.out]; exact hlt
      rcases own_kinds KW.out.n with ⟨_, h0⟩ | ⟨gl, cl, e, -, -⟩
      · rw [HNN.out] at h0
        omega
      rw [HNN.out] at e
      simp only [Value.slice.injEq, true_and] at e
      obtain ⟨rfl, rfl⟩ := e
      have hcx := (own_cellV (k := j) (by have := KW.out.n; rw [HNN.out] at this; exact this) (strs_at lines j hjl)).1
      have hxm : lines.getD j [] ∈ lines := by rw [List.getD_eq_getElem?_getD, List.getElem?_eq_getElem hjl]; simp
      have hxl := HWD.out _ hxm
      have HT : Hid (lines.take (j + 1) = lines.take j ++ [lines.getD j []]) := getD_snoc_take lines j hjl
      have HBAD : Hid (cutF (lines.getD j []) = none → specC s = none) := fun h => by
        have h1 : lnsC (lines.take (j + 1)) = none := by rw [HT.out, lnsC_snoc, HLF.out]; unfold lineC; simp only; rw [h]
        have h2 := lnsC_bad _ (lines.drop (j + 1)) h1
        rw [List.take_append_drop] at h2
        rw [HSR.out, HSP2.out, h2]
      have HLS : Hid (lnsC (lines.take (j + 1)) = lineC (some (⟨n, f, zs, os, vs, ko, kv⟩ : CV)) (lines.getD j [])) := by show _ = _; rw [HT.out, lnsC_snoc, HLF.out]
      have HS1 : Hid (lnSum (lines.take (j + 1)) = lnSum (lines.take j) + (lines.getD j []).length) := by show _ = _; rw [HT.out, lnSum_snoc]
      have C := l2Cut_any (lines.getD j []) wr (by omega)
      have HCL : Hid (∀ wd l, cutF (lines.getD j []) = some (wd, l) → l.length ≤ (lines.getD j []).length ∧ wd.length ≤ (lines.getD j []).length) := fun wd l h => cutF_len h
      generalize lines.getD j [] = xl at *
      clear hxm hjl
      go_wp2_with fail
      clear hcx
      refine C.mono ?_
      rintro e w2 (⟨wd, l, sl, hc, rfl, hb, ho, hnn⟩ | ⟨hc, rfl, hb⟩)
      · have K2 : Hid (SCb w w2 bp (⟨n, f, zs, os, vs, ko, kv⟩ : CV) (.slice za m zc) (.slice oa ko oc) (.slice va kv vc) (.slice (some ⟨gl, 0, none⟩) N lc) lines) := KW.out.below hb
        obtain ⟨hcl1, hcl2⟩ := HCL.out wd l hc
        rcases own_kinds ho with ⟨e, _⟩ | ⟨lg, cc, e, -, -⟩
        · exact absurd e hnn
        subst e
        clear hnn
        obtain ⟨k, HK⟩ : ∃ k, Hid (l.length = k) := ⟨_, rfl⟩
        rw [HK.out] at ho hcl1 ⊢
        have Q2 : Hid (w2.ownsRow (w.heap.size + 1) 2 1 (.slice (some ⟨lg, 0, none⟩) k cc) k (l.map (Value.int .i64))) := owns_base ho (by have := row_lt KW.out.p; have := KW.out.hp; omega)
        have HL2 : Hid (lnsC (lines.take (j + 1)) = some (stepC (⟨n, f, zs, os, vs, ko, kv⟩ : CV) wd l)) := by show _ = _; rw [HLS.out]; unfold lineC; simp only; rw [hc]
        have HLE2 : Hid (stepC (⟨n, f, zs, os, vs, ko, kv⟩ : CV) wd l).lens := step_lens _ wd l HLE.out
        clear hb ho hc C HBAD HCL HLS KW
        have etl : (txt wd).toList = wd := by rw [ByteArray.toList_eq]; rfl
        by_cases nwCase : wd = wCase
        · have hw := nwCase
          have hwCase : ((txt wd).toList == [99, 97, 115, 101]) = true := by rw [etl, hw]; rfl
          have hwTimes : ((txt wd).toList == [116, 105, 109, 101, 115]) = false := by rw [etl, hw]; rfl
          have hwOrder : ((txt wd).toList == [111, 114, 100, 101, 114]) = false := by rw [etl, hw]; rfl
          have hwVehicle : ((txt wd).toList == [118, 101, 104, 105, 99, 108, 101]) = false := by rw [etl, hw]; rfl
          by_cases hk : k = 2
          · subst hk
            obtain ⟨i0, i1, rfl⟩ : ∃ i0 i1, l = [i0, i1] := by
              have := HK.out
              match l, this with
              | [i0, i1], _ => exact ⟨i0, i1, rfl⟩
            have e9 : stepC (⟨n, f, zs, os, vs, ko, kv⟩ : CV) wd [i0, i1] = (⟨i0, i1, zs, os, vs, ko, kv⟩ : CV) := by simp [stepC, hw]
            have HL3 : Hid (lnsC (lines.take (j + 1)) = some (⟨i0, i1, zs, os, vs, ko, kv⟩ : CV)) := by show _ = _; rw [HL2.out, e9]
            have HLE3 : Hid (CV.lens (⟨i0, i1, zs, os, vs, ko, kv⟩ : CV)) := by have := HLE2.out; rw [e9] at this; exact this
            clear e9 HL2 HLE2
            clear hw etl
            generalize txt wd = twd at *
            have q0 := own_src Q2.out 0 _ rfl
            have q1 := own_src Q2.out 1 _ rfl
            obtain ⟨x0, x1, x2, x3, x4⟩ := K2.out.box
            have pf := fun i => frozen_of_row _ _ i _ _ K2.out.p
            have nlb : lg ≠ bp := fun e => own_othC Q2.out K2.out.p (by decide) (by rw [← e]; rfl)
            have K3 : Hid (SCb w ((w2.setCell ⟨bp, 0, none⟩ (.int .i64 i0)).setCell ⟨bp, 4, none⟩ (.int .i64 i1)) bp (⟨i0, i1, zs, os, vs, ko, kv⟩ : CV) (.slice za m zc) (.slice oa ko oc) (.slice va kv vc) (.slice (some ⟨gl, 0, none⟩) N lc) lines) := K2.out.head i0 i1
            go_wp2_with fail
            clear q0 q1 x0 x1 x2 x3 x4 pf
            generalize ((w2.setCell ⟨bp, 0, none⟩ (.int .i64 i0)).setCell ⟨bp, 4, none⟩ (.int .i64 i1)) = W3 at *
            go_roundw
            case rel => exact ⟨j + 1, _, _, _, _, by omega, by go_num, HL3.out, by have h1 := HZL.out; have h2 := HS1.out; simp only; omega, by simp only; omega, by simp only; omega, HLE3.out, K3.out⟩
            case measure => simp [intOf]; omega
          · have hkI : ((k : Int) == 2) = false := by simp; omega
            have e9 : stepC (⟨n, f, zs, os, vs, ko, kv⟩ : CV) wd l = (⟨n, f, zs, os, vs, ko, kv⟩ : CV) := by simp [stepC, hw, wCase, wTimes, wOrder, wVehicle, HK.out, hk]
            have HL3 : Hid (lnsC (lines.take (j + 1)) = some (⟨n, f, zs, os, vs, ko, kv⟩ : CV)) := by show _ = _; rw [HL2.out, e9]
            have HLE3 : Hid (CV.lens (⟨n, f, zs, os, vs, ko, kv⟩ : CV)) := by have := HLE2.out; rw [e9] at this; exact this
            clear e9 HL2 HLE2
            clear hw etl
            generalize txt wd = twd at *
            go_wp2_with fail
            go_roundw
            case rel => exact ⟨j + 1, _, _, _, _, by omega, by go_num, HL3.out, by have h1 := HZL.out; have h2 := HS1.out; simp only; omega, by simp only; omega, by simp only; omega, HLE3.out, K2.out⟩
            case measure => simp [intOf]; omega
        by_cases nwTimes : wd = wTimes
        · have hw := nwTimes
          have hwCase : ((txt wd).toList == [99, 97, 115, 101]) = false := by rw [etl, hw]; rfl
          have hwTimes : ((txt wd).toList == [116, 105, 109, 101, 115]) = true := by rw [etl, hw]; rfl
          have hwOrder : ((txt wd).toList == [111, 114, 100, 101, 114]) = false := by rw [etl, hw]; rfl
          have hwVehicle : ((txt wd).toList == [118, 101, 104, 105, 99, 108, 101]) = false := by rw [etl, hw]; rfl
          have e9 : stepC (⟨n, f, zs, os, vs, ko, kv⟩ : CV) wd l = (⟨n, f, zs ++ l, os, vs, ko, kv⟩ : CV) := by simp [stepC, hw, wCase, wTimes]
          have HL3 : Hid (lnsC (lines.take (j + 1)) = some (⟨n, f, zs ++ l, os, vs, ko, kv⟩ : CV)) := by show _ = _; rw [HL2.out, e9]
          have HLE3 : Hid (CV.lens (⟨n, f, zs ++ l, os, vs, ko, kv⟩ : CV)) := by have := HLE2.out; rw [e9] at this; exact this
          clear e9 HL2 HLE2
          clear hw etl
          generalize txt wd = twd at *
          obtain ⟨x0, x1, x2, x3, x4⟩ := K2.out.box
          have HBB : Hid (w.heap.size + 1 ≤ w2.heap.size) := by have := row_lt K2.out.p; have := K2.out.hp; show _ ≤ _; omega
          have OZ : Hid (w2.ownsRow (w.heap.size + 1) 2 1 (.slice za m zc) m (zs.map (Value.int .i64))) := by have := K2.out.oz; simp only at this; rw [HM.out] at this; exact this
          go_wp2_with (
            at_builtin
            refine append_vals Tryd.underlying24 Tryd.info2 rfl (by decide) _ rfl _ _ rfl (w.heap.size + 1) (.slice za m zc) m (zs.map (Value.int .i64)) rfl OZ.out lg 0 k cc (l.map (Value.int .i64)) rfl (by rw [List.length_map, HK.out, Nat.mul_one]) (own_src Q2.out) (by intro u hu; obtain ⟨z, _, rfl⟩ := List.mem_map.1 hu; rfl) (by omega) (by omega) HBB.out ?_
            intro v' w4 ho4 hg4 hb4 hz4
            have K4 : Hid (SCb w (w4.setCell ⟨bp, 1, none⟩ v') bp (⟨n, f, zs ++ l, os, vs, ko, kv⟩ : CV) v' (.slice oa ko oc) (.slice va kv vc) (.slice (some ⟨gl, 0, none⟩) N lc) lines) := K2.out.times hg4 (by simp only; rw [List.map_append, List.length_append, HM.out, HK.out]; exact ho4)
            have P4 := grown_row hg4 K2.out.p (fun e => own_othC K2.out.oz K2.out.p (by decide) e.symm)
            obtain ⟨y0, y1, y2, y3, y4⟩ := cells5 P4
            have f4 := fun i => frozen_of_row _ _ i _ _ P4
            obtain ⟨ya, yc, e4, -⟩ := own_sl9 ho4
            subst e4
            clear ho4 hg4 hb4 hz4 P4)
          generalize w4.setCell ⟨bp, 1, none⟩ (.slice ya (m + k) yc) = W4 at *
          go_roundw
          case rel => exact ⟨j + 1, _, _, _, _, by omega, by go_num, HL3.out, by have h1 := HZL.out; have h2 := HS1.out; simp only; rw [List.length_append, HK.out]; omega, by simp only; omega, by simp only; omega, HLE3.out, K4.out⟩
          case measure => simp [intOf]; omega
        by_cases nwOrder : wd = wOrder
        · have hw := nwOrder
          have hwCase : ((txt wd).toList == [99, 97, 115, 101]) = false := by rw [etl, hw]; rfl
          have hwTimes : ((txt wd).toList == [116, 105, 109, 101, 115]) = false := by rw [etl, hw]; rfl
          have hwOrder : ((txt wd).toList == [111, 114, 100, 101, 114]) = true := by rw [etl, hw]; rfl
          have hwVehicle : ((txt wd).toList == [118, 101, 104, 105, 99, 108, 101]) = false := by rw [etl, hw]; rfl
          by_cases hk : k = 6
          · subst hk
            obtain ⟨i0, i1, i2, i3, i4, i5, rfl⟩ : ∃ i0 i1 i2 i3 i4 i5, l = [i0, i1, i2, i3, i4, i5] := by
              have := HK.out
              match l, this with
              | [i0, i1, i2, i3, i4, i5], _ => exact ⟨i0, i1, i2, i3, i4, i5, rfl⟩
            have e9 : stepC (⟨n, f, zs, os, vs, ko, kv⟩ : CV) wd [i0, i1, i2, i3, i4, i5] = (⟨n, f, zs, os ++ [i0, i1, i2, i3, i4, i5], vs, ko + 1, kv⟩ : CV) := by simp [stepC, hw, wCase, wTimes, wOrder]
            have HL3 : Hid (lnsC (lines.take (j + 1)) = some (⟨n, f, zs, os ++ [i0, i1, i2, i3, i4, i5], vs, ko + 1, kv⟩ : CV)) := by show _ = _; rw [HL2.out, e9]
            have HLE3 : Hid (CV.lens (⟨n, f, zs, os ++ [i0, i1, i2, i3, i4, i5], vs, ko + 1, kv⟩ : CV)) := by have := HLE2.out; rw [e9] at this; exact this
            clear e9 HL2 HLE2
            clear hw etl
            generalize txt wd = twd at *
            go_wp2_with fail
            refine wp_region_held_drew (S := (fun W => W.cell? ⟨lg, 0, none⟩ = some (.int .i64 i0) ∧ W.cell? ⟨lg, 1, none⟩ = some (.int .i64 i1) ∧ W.cell? ⟨lg, 2, none⟩ = some (.int .i64 i2) ∧ W.cell? ⟨lg, 3, none⟩ = some (.int .i64 i3) ∧ W.cell? ⟨lg, 4, none⟩ = some (.int .i64 i4) ∧ W.cell? ⟨lg, 5, none⟩ = some (.int .i64 i5))) (by kernel_rfl) ?_ (fun hHeld => ?_)
            · exact ⟨own_src Q2.out 0 _ rfl, own_src Q2.out 1 _ rfl, own_src Q2.out 2 _ rfl, own_src Q2.out 3 _ rfl, own_src Q2.out 4 _ rfl, own_src Q2.out 5 _ rfl⟩
            have K2d : Hid (SCb w w2.drew bp (⟨n, f, zs, os, vs, ko, kv⟩ : CV) (.slice za m zc) (.slice oa ko oc) (.slice va kv vc) (.slice (some ⟨gl, 0, none⟩) N lc) lines) := K2.out.below (Below.refl _ _).drew
            have OLd : Hid (World.ownsRow w2.drew (w.heap.size + 1) 2 1 (.slice (some ⟨lg, 0, none⟩) 6 cc) 6 ([i0, i1, i2, i3, i4, i5].map (Value.int .i64))) := Q2.out.drew
            clear K2 Q2
            generalize w2.drew = V0 at *
            refine wpAnyH_take (i := 0) (v := ?_) rfl (by kernel_rfl) (by kernel_rfl) (by kernel_rfl) (fun _ _ _ h => h) (Or.inl ⟨by kernel_rfl, ?_⟩) hHeld ?_
            rotate_left 1; focus (intro w hSw; (try dsimp only at hSw); (try go_split_ands); go_simp; all_goals (first | done | with_reducible rfl))
            change wpAnyH _ _ _ _ _ _ _ (Act.put _ (some 79) _) _; simp only [Act.put, List.setIfInBounds_toArray, List.set_cons_zero, List.set_cons_succ]
            refine wpAnyH_take (i := 2) (v := ?_) rfl (by kernel_rfl) (by kernel_rfl) (by kernel_rfl) (fun _ _ _ h => h) (Or.inl ⟨by kernel_rfl, ?_⟩) hHeld ?_
            rotate_left 1; focus (intro w hSw; (try dsimp only at hSw); (try go_split_ands); go_simp; all_goals (first | done | with_reducible rfl))
            change wpAnyH _ _ _ _ _ _ _ (Act.put _ (some 81) _) _; simp only [Act.put, List.setIfInBounds_toArray, List.set_cons_zero, List.set_cons_succ]
            refine wpAnyH_take (i := 3) (v := ?_) rfl (by kernel_rfl) (by kernel_rfl) (by kernel_rfl) (fun _ _ _ h => h) (Or.inl ⟨by kernel_rfl, ?_⟩) hHeld ?_
            rotate_left 1; focus (intro w hSw; (try dsimp only at hSw); (try go_split_ands); go_simp; all_goals (first | done | with_reducible rfl))
            change wpAnyH _ _ _ _ _ _ _ (Act.put _ (some 82) _) _; simp only [Act.put, List.setIfInBounds_toArray, List.set_cons_zero, List.set_cons_succ]
            refine wpAnyH_take (i := 4) (v := ?_) rfl (by kernel_rfl) (by kernel_rfl) (by kernel_rfl) (fun _ _ _ h => h) (Or.inl ⟨by kernel_rfl, ?_⟩) hHeld ?_
            rotate_left 1; focus (intro w hSw; (try dsimp only at hSw); (try go_split_ands); go_simp; all_goals (first | done | with_reducible rfl))
            change wpAnyH _ _ _ _ _ _ _ (Act.put _ (some 83) _) _; simp only [Act.put, List.setIfInBounds_toArray, List.set_cons_zero, List.set_cons_succ]
            refine wpAnyH_take (i := 5) (v := ?_) rfl (by kernel_rfl) (by kernel_rfl) (by kernel_rfl) (fun _ _ _ h => h) (Or.inl ⟨by kernel_rfl, ?_⟩) hHeld ?_
            rotate_left 1; focus (intro w hSw; (try dsimp only at hSw); (try go_split_ands); go_simp; all_goals (first | done | with_reducible rfl))
            change wpAnyH _ _ _ _ _ _ _ (Act.put _ (some 84) _) _; simp only [Act.put, List.setIfInBounds_toArray, List.set_cons_zero, List.set_cons_succ]
            refine wpAnyH_take (i := 6) (v := ?_) rfl (by kernel_rfl) (by kernel_rfl) (by kernel_rfl) (fun _ _ _ h => h) (Or.inl ⟨by kernel_rfl, ?_⟩) hHeld ?_
            rotate_left 1; focus (intro w hSw; (try dsimp only at hSw); (try go_split_ands); go_simp; all_goals (first | done | with_reducible rfl))
            change wpAnyH _ _ _ _ _ _ _ (Act.put _ (some 85) _) _; simp only [Act.put, List.setIfInBounds_toArray, List.set_cons_zero, List.set_cons_succ]
            refine wpAnyH_take (i := 7) (v := ?_) rfl (by kernel_rfl) (by kernel_rfl) (by kernel_rfl) (fun _ _ _ h => h) (Or.inl ⟨by kernel_rfl, ?_⟩) hHeld ?_
            rotate_left 1; focus (intro w hSw; (try dsimp only at hSw); (try go_split_ands); go_simp; all_goals (first | done | with_reducible rfl))
            change wpAnyH _ _ _ _ _ _ _ (Act.put _ (some 86) _) _; simp only [Act.put, List.setIfInBounds_toArray, List.set_cons_zero, List.set_cons_succ]
            refine wpAnyH_take (i := 8) (v := ?_) rfl (by kernel_rfl) (by kernel_rfl) (by kernel_rfl) (fun _ _ _ h => h) (Or.inl ⟨by kernel_rfl, ?_⟩) hHeld ?_
            rotate_left 1; focus (intro w hSw; (try dsimp only at hSw); (try go_split_ands); go_simp; all_goals (first | done | with_reducible rfl))
            change wpAnyH _ _ _ _ _ _ _ (Act.put _ (some 87) _) _; simp only [Act.put, List.setIfInBounds_toArray, List.set_cons_zero, List.set_cons_succ]
            refine wpAnyH_take (i := 9) (v := ?_) rfl (by kernel_rfl) (by kernel_rfl) (by kernel_rfl) (fun _ _ _ h => h) (Or.inl ⟨by kernel_rfl, ?_⟩) hHeld ?_
            rotate_left 1; focus (intro w hSw; (try dsimp only at hSw); (try go_split_ands); go_simp; all_goals (first | done | with_reducible rfl))
            change wpAnyH _ _ _ _ _ _ _ (Act.put _ (some 88) _) _; simp only [Act.put, List.setIfInBounds_toArray, List.set_cons_zero, List.set_cons_succ]
            refine wpAnyH_take (i := 10) (v := ?_) rfl (by kernel_rfl) (by kernel_rfl) (by kernel_rfl) (fun _ _ _ h => h) (Or.inl ⟨by kernel_rfl, ?_⟩) hHeld ?_
            rotate_left 1; focus (intro w hSw; (try dsimp only at hSw); (try go_split_ands); go_simp; all_goals (first | done | with_reducible rfl))
            change wpAnyH _ _ _ _ _ _ _ (Act.put _ (some 89) _) _; simp only [Act.put, List.setIfInBounds_toArray, List.set_cons_zero, List.set_cons_succ]
            refine wpAnyH_take (i := 11) (v := ?_) rfl (by kernel_rfl) (by kernel_rfl) (by kernel_rfl) (fun _ _ _ h => h) (Or.inl ⟨by kernel_rfl, ?_⟩) hHeld ?_
            rotate_left 1; focus (intro w hSw; (try dsimp only at hSw); (try go_split_ands); go_simp; all_goals (first | done | with_reducible rfl))
            change wpAnyH _ _ _ _ _ _ _ (Act.put _ (some 90) _) _; simp only [Act.put, List.setIfInBounds_toArray, List.set_cons_zero, List.set_cons_succ]
            refine wpAnyH_take (i := 12) (v := ?_) rfl (by kernel_rfl) (by kernel_rfl) (by kernel_rfl) (fun _ _ _ h => h) (Or.inl ⟨by kernel_rfl, ?_⟩) hHeld ?_
            rotate_left 1; focus (intro w hSw; (try dsimp only at hSw); (try go_split_ands); go_simp; all_goals (first | done | with_reducible rfl))
            change wpAnyH _ _ _ _ _ _ _ (Act.put _ (some 91) _) _; simp only [Act.put, List.setIfInBounds_toArray, List.set_cons_zero, List.set_cons_succ]
            refine wpAnyH_take (i := 13) (v := ?_) rfl (by kernel_rfl) (by kernel_rfl) (by kernel_rfl) (fun _ _ _ h => h) (Or.inl ⟨by kernel_rfl, ?_⟩) hHeld ?_
            rotate_left 1; focus (intro w hSw; (try dsimp only at hSw); (try go_split_ands); go_simp; all_goals (first | done | with_reducible rfl))
            change wpAnyH _ _ _ _ _ _ _ (Act.put _ (some 92) _) _; simp only [Act.put, List.setIfInBounds_toArray, List.set_cons_zero, List.set_cons_succ]
            refine wpAnyH_take (i := 14) (v := ?_) rfl (by kernel_rfl) (by kernel_rfl) (by kernel_rfl) (fun _ _ _ h => h) (Or.inl ⟨by kernel_rfl, ?_⟩) hHeld ?_
            rotate_left 1; focus (intro w hSw; (try dsimp only at hSw); (try go_split_ands); go_simp; all_goals (first | done | with_reducible rfl))
            change wpAnyH _ _ _ _ _ _ _ (Act.put _ (some 93) _) _; simp only [Act.put, List.setIfInBounds_toArray, List.set_cons_zero, List.set_cons_succ]
            refine wpAnyH_take (i := 15) (v := ?_) rfl (by kernel_rfl) (by kernel_rfl) (by kernel_rfl) (fun _ _ _ h => h) (Or.inl ⟨by kernel_rfl, ?_⟩) hHeld ?_
            rotate_left 1; focus (intro w hSw; (try dsimp only at hSw); (try go_split_ands); go_simp; all_goals (first | done | with_reducible rfl))
            change wpAnyH _ _ _ _ _ _ _ (Act.put _ (some 94) _) _; simp only [Act.put, List.setIfInBounds_toArray, List.set_cons_zero, List.set_cons_succ]
            refine wpAnyH_take (i := 16) (v := ?_) rfl (by kernel_rfl) (by kernel_rfl) (by kernel_rfl) (fun _ _ _ h => h) (Or.inl ⟨by kernel_rfl, ?_⟩) hHeld ?_
            rotate_left 1; focus (intro w hSw; (try dsimp only at hSw); (try go_split_ands); go_simp; all_goals (first | done | with_reducible rfl))
            change wpAnyH _ _ _ _ _ _ _ (Act.put _ (some 95) _) _; simp only [Act.put, List.setIfInBounds_toArray, List.set_cons_zero, List.set_cons_succ]
            refine wpAnyH_take (i := 17) (v := ?_) rfl (by kernel_rfl) (by kernel_rfl) (by kernel_rfl) (fun _ _ _ h => h) (Or.inl ⟨by kernel_rfl, ?_⟩) hHeld ?_
            rotate_left 1; focus (intro w hSw; (try dsimp only at hSw); (try go_split_ands); go_simp; all_goals (first | done | with_reducible rfl))
            change wpAnyH _ _ _ _ _ _ _ (Act.put _ (some 96) _) _; simp only [Act.put, List.setIfInBounds_toArray, List.set_cons_zero, List.set_cons_succ]
            refine wpAnyH_take (i := 18) (v := ?_) rfl (by kernel_rfl) (by kernel_rfl) (by kernel_rfl) (fun _ _ _ h => h) (Or.inl ⟨by kernel_rfl, ?_⟩) hHeld ?_
            rotate_left 1; focus (intro w hSw; (try dsimp only at hSw); (try go_split_ands); go_simp; all_goals (first | done | with_reducible rfl))
            change wpAnyH _ _ _ _ _ _ _ (Act.put _ (some 97) _) _; simp only [Act.put, List.setIfInBounds_toArray, List.set_cons_zero, List.set_cons_succ]
            refine wpAnyH_take (i := 19) (v := ?_) rfl (by kernel_rfl) (by kernel_rfl) (by kernel_rfl) (fun _ _ _ h => h) (Or.inl ⟨by kernel_rfl, ?_⟩) hHeld ?_
            rotate_left 1; focus (intro w hSw; (try dsimp only at hSw); (try go_split_ands); go_simp; all_goals (first | done | with_reducible rfl))
            change wpAnyH _ _ _ _ _ _ _ (Act.put _ (some 98) _) _; simp only [Act.put, List.setIfInBounds_toArray, List.set_cons_zero, List.set_cons_succ]
            refine wpAnyH_take (i := 20) (v := ?_) rfl (by kernel_rfl) (by kernel_rfl) (by kernel_rfl) (fun _ _ _ h => h) (Or.inl ⟨by kernel_rfl, ?_⟩) hHeld ?_
            rotate_left 1; focus (intro w hSw; (try dsimp only at hSw); (try go_split_ands); go_simp; all_goals (first | done | with_reducible rfl))
            change wpAnyH _ _ _ _ _ _ _ (Act.put _ (some 99) _) _; simp only [Act.put, List.setIfInBounds_toArray, List.set_cons_zero, List.set_cons_succ]
            refine wpAnyH_ready (rs := [1, 21]) (by kernel_rfl) (by simp) ?_
            refine AllReadyH.cons rfl (fun K hK => ?_) ?_
            · skip
              obtain ⟨z0, z1, z2, z3, z4⟩ := K2d.out.box
              go_simp
              refine hK.out _ _ ?_ (fun hHeld => ?_)
              · exact ⟨own_src OLd.out 0 _ rfl, own_src OLd.out 1 _ rfl, own_src OLd.out 2 _ rfl, own_src OLd.out 3 _ rfl, own_src OLd.out 4 _ rfl, own_src OLd.out 5 _ rfl⟩
              clear hK K
              clear z0 z1 z2 z3 z4
              (try simp only [Act.put, List.setIfInBounds_toArray, List.set_cons_zero, List.set_cons_succ])
              refine wpAnyH_ready (rs := [21]) (by kernel_rfl) (by simp) ?_
              refine AllReadyH.cons rfl (fun K hK => ?_) AllReadyH.nil
              have K5 : Hid (SCb w (V0.alloc (.cells #[.int .i64 i0, .int .i64 i1, .int .i64 i2, .int .i64 i3, .int .i64 i4, .int .i64 i5] 45)) bp (⟨n, f, zs, os, vs, ko, kv⟩ : CV) (.slice za m zc) (.slice oa ko oc) (.slice va kv vc) (.slice (some ⟨gl, 0, none⟩) N lc) lines) := K2d.out.below ((Below.refl _ _).alloc (Nat.le_refl _) _)
              have OL5 : Hid (World.ownsRow (V0.alloc (.cells #[.int .i64 i0, .int .i64 i1, .int .i64 i2, .int .i64 i3, .int .i64 i4, .int .i64 i5] 45)) (w.heap.size + 1) 2 1 (.slice (some ⟨lg, 0, none⟩) 6 cc) 6 ([i0, i1, i2, i3, i4, i5].map (Value.int .i64))) := OLd.out.alloc _
              have V5 : Hid ((V0.alloc (.cells #[.int .i64 i0, .int .i64 i1, .int .i64 i2, .int .i64 i3, .int .i64 i4, .int .i64 i5] 45)).heap[V0.heap.size]? = some (.cells ([i0, i1, i2, i3, i4, i5].map (Value.int .i64)).toArray 45 (0, 0))) := heap_alloc_new _ _
              go_simp
              refine hK.out _ _ ?_ (fun hHeld => ?_)
              · exact ⟨own_src OL5.out 0 _ rfl, own_src OL5.out 1 _ rfl, own_src OL5.out 2 _ rfl, own_src OL5.out 3 _ rfl, own_src OL5.out 4 _ rfl, own_src OL5.out 5 _ rfl⟩
              clear hK K
              generalize (V0.alloc (.cells #[.int .i64 i0, .int .i64 i1, .int .i64 i2, .int .i64 i3, .int .i64 i4, .int .i64 i5] 45)) = w5 at *
              generalize V0.heap.size = b5 at *
              (try simp only [Act.put, List.setIfInBounds_toArray, List.set_cons_zero, List.set_cons_succ])
              refine wpAnyH_ready (rs := [22]) (by kernel_rfl) (by simp) ?_
              refine AllReadyH.cons rfl (fun K hK => ?_) AllReadyH.nil
              refine step_append_vals Tryd.underlying27 infoO6 (by rfl) (by omega) rfl (.tmp 80) (.tmp 100) rfl (w.heap.size + 1) (.slice oa ko oc) ko (os.map (Value.int .i64)) rfl K5.out.oo b5 0 1 1 ([i0, i1, i2, i3, i4, i5].map (Value.int .i64)) rfl rfl (cellsR_at _ _ _ _ V5.out) (by intro u hu; obtain ⟨x, -, rfl⟩ := List.mem_map.1 hu; rfl) (by omega) (by omega) (Nat.le_trans K5.out.hp (Nat.le_of_lt (row_lt K5.out.p))) ?_
              intro v' w6 ho hg hbk hz
              rcases own_kinds ho with ⟨_, e0⟩ | ⟨g6, c6, e6, -, -⟩
              · omega
              subst e6
              have K6 : Hid (SCb w (w6.setCell ⟨bp, 2, none⟩ (.slice (some ⟨g6, 0, none⟩) (ko + 1) c6)) bp (⟨n, f, zs, os ++ [i0, i1, i2, i3, i4, i5], vs, ko + 1, kv⟩ : CV) (.slice za m zc) (.slice (some ⟨g6, 0, none⟩) (ko + 1) c6) (.slice va kv vc) (.slice (some ⟨gl, 0, none⟩) N lc) lines) := K5.out.order hg (by rw [List.map_append]; exact ho)
              have P6 := grown_row hg K5.out.p (fun e => own_othC K5.out.oo K5.out.p (by decide) e.symm)
              have OL6 : Hid (World.ownsRow w6 (w.heap.size + 1) 2 1 (.slice (some ⟨lg, 0, none⟩) 6 cc) 6 ([i0, i1, i2, i3, i4, i5].map (Value.int .i64))) := own_rowC OL5.out hg (own_twoC K5.out.oo OL5.out (by decide))
              have OL7 : Hid (World.ownsRow (w6.setCell ⟨bp, 2, none⟩ (.slice (some ⟨g6, 0, none⟩) (ko + 1) c6)) (w.heap.size + 1) 2 1 (.slice (some ⟨lg, 0, none⟩) 6 cc) 6 ([i0, i1, i2, i3, i4, i5].map (Value.int .i64))) := SCb.stay P6 OL6.out (by decide)
              have f6 := fun i => frozen_of_row _ _ i _ _ P6
              obtain ⟨x0, x1, x2, x3, x4⟩ := cells5 P6
              clear ho hg hbk hz
              refine hK.out _ _ ?_ (fun hHeld => ?_)
              · exact ⟨own_src OL6.out 0 _ rfl, own_src OL6.out 1 _ rfl, own_src OL6.out 2 _ rfl, own_src OL6.out 3 _ rfl, own_src OL6.out 4 _ rfl, own_src OL6.out 5 _ rfl⟩
              clear hK K
              change wpAnyH _ _ _ _ _ _ _ (Act.put _ (some 101) _) _
              (try simp only [Act.put, List.setIfInBounds_toArray, List.set_cons_zero, List.set_cons_succ])
              refine wpAnyH_take (i := 23) (v := ?_) rfl (by kernel_rfl) (by kernel_rfl) (by kernel_rfl) (fun _ _ _ h => h) (Or.inl ⟨by kernel_rfl, ?_⟩) hHeld ?_
              rotate_left 1; focus (intro w hSw; (try dsimp only at hSw); (try go_split_ands); go_simp; all_goals (first | done | with_reducible rfl))
              change wpAnyH _ _ _ _ _ _ _ (Act.put _ (some 102) _) _; simp only [Act.put, List.setIfInBounds_toArray, List.set_cons_zero, List.set_cons_succ]
              refine wpAnyH_ready (rs := [24]) (by kernel_rfl) (by simp) ?_
              refine AllReadyH.cons rfl (fun K hK => ?_) AllReadyH.nil
              go_simp
              refine hK.out _ _ ?_ (fun hHeld => ?_)
              · exact ⟨own_src OL7.out 0 _ rfl, own_src OL7.out 1 _ rfl, own_src OL7.out 2 _ rfl, own_src OL7.out 3 _ rfl, own_src OL7.out 4 _ rfl, own_src OL7.out 5 _ rfl⟩
              clear hK K
              (try simp only [Act.put, List.setIfInBounds_toArray, List.set_cons_zero, List.set_cons_succ])
              refine wpAnyH_done (by kernel_rfl) ?_ _
              clear x0 x1 x2 x3 x4 f6 P6 OL6 OL7
              generalize w6.setCell ⟨bp, 2, none⟩ (.slice (some ⟨g6, 0, none⟩) (ko + 1) c6) = W6 at *
              go_wp2_with fail
              go_roundw
              case rel => exact ⟨j + 1, _, _, _, _, by omega, by go_num, HL3.out, by have h1 := HZL.out; have h2 := HS1.out; simp only; omega, by simp only; omega, by simp only; omega, HLE3.out, K6.out⟩
              case measure => simp [intOf]; omega
            refine AllReadyH.cons rfl (fun K hK => ?_) AllReadyH.nil
            have K5 : Hid (SCb w (V0.alloc (.cells #[.int .i64 i0, .int .i64 i1, .int .i64 i2, .int .i64 i3, .int .i64 i4, .int .i64 i5] 45)) bp (⟨n, f, zs, os, vs, ko, kv⟩ : CV) (.slice za m zc) (.slice oa ko oc) (.slice va kv vc) (.slice (some ⟨gl, 0, none⟩) N lc) lines) := K2d.out.below ((Below.refl _ _).alloc (Nat.le_refl _) _)
            have OL5 : Hid (World.ownsRow (V0.alloc (.cells #[.int .i64 i0, .int .i64 i1, .int .i64 i2, .int .i64 i3, .int .i64 i4, .int .i64 i5] 45)) (w.heap.size + 1) 2 1 (.slice (some ⟨lg, 0, none⟩) 6 cc) 6 ([i0, i1, i2, i3, i4, i5].map (Value.int .i64))) := OLd.out.alloc _
            have V5 : Hid ((V0.alloc (.cells #[.int .i64 i0, .int .i64 i1, .int .i64 i2, .int .i64 i3, .int .i64 i4, .int .i64 i5] 45)).heap[V0.heap.size]? = some (.cells ([i0, i1, i2, i3, i4, i5].map (Value.int .i64)).toArray 45 (0, 0))) := heap_alloc_new _ _
            go_simp
            refine hK.out _ _ ?_ (fun hHeld => ?_)
            · exact ⟨own_src OL5.out 0 _ rfl, own_src OL5.out 1 _ rfl, own_src OL5.out 2 _ rfl, own_src OL5.out 3 _ rfl, own_src OL5.out 4 _ rfl, own_src OL5.out 5 _ rfl⟩
            clear hK K
            generalize (V0.alloc (.cells #[.int .i64 i0, .int .i64 i1, .int .i64 i2, .int .i64 i3, .int .i64 i4, .int .i64 i5] 45)) = w5 at *
            generalize V0.heap.size = b5 at *
            (try simp only [Act.put, List.setIfInBounds_toArray, List.set_cons_zero, List.set_cons_succ])
            refine wpAnyH_ready (rs := [1]) (by kernel_rfl) (by simp) ?_
            refine AllReadyH.cons rfl (fun K hK => ?_) AllReadyH.nil
            obtain ⟨z0, z1, z2, z3, z4⟩ := K5.out.box
            go_simp
            refine hK.out _ _ ?_ (fun hHeld => ?_)
            · exact ⟨own_src OL5.out 0 _ rfl, own_src OL5.out 1 _ rfl, own_src OL5.out 2 _ rfl, own_src OL5.out 3 _ rfl, own_src OL5.out 4 _ rfl, own_src OL5.out 5 _ rfl⟩
            clear hK K
            clear z0 z1 z2 z3 z4
            (try simp only [Act.put, List.setIfInBounds_toArray, List.set_cons_zero, List.set_cons_succ])
            refine wpAnyH_ready (rs := [22]) (by kernel_rfl) (by simp) ?_
            refine AllReadyH.cons rfl (fun K hK => ?_) AllReadyH.nil
            refine step_append_vals Tryd.underlying27 infoO6 (by rfl) (by omega) rfl (.tmp 80) (.tmp 100) rfl (w.heap.size + 1) (.slice oa ko oc) ko (os.map (Value.int .i64)) rfl K5.out.oo b5 0 1 1 ([i0, i1, i2, i3, i4, i5].map (Value.int .i64)) rfl rfl (cellsR_at _ _ _ _ V5.out) (by intro u hu; obtain ⟨x, -, rfl⟩ := List.mem_map.1 hu; rfl) (by omega) (by omega) (Nat.le_trans K5.out.hp (Nat.le_of_lt (row_lt K5.out.p))) ?_
            intro v' w6 ho hg hbk hz
            rcases own_kinds ho with ⟨_, e0⟩ | ⟨g6, c6, e6, -, -⟩
            · omega
            subst e6
            have K6 : Hid (SCb w (w6.setCell ⟨bp, 2, none⟩ (.slice (some ⟨g6, 0, none⟩) (ko + 1) c6)) bp (⟨n, f, zs, os ++ [i0, i1, i2, i3, i4, i5], vs, ko + 1, kv⟩ : CV) (.slice za m zc) (.slice (some ⟨g6, 0, none⟩) (ko + 1) c6) (.slice va kv vc) (.slice (some ⟨gl, 0, none⟩) N lc) lines) := K5.out.order hg (by rw [List.map_append]; exact ho)
            have P6 := grown_row hg K5.out.p (fun e => own_othC K5.out.oo K5.out.p (by decide) e.symm)
            have OL6 : Hid (World.ownsRow w6 (w.heap.size + 1) 2 1 (.slice (some ⟨lg, 0, none⟩) 6 cc) 6 ([i0, i1, i2, i3, i4, i5].map (Value.int .i64))) := own_rowC OL5.out hg (own_twoC K5.out.oo OL5.out (by decide))
            have OL7 : Hid (World.ownsRow (w6.setCell ⟨bp, 2, none⟩ (.slice (some ⟨g6, 0, none⟩) (ko + 1) c6)) (w.heap.size + 1) 2 1 (.slice (some ⟨lg, 0, none⟩) 6 cc) 6 ([i0, i1, i2, i3, i4, i5].map (Value.int .i64))) := SCb.stay P6 OL6.out (by decide)
            have f6 := fun i => frozen_of_row _ _ i _ _ P6
            obtain ⟨x0, x1, x2, x3, x4⟩ := cells5 P6
            clear ho hg hbk hz
            refine hK.out _ _ ?_ (fun hHeld => ?_)
            · exact ⟨own_src OL6.out 0 _ rfl, own_src OL6.out 1 _ rfl, own_src OL6.out 2 _ rfl, own_src OL6.out 3 _ rfl, own_src OL6.out 4 _ rfl, own_src OL6.out 5 _ rfl⟩
            clear hK K
            change wpAnyH _ _ _ _ _ _ _ (Act.put _ (some 101) _) _
            (try simp only [Act.put, List.setIfInBounds_toArray, List.set_cons_zero, List.set_cons_succ])
            refine wpAnyH_take (i := 23) (v := ?_) rfl (by kernel_rfl) (by kernel_rfl) (by kernel_rfl) (fun _ _ _ h => h) (Or.inl ⟨by kernel_rfl, ?_⟩) hHeld ?_
            rotate_left 1; focus (intro w hSw; (try dsimp only at hSw); (try go_split_ands); go_simp; all_goals (first | done | with_reducible rfl))
            change wpAnyH _ _ _ _ _ _ _ (Act.put _ (some 102) _) _; simp only [Act.put, List.setIfInBounds_toArray, List.set_cons_zero, List.set_cons_succ]
            refine wpAnyH_ready (rs := [24]) (by kernel_rfl) (by simp) ?_
            refine AllReadyH.cons rfl (fun K hK => ?_) AllReadyH.nil
            go_simp
            refine hK.out _ _ ?_ (fun hHeld => ?_)
            · exact ⟨own_src OL7.out 0 _ rfl, own_src OL7.out 1 _ rfl, own_src OL7.out 2 _ rfl, own_src OL7.out 3 _ rfl, own_src OL7.out 4 _ rfl, own_src OL7.out 5 _ rfl⟩
            clear hK K
            (try simp only [Act.put, List.setIfInBounds_toArray, List.set_cons_zero, List.set_cons_succ])
            refine wpAnyH_done (by kernel_rfl) ?_ _
            clear x0 x1 x2 x3 x4 f6 P6 OL6 OL7
            generalize w6.setCell ⟨bp, 2, none⟩ (.slice (some ⟨g6, 0, none⟩) (ko + 1) c6) = W6 at *
            go_wp2_with fail
            go_roundw
            case rel => exact ⟨j + 1, _, _, _, _, by omega, by go_num, HL3.out, by have h1 := HZL.out; have h2 := HS1.out; simp only; omega, by simp only; omega, by simp only; omega, HLE3.out, K6.out⟩
            case measure => simp [intOf]; omega
          · have hkI : ((k : Int) == 6) = false := by simp; omega
            have e9 : stepC (⟨n, f, zs, os, vs, ko, kv⟩ : CV) wd l = (⟨n, f, zs, os, vs, ko, kv⟩ : CV) := by simp [stepC, hw, wCase, wTimes, wOrder, wVehicle, HK.out, hk]
            have HL3 : Hid (lnsC (lines.take (j + 1)) = some (⟨n, f, zs, os, vs, ko, kv⟩ : CV)) := by show _ = _; rw [HL2.out, e9]
            have HLE3 : Hid (CV.lens (⟨n, f, zs, os, vs, ko, kv⟩ : CV)) := by have := HLE2.out; rw [e9] at this; exact this
            clear e9 HL2 HLE2
            clear hw etl
            generalize txt wd = twd at *
            go_wp2_with fail
            go_roundw
            case rel => exact ⟨j + 1, _, _, _, _, by omega, by go_num, HL3.out, by have h1 := HZL.out; have h2 := HS1.out; simp only; omega, by simp only; omega, by simp only; omega, HLE3.out, K2.out⟩
            case measure => simp [intOf]; omega
        by_cases nwVehicle : wd = wVehicle
        · have hw := nwVehicle
          have hwCase : ((txt wd).toList == [99, 97, 115, 101]) = false := by rw [etl, hw]; rfl
          have hwTimes : ((txt wd).toList == [116, 105, 109, 101, 115]) = false := by rw [etl, hw]; rfl
          have hwOrder : ((txt wd).toList == [111, 114, 100, 101, 114]) = false := by rw [etl, hw]; rfl
          have hwVehicle : ((txt wd).toList == [118, 101, 104, 105, 99, 108, 101]) = true := by rw [etl, hw]; rfl
          by_cases hk : k = 5
          · subst hk
            obtain ⟨i0, i1, i2, i3, i4, rfl⟩ : ∃ i0 i1 i2 i3 i4, l = [i0, i1, i2, i3, i4] := by
              have := HK.out
              match l, this with
              | [i0, i1, i2, i3, i4], _ => exact ⟨i0, i1, i2, i3, i4, rfl⟩
            have e9 : stepC (⟨n, f, zs, os, vs, ko, kv⟩ : CV) wd [i0, i1, i2, i3, i4] = (⟨n, f, zs, os, vs ++ [i0, i1, i2, i3, i4], ko, kv + 1⟩ : CV) := by simp [stepC, hw, wCase, wTimes, wOrder, wVehicle]
            have HL3 : Hid (lnsC (lines.take (j + 1)) = some (⟨n, f, zs, os, vs ++ [i0, i1, i2, i3, i4], ko, kv + 1⟩ : CV)) := by show _ = _; rw [HL2.out, e9]
            have HLE3 : Hid (CV.lens (⟨n, f, zs, os, vs ++ [i0, i1, i2, i3, i4], ko, kv + 1⟩ : CV)) := by have := HLE2.out; rw [e9] at this; exact this
            clear e9 HL2 HLE2
            clear hw etl
            generalize txt wd = twd at *
            go_wp2_with fail
            refine wp_region_held_drew (S := (fun W => W.cell? ⟨lg, 0, none⟩ = some (.int .i64 i0) ∧ W.cell? ⟨lg, 1, none⟩ = some (.int .i64 i1) ∧ W.cell? ⟨lg, 2, none⟩ = some (.int .i64 i2) ∧ W.cell? ⟨lg, 3, none⟩ = some (.int .i64 i3) ∧ W.cell? ⟨lg, 4, none⟩ = some (.int .i64 i4))) (by kernel_rfl) ?_ (fun hHeld => ?_)
            · exact ⟨own_src Q2.out 0 _ rfl, own_src Q2.out 1 _ rfl, own_src Q2.out 2 _ rfl, own_src Q2.out 3 _ rfl, own_src Q2.out 4 _ rfl⟩
            have K2d : Hid (SCb w w2.drew bp (⟨n, f, zs, os, vs, ko, kv⟩ : CV) (.slice za m zc) (.slice oa ko oc) (.slice va kv vc) (.slice (some ⟨gl, 0, none⟩) N lc) lines) := K2.out.below (Below.refl _ _).drew
            have OLd : Hid (World.ownsRow w2.drew (w.heap.size + 1) 2 1 (.slice (some ⟨lg, 0, none⟩) 5 cc) 5 ([i0, i1, i2, i3, i4].map (Value.int .i64))) := Q2.out.drew
            clear K2 Q2
            generalize w2.drew = V0 at *
            refine wpAnyH_take (i := 0) (v := ?_) rfl (by kernel_rfl) (by kernel_rfl) (by kernel_rfl) (fun _ _ _ h => h) (Or.inl ⟨by kernel_rfl, ?_⟩) hHeld ?_
            rotate_left 1; focus (intro w hSw; (try dsimp only at hSw); (try go_split_ands); go_simp; all_goals (first | done | with_reducible rfl))
            change wpAnyH _ _ _ _ _ _ _ (Act.put _ (some 111) _) _; simp only [Act.put, List.setIfInBounds_toArray, List.set_cons_zero, List.set_cons_succ]
            refine wpAnyH_take (i := 2) (v := ?_) rfl (by kernel_rfl) (by kernel_rfl) (by kernel_rfl) (fun _ _ _ h => h) (Or.inl ⟨by kernel_rfl, ?_⟩) hHeld ?_
            rotate_left 1; focus (intro w hSw; (try dsimp only at hSw); (try go_split_ands); go_simp; all_goals (first | done | with_reducible rfl))
            change wpAnyH _ _ _ _ _ _ _ (Act.put _ (some 113) _) _; simp only [Act.put, List.setIfInBounds_toArray, List.set_cons_zero, List.set_cons_succ]
            refine wpAnyH_take (i := 3) (v := ?_) rfl (by kernel_rfl) (by kernel_rfl) (by kernel_rfl) (fun _ _ _ h => h) (Or.inl ⟨by kernel_rfl, ?_⟩) hHeld ?_
            rotate_left 1; focus (intro w hSw; (try dsimp only at hSw); (try go_split_ands); go_simp; all_goals (first | done | with_reducible rfl))
            change wpAnyH _ _ _ _ _ _ _ (Act.put _ (some 114) _) _; simp only [Act.put, List.setIfInBounds_toArray, List.set_cons_zero, List.set_cons_succ]
            refine wpAnyH_take (i := 4) (v := ?_) rfl (by kernel_rfl) (by kernel_rfl) (by kernel_rfl) (fun _ _ _ h => h) (Or.inl ⟨by kernel_rfl, ?_⟩) hHeld ?_
            rotate_left 1; focus (intro w hSw; (try dsimp only at hSw); (try go_split_ands); go_simp; all_goals (first | done | with_reducible rfl))
            change wpAnyH _ _ _ _ _ _ _ (Act.put _ (some 115) _) _; simp only [Act.put, List.setIfInBounds_toArray, List.set_cons_zero, List.set_cons_succ]
            refine wpAnyH_take (i := 5) (v := ?_) rfl (by kernel_rfl) (by kernel_rfl) (by kernel_rfl) (fun _ _ _ h => h) (Or.inl ⟨by kernel_rfl, ?_⟩) hHeld ?_
            rotate_left 1; focus (intro w hSw; (try dsimp only at hSw); (try go_split_ands); go_simp; all_goals (first | done | with_reducible rfl))
            change wpAnyH _ _ _ _ _ _ _ (Act.put _ (some 116) _) _; simp only [Act.put, List.setIfInBounds_toArray, List.set_cons_zero, List.set_cons_succ]
            refine wpAnyH_take (i := 6) (v := ?_) rfl (by kernel_rfl) (by kernel_rfl) (by kernel_rfl) (fun _ _ _ h => h) (Or.inl ⟨by kernel_rfl, ?_⟩) hHeld ?_
            rotate_left 1; focus (intro w hSw; (try dsimp only at hSw); (try go_split_ands); go_simp; all_goals (first | done | with_reducible rfl))
            change wpAnyH _ _ _ _ _ _ _ (Act.put _ (some 117) _) _; simp only [Act.put, List.setIfInBounds_toArray, List.set_cons_zero, List.set_cons_succ]
            refine wpAnyH_take (i := 7) (v := ?_) rfl (by kernel_rfl) (by kernel_rfl) (by kernel_rfl) (fun _ _ _ h => h) (Or.inl ⟨by kernel_rfl, ?_⟩) hHeld ?_
            rotate_left 1; focus (intro w hSw; (try dsimp only at hSw); (try go_split_ands); go_simp; all_goals (first | done | with_reducible rfl))
            change wpAnyH _ _ _ _ _ _ _ (Act.put _ (some 118) _) _; simp only [Act.put, List.setIfInBounds_toArray, List.set_cons_zero, List.set_cons_succ]
            refine wpAnyH_take (i := 8) (v := ?_) rfl (by kernel_rfl) (by kernel_rfl) (by kernel_rfl) (fun _ _ _ h => h) (Or.inl ⟨by kernel_rfl, ?_⟩) hHeld ?_
            rotate_left 1; focus (intro w hSw; (try dsimp only at hSw); (try go_split_ands); go_simp; all_goals (first | done | with_reducible rfl))
            change wpAnyH _ _ _ _ _ _ _ (Act.put _ (some 119) _) _; simp only [Act.put, List.setIfInBounds_toArray, List.set_cons_zero, List.set_cons_succ]
            refine wpAnyH_take (i := 9) (v := ?_) rfl (by kernel_rfl) (by kernel_rfl) (by kernel_rfl) (fun _ _ _ h => h) (Or.inl ⟨by kernel_rfl, ?_⟩) hHeld ?_
            rotate_left 1; focus (intro w hSw; (try dsimp only at hSw); (try go_split_ands); go_simp; all_goals (first | done | with_reducible rfl))
            change wpAnyH _ _ _ _ _ _ _ (Act.put _ (some 120) _) _; simp only [Act.put, List.setIfInBounds_toArray, List.set_cons_zero, List.set_cons_succ]
            refine wpAnyH_take (i := 10) (v := ?_) rfl (by kernel_rfl) (by kernel_rfl) (by kernel_rfl) (fun _ _ _ h => h) (Or.inl ⟨by kernel_rfl, ?_⟩) hHeld ?_
            rotate_left 1; focus (intro w hSw; (try dsimp only at hSw); (try go_split_ands); go_simp; all_goals (first | done | with_reducible rfl))
            change wpAnyH _ _ _ _ _ _ _ (Act.put _ (some 121) _) _; simp only [Act.put, List.setIfInBounds_toArray, List.set_cons_zero, List.set_cons_succ]
            refine wpAnyH_take (i := 11) (v := ?_) rfl (by kernel_rfl) (by kernel_rfl) (by kernel_rfl) (fun _ _ _ h => h) (Or.inl ⟨by kernel_rfl, ?_⟩) hHeld ?_
            rotate_left 1; focus (intro w hSw; (try dsimp only at hSw); (try go_split_ands); go_simp; all_goals (first | done | with_reducible rfl))
            change wpAnyH _ _ _ _ _ _ _ (Act.put _ (some 122) _) _; simp only [Act.put, List.setIfInBounds_toArray, List.set_cons_zero, List.set_cons_succ]
            refine wpAnyH_take (i := 12) (v := ?_) rfl (by kernel_rfl) (by kernel_rfl) (by kernel_rfl) (fun _ _ _ h => h) (Or.inl ⟨by kernel_rfl, ?_⟩) hHeld ?_
            rotate_left 1; focus (intro w hSw; (try dsimp only at hSw); (try go_split_ands); go_simp; all_goals (first | done | with_reducible rfl))
            change wpAnyH _ _ _ _ _ _ _ (Act.put _ (some 123) _) _; simp only [Act.put, List.setIfInBounds_toArray, List.set_cons_zero, List.set_cons_succ]
            refine wpAnyH_take (i := 13) (v := ?_) rfl (by kernel_rfl) (by kernel_rfl) (by kernel_rfl) (fun _ _ _ h => h) (Or.inl ⟨by kernel_rfl, ?_⟩) hHeld ?_
            rotate_left 1; focus (intro w hSw; (try dsimp only at hSw); (try go_split_ands); go_simp; all_goals (first | done | with_reducible rfl))
            change wpAnyH _ _ _ _ _ _ _ (Act.put _ (some 124) _) _; simp only [Act.put, List.setIfInBounds_toArray, List.set_cons_zero, List.set_cons_succ]
            refine wpAnyH_take (i := 14) (v := ?_) rfl (by kernel_rfl) (by kernel_rfl) (by kernel_rfl) (fun _ _ _ h => h) (Or.inl ⟨by kernel_rfl, ?_⟩) hHeld ?_
            rotate_left 1; focus (intro w hSw; (try dsimp only at hSw); (try go_split_ands); go_simp; all_goals (first | done | with_reducible rfl))
            change wpAnyH _ _ _ _ _ _ _ (Act.put _ (some 125) _) _; simp only [Act.put, List.setIfInBounds_toArray, List.set_cons_zero, List.set_cons_succ]
            refine wpAnyH_take (i := 15) (v := ?_) rfl (by kernel_rfl) (by kernel_rfl) (by kernel_rfl) (fun _ _ _ h => h) (Or.inl ⟨by kernel_rfl, ?_⟩) hHeld ?_
            rotate_left 1; focus (intro w hSw; (try dsimp only at hSw); (try go_split_ands); go_simp; all_goals (first | done | with_reducible rfl))
            change wpAnyH _ _ _ _ _ _ _ (Act.put _ (some 126) _) _; simp only [Act.put, List.setIfInBounds_toArray, List.set_cons_zero, List.set_cons_succ]
            refine wpAnyH_take (i := 16) (v := ?_) rfl (by kernel_rfl) (by kernel_rfl) (by kernel_rfl) (fun _ _ _ h => h) (Or.inl ⟨by kernel_rfl, ?_⟩) hHeld ?_
            rotate_left 1; focus (intro w hSw; (try dsimp only at hSw); (try go_split_ands); go_simp; all_goals (first | done | with_reducible rfl))
            change wpAnyH _ _ _ _ _ _ _ (Act.put _ (some 127) _) _; simp only [Act.put, List.setIfInBounds_toArray, List.set_cons_zero, List.set_cons_succ]
            refine wpAnyH_take (i := 17) (v := ?_) rfl (by kernel_rfl) (by kernel_rfl) (by kernel_rfl) (fun _ _ _ h => h) (Or.inl ⟨by kernel_rfl, ?_⟩) hHeld ?_
            rotate_left 1; focus (intro w hSw; (try dsimp only at hSw); (try go_split_ands); go_simp; all_goals (first | done | with_reducible rfl))
            change wpAnyH _ _ _ _ _ _ _ (Act.put _ (some 128) _) _; simp only [Act.put, List.setIfInBounds_toArray, List.set_cons_zero, List.set_cons_succ]
            refine wpAnyH_ready (rs := [1, 18]) (by kernel_rfl) (by simp) ?_
            refine AllReadyH.cons rfl (fun K hK => ?_) ?_
            · skip
              obtain ⟨z0, z1, z2, z3, z4⟩ := K2d.out.box
              go_simp
              refine hK.out _ _ ?_ (fun hHeld => ?_)
              · exact ⟨own_src OLd.out 0 _ rfl, own_src OLd.out 1 _ rfl, own_src OLd.out 2 _ rfl, own_src OLd.out 3 _ rfl, own_src OLd.out 4 _ rfl⟩
              clear hK K
              clear z0 z1 z2 z3 z4
              (try simp only [Act.put, List.setIfInBounds_toArray, List.set_cons_zero, List.set_cons_succ])
              refine wpAnyH_ready (rs := [18]) (by kernel_rfl) (by simp) ?_
              refine AllReadyH.cons rfl (fun K hK => ?_) AllReadyH.nil
              have K5 : Hid (SCb w (V0.alloc (.cells #[.int .i64 i0, .int .i64 i1, .int .i64 i2, .int .i64 i3, .int .i64 i4] 47)) bp (⟨n, f, zs, os, vs, ko, kv⟩ : CV) (.slice za m zc) (.slice oa ko oc) (.slice va kv vc) (.slice (some ⟨gl, 0, none⟩) N lc) lines) := K2d.out.below ((Below.refl _ _).alloc (Nat.le_refl _) _)
              have OL5 : Hid (World.ownsRow (V0.alloc (.cells #[.int .i64 i0, .int .i64 i1, .int .i64 i2, .int .i64 i3, .int .i64 i4] 47)) (w.heap.size + 1) 2 1 (.slice (some ⟨lg, 0, none⟩) 5 cc) 5 ([i0, i1, i2, i3, i4].map (Value.int .i64))) := OLd.out.alloc _
              have V5 : Hid ((V0.alloc (.cells #[.int .i64 i0, .int .i64 i1, .int .i64 i2, .int .i64 i3, .int .i64 i4] 47)).heap[V0.heap.size]? = some (.cells ([i0, i1, i2, i3, i4].map (Value.int .i64)).toArray 47 (0, 0))) := heap_alloc_new _ _
              go_simp
              refine hK.out _ _ ?_ (fun hHeld => ?_)
              · exact ⟨own_src OL5.out 0 _ rfl, own_src OL5.out 1 _ rfl, own_src OL5.out 2 _ rfl, own_src OL5.out 3 _ rfl, own_src OL5.out 4 _ rfl⟩
              clear hK K
              generalize (V0.alloc (.cells #[.int .i64 i0, .int .i64 i1, .int .i64 i2, .int .i64 i3, .int .i64 i4] 47)) = w5 at *
              generalize V0.heap.size = b5 at *
              (try simp only [Act.put, List.setIfInBounds_toArray, List.set_cons_zero, List.set_cons_succ])
              refine wpAnyH_ready (rs := [19]) (by kernel_rfl) (by simp) ?_
              refine AllReadyH.cons rfl (fun K hK => ?_) AllReadyH.nil
              refine step_append_vals Tryd.underlying28 infoV5 (by rfl) (by omega) rfl (.tmp 112) (.tmp 129) rfl (w.heap.size + 1) (.slice va kv vc) kv (vs.map (Value.int .i64)) rfl K5.out.ov b5 0 1 1 ([i0, i1, i2, i3, i4].map (Value.int .i64)) rfl rfl (cellsR_at _ _ _ _ V5.out) (by intro u hu; obtain ⟨x, -, rfl⟩ := List.mem_map.1 hu; rfl) (by omega) (by omega) (Nat.le_trans K5.out.hp (Nat.le_of_lt (row_lt K5.out.p))) ?_
              intro v' w6 ho hg hbk hz
              rcases own_kinds ho with ⟨_, e0⟩ | ⟨g6, c6, e6, -, -⟩
              · omega
              subst e6
              have K6 : Hid (SCb w (w6.setCell ⟨bp, 3, none⟩ (.slice (some ⟨g6, 0, none⟩) (kv + 1) c6)) bp (⟨n, f, zs, os, vs ++ [i0, i1, i2, i3, i4], ko, kv + 1⟩ : CV) (.slice za m zc) (.slice oa ko oc) (.slice (some ⟨g6, 0, none⟩) (kv + 1) c6) (.slice (some ⟨gl, 0, none⟩) N lc) lines) := K5.out.vehicle hg (by rw [List.map_append]; exact ho)
              have P6 := grown_row hg K5.out.p (fun e => own_othC K5.out.ov K5.out.p (by decide) e.symm)
              have OL6 : Hid (World.ownsRow w6 (w.heap.size + 1) 2 1 (.slice (some ⟨lg, 0, none⟩) 5 cc) 5 ([i0, i1, i2, i3, i4].map (Value.int .i64))) := own_rowC OL5.out hg (own_twoC K5.out.ov OL5.out (by decide))
              have OL7 : Hid (World.ownsRow (w6.setCell ⟨bp, 3, none⟩ (.slice (some ⟨g6, 0, none⟩) (kv + 1) c6)) (w.heap.size + 1) 2 1 (.slice (some ⟨lg, 0, none⟩) 5 cc) 5 ([i0, i1, i2, i3, i4].map (Value.int .i64))) := SCb.stay P6 OL6.out (by decide)
              have f6 := fun i => frozen_of_row _ _ i _ _ P6
              obtain ⟨x0, x1, x2, x3, x4⟩ := cells5 P6
              clear ho hg hbk hz
              refine hK.out _ _ ?_ (fun hHeld => ?_)
              · exact ⟨own_src OL6.out 0 _ rfl, own_src OL6.out 1 _ rfl, own_src OL6.out 2 _ rfl, own_src OL6.out 3 _ rfl, own_src OL6.out 4 _ rfl⟩
              clear hK K
              change wpAnyH _ _ _ _ _ _ _ (Act.put _ (some 130) _) _
              (try simp only [Act.put, List.setIfInBounds_toArray, List.set_cons_zero, List.set_cons_succ])
              refine wpAnyH_take (i := 20) (v := ?_) rfl (by kernel_rfl) (by kernel_rfl) (by kernel_rfl) (fun _ _ _ h => h) (Or.inl ⟨by kernel_rfl, ?_⟩) hHeld ?_
              rotate_left 1; focus (intro w hSw; (try dsimp only at hSw); (try go_split_ands); go_simp; all_goals (first | done | with_reducible rfl))
              change wpAnyH _ _ _ _ _ _ _ (Act.put _ (some 131) _) _; simp only [Act.put, List.setIfInBounds_toArray, List.set_cons_zero, List.set_cons_succ]
              refine wpAnyH_ready (rs := [21]) (by kernel_rfl) (by simp) ?_
              refine AllReadyH.cons rfl (fun K hK => ?_) AllReadyH.nil
              go_simp
              refine hK.out _ _ ?_ (fun hHeld => ?_)
              · exact ⟨own_src OL7.out 0 _ rfl, own_src OL7.out 1 _ rfl, own_src OL7.out 2 _ rfl, own_src OL7.out 3 _ rfl, own_src OL7.out 4 _ rfl⟩
              clear hK K
              (try simp only [Act.put, List.setIfInBounds_toArray, List.set_cons_zero, List.set_cons_succ])
              refine wpAnyH_done (by kernel_rfl) ?_ _
              clear x0 x1 x2 x3 x4 f6 P6 OL6 OL7
              generalize w6.setCell ⟨bp, 3, none⟩ (.slice (some ⟨g6, 0, none⟩) (kv + 1) c6) = W6 at *
              go_wp2_with fail
              go_roundw
              case rel => exact ⟨j + 1, _, _, _, _, by omega, by go_num, HL3.out, by have h1 := HZL.out; have h2 := HS1.out; simp only; omega, by simp only; omega, by simp only; omega, HLE3.out, K6.out⟩
              case measure => simp [intOf]; omega
            refine AllReadyH.cons rfl (fun K hK => ?_) AllReadyH.nil
            have K5 : Hid (SCb w (V0.alloc (.cells #[.int .i64 i0, .int .i64 i1, .int .i64 i2, .int .i64 i3, .int .i64 i4] 47)) bp (⟨n, f, zs, os, vs, ko, kv⟩ : CV) (.slice za m zc) (.slice oa ko oc) (.slice va kv vc) (.slice (some ⟨gl, 0, none⟩) N lc) lines) := K2d.out.below ((Below.refl _ _).alloc (Nat.le_refl _) _)
            have OL5 : Hid (World.ownsRow (V0.alloc (.cells #[.int .i64 i0, .int .i64 i1, .int .i64 i2, .int .i64 i3, .int .i64 i4] 47)) (w.heap.size + 1) 2 1 (.slice (some ⟨lg, 0, none⟩) 5 cc) 5 ([i0, i1, i2, i3, i4].map (Value.int .i64))) := OLd.out.alloc _
            have V5 : Hid ((V0.alloc (.cells #[.int .i64 i0, .int .i64 i1, .int .i64 i2, .int .i64 i3, .int .i64 i4] 47)).heap[V0.heap.size]? = some (.cells ([i0, i1, i2, i3, i4].map (Value.int .i64)).toArray 47 (0, 0))) := heap_alloc_new _ _
            go_simp
            refine hK.out _ _ ?_ (fun hHeld => ?_)
            · exact ⟨own_src OL5.out 0 _ rfl, own_src OL5.out 1 _ rfl, own_src OL5.out 2 _ rfl, own_src OL5.out 3 _ rfl, own_src OL5.out 4 _ rfl⟩
            clear hK K
            generalize (V0.alloc (.cells #[.int .i64 i0, .int .i64 i1, .int .i64 i2, .int .i64 i3, .int .i64 i4] 47)) = w5 at *
            generalize V0.heap.size = b5 at *
            (try simp only [Act.put, List.setIfInBounds_toArray, List.set_cons_zero, List.set_cons_succ])
            refine wpAnyH_ready (rs := [1]) (by kernel_rfl) (by simp) ?_
            refine AllReadyH.cons rfl (fun K hK => ?_) AllReadyH.nil
            obtain ⟨z0, z1, z2, z3, z4⟩ := K5.out.box
            go_simp
            refine hK.out _ _ ?_ (fun hHeld => ?_)
            · exact ⟨own_src OL5.out 0 _ rfl, own_src OL5.out 1 _ rfl, own_src OL5.out 2 _ rfl, own_src OL5.out 3 _ rfl, own_src OL5.out 4 _ rfl⟩
            clear hK K
            clear z0 z1 z2 z3 z4
            (try simp only [Act.put, List.setIfInBounds_toArray, List.set_cons_zero, List.set_cons_succ])
            refine wpAnyH_ready (rs := [19]) (by kernel_rfl) (by simp) ?_
            refine AllReadyH.cons rfl (fun K hK => ?_) AllReadyH.nil
            refine step_append_vals Tryd.underlying28 infoV5 (by rfl) (by omega) rfl (.tmp 112) (.tmp 129) rfl (w.heap.size + 1) (.slice va kv vc) kv (vs.map (Value.int .i64)) rfl K5.out.ov b5 0 1 1 ([i0, i1, i2, i3, i4].map (Value.int .i64)) rfl rfl (cellsR_at _ _ _ _ V5.out) (by intro u hu; obtain ⟨x, -, rfl⟩ := List.mem_map.1 hu; rfl) (by omega) (by omega) (Nat.le_trans K5.out.hp (Nat.le_of_lt (row_lt K5.out.p))) ?_
            intro v' w6 ho hg hbk hz
            rcases own_kinds ho with ⟨_, e0⟩ | ⟨g6, c6, e6, -, -⟩
            · omega
            subst e6
            have K6 : Hid (SCb w (w6.setCell ⟨bp, 3, none⟩ (.slice (some ⟨g6, 0, none⟩) (kv + 1) c6)) bp (⟨n, f, zs, os, vs ++ [i0, i1, i2, i3, i4], ko, kv + 1⟩ : CV) (.slice za m zc) (.slice oa ko oc) (.slice (some ⟨g6, 0, none⟩) (kv + 1) c6) (.slice (some ⟨gl, 0, none⟩) N lc) lines) := K5.out.vehicle hg (by rw [List.map_append]; exact ho)
            have P6 := grown_row hg K5.out.p (fun e => own_othC K5.out.ov K5.out.p (by decide) e.symm)
            have OL6 : Hid (World.ownsRow w6 (w.heap.size + 1) 2 1 (.slice (some ⟨lg, 0, none⟩) 5 cc) 5 ([i0, i1, i2, i3, i4].map (Value.int .i64))) := own_rowC OL5.out hg (own_twoC K5.out.ov OL5.out (by decide))
            have OL7 : Hid (World.ownsRow (w6.setCell ⟨bp, 3, none⟩ (.slice (some ⟨g6, 0, none⟩) (kv + 1) c6)) (w.heap.size + 1) 2 1 (.slice (some ⟨lg, 0, none⟩) 5 cc) 5 ([i0, i1, i2, i3, i4].map (Value.int .i64))) := SCb.stay P6 OL6.out (by decide)
            have f6 := fun i => frozen_of_row _ _ i _ _ P6
            obtain ⟨x0, x1, x2, x3, x4⟩ := cells5 P6
            clear ho hg hbk hz
            refine hK.out _ _ ?_ (fun hHeld => ?_)
            · exact ⟨own_src OL6.out 0 _ rfl, own_src OL6.out 1 _ rfl, own_src OL6.out 2 _ rfl, own_src OL6.out 3 _ rfl, own_src OL6.out 4 _ rfl⟩
            clear hK K
            change wpAnyH _ _ _ _ _ _ _ (Act.put _ (some 130) _) _
            (try simp only [Act.put, List.setIfInBounds_toArray, List.set_cons_zero, List.set_cons_succ])
            refine wpAnyH_take (i := 20) (v := ?_) rfl (by kernel_rfl) (by kernel_rfl) (by kernel_rfl) (fun _ _ _ h => h) (Or.inl ⟨by kernel_rfl, ?_⟩) hHeld ?_
            rotate_left 1; focus (intro w hSw; (try dsimp only at hSw); (try go_split_ands); go_simp; all_goals (first | done | with_reducible rfl))
            change wpAnyH _ _ _ _ _ _ _ (Act.put _ (some 131) _) _; simp only [Act.put, List.setIfInBounds_toArray, List.set_cons_zero, List.set_cons_succ]
            refine wpAnyH_ready (rs := [21]) (by kernel_rfl) (by simp) ?_
            refine AllReadyH.cons rfl (fun K hK => ?_) AllReadyH.nil
            go_simp
            refine hK.out _ _ ?_ (fun hHeld => ?_)
            · exact ⟨own_src OL7.out 0 _ rfl, own_src OL7.out 1 _ rfl, own_src OL7.out 2 _ rfl, own_src OL7.out 3 _ rfl, own_src OL7.out 4 _ rfl⟩
            clear hK K
            (try simp only [Act.put, List.setIfInBounds_toArray, List.set_cons_zero, List.set_cons_succ])
            refine wpAnyH_done (by kernel_rfl) ?_ _
            clear x0 x1 x2 x3 x4 f6 P6 OL6 OL7
            generalize w6.setCell ⟨bp, 3, none⟩ (.slice (some ⟨g6, 0, none⟩) (kv + 1) c6) = W6 at *
            go_wp2_with fail
            go_roundw
            case rel => exact ⟨j + 1, _, _, _, _, by omega, by go_num, HL3.out, by have h1 := HZL.out; have h2 := HS1.out; simp only; omega, by simp only; omega, by simp only; omega, HLE3.out, K6.out⟩
            case measure => simp [intOf]; omega
          · have hkI : ((k : Int) == 5) = false := by simp; omega
            have e9 : stepC (⟨n, f, zs, os, vs, ko, kv⟩ : CV) wd l = (⟨n, f, zs, os, vs, ko, kv⟩ : CV) := by simp [stepC, hw, wCase, wTimes, wOrder, wVehicle, HK.out, hk]
            have HL3 : Hid (lnsC (lines.take (j + 1)) = some (⟨n, f, zs, os, vs, ko, kv⟩ : CV)) := by show _ = _; rw [HL2.out, e9]
            have HLE3 : Hid (CV.lens (⟨n, f, zs, os, vs, ko, kv⟩ : CV)) := by have := HLE2.out; rw [e9] at this; exact this
            clear e9 HL2 HLE2
            clear hw etl
            generalize txt wd = twd at *
            go_wp2_with fail
            go_roundw
            case rel => exact ⟨j + 1, _, _, _, _, by omega, by go_num, HL3.out, by have h1 := HZL.out; have h2 := HS1.out; simp only; omega, by simp only; omega, by simp only; omega, HLE3.out, K2.out⟩
            case measure => simp [intOf]; omega
        have hwCase : ((txt wd).toList == [99, 97, 115, 101]) = false := by rw [etl]; simpa using (show ¬ wd = [99, 97, 115, 101] from nwCase)
        have hwTimes : ((txt wd).toList == [116, 105, 109, 101, 115]) = false := by rw [etl]; simpa using (show ¬ wd = [116, 105, 109, 101, 115] from nwTimes)
        have hwOrder : ((txt wd).toList == [111, 114, 100, 101, 114]) = false := by rw [etl]; simpa using (show ¬ wd = [111, 114, 100, 101, 114] from nwOrder)
        have hwVehicle : ((txt wd).toList == [118, 101, 104, 105, 99, 108, 101]) = false := by rw [etl]; simpa using (show ¬ wd = [118, 101, 104, 105, 99, 108, 101] from nwVehicle)
        have e9 : stepC (⟨n, f, zs, os, vs, ko, kv⟩ : CV) wd l = (⟨n, f, zs, os, vs, ko, kv⟩ : CV) := by unfold stepC; rw [if_neg (fun h => nwCase h.1), if_neg nwTimes, if_neg (fun h => nwOrder h.1), if_neg (fun h => nwVehicle h.1)]
        have HL3 : Hid (lnsC (lines.take (j + 1)) = some (⟨n, f, zs, os, vs, ko, kv⟩ : CV)) := by show _ = _; rw [HL2.out, e9]
        have HLE3 : Hid (CV.lens (⟨n, f, zs, os, vs, ko, kv⟩ : CV)) := by have := HLE2.out; rw [e9] at this; exact this
        clear e9 HL2 HLE2
        clear etl
        generalize txt wd = twd at *
        go_wp2_with fail
        go_roundw
        case rel => exact ⟨j + 1, _, _, _, _, by omega, by go_num, HL3.out, by have h1 := HZL.out; have h2 := HS1.out; simp only; omega, by simp only; omega, by simp only; omega, HLE3.out, K2.out⟩
        case measure => simp [intOf]; omega
      · have HR : Hid (specC s = none) := HBAD.out hc
        have K2 : Hid (SCb w w2 bp (⟨n, f, zs, os, vs, ko, kv⟩ : CV) (.slice za m zc) (.slice oa ko oc) (.slice va kv vc) (.slice (some ⟨gl, 0, none⟩) N lc) lines) := KW.out.below hb
        clear hc hb C KW
        obtain ⟨c0, c1, c2, c3, c4⟩ := cells5 K2.out.z
        have zf := fun i => frozen_of_row _ _ i _ _ K2.out.z
        go_wp2
        refine bodyPost_ret (v := .tuple #[.agg #[.int .i64 0, .slice none 0 0, .slice none 0 0, .slice none 0 0, .int .i64 0], .bool false]) (by simp [results, Tryd.results11, go_sem, c0, c1, c2, c3, c4]) rfl ?_
        refine .inr ⟨HR.out, rfl, ?_⟩
        exact Below.setCell (Below.setCell (Below.setCell (Below.setCell (Below.setCell K2.out.b (by simp) _) (by simp) _) (by simp) _) (by simp) _) (by simp) _
    · have hjn : j = N := by omega
      have HLF2 : Hid (specFC s = some (⟨n, f, zs, os, vs, ko, kv⟩ : CV)) := by
        have := HLF.out
        rw [hjn, ← HNN.out, List.take_length] at this
        show _ = _
        rw [HSP2.out, this]
      have hnl : ¬ ((j : Int) < (N : Int)) := by omega
      have OZ : wr.ownsRow (w.heap.size + 1) 2 1 (.slice za m zc) m (zs.map (Value.int .i64)) := by have := KW.out.oz; simp only at this; rw [HM.out] at this; exact this
      have hcp := own_capC OZ
      have C := specCaseText_any n f za oa va zc ko oc kv vc zs os vs wr (own_intsC OZ) (own_intsC KW.out.oo) (own_intsC KW.out.ov) HLE.out.1 HLE.out.2 (by omega) (by omega) (by rw [HM.out]; exact hcp.1) (by have := hcp.2; unfold maxLen at this; omega)
      rw [HM.out] at C
      have HPT : Hid ((if caseB n zs os vs ko kv f = true then txt (caseL n f zs os vs ko kv) else txt []) = txt (CV.txt0 (⟨n, f, zs, os, vs, ko, kv⟩ : CV))) := by
        show _ = _
        unfold CV.txt0 CV.ok CV.tx
        simp only
        split <;> rfl
      rw [HPT.out] at C
      clear hjn OZ hcp
      have hem : a.toList.isEmpty = decide (s = []) := by rw [← HA.out]; exact txt_nil s
      by_cases hs0 : s = []
      · have HR : Hid (specC s = none) := by show _ = _; rw [HSR.out, HLF2.out]; simp [hs0]
        rw [decide_eq_true hs0] at hem
        clear hs0 C
        obtain ⟨c0, c1, c2, c3, c4⟩ := cells5 KW.out.z
        have zf := fun i => frozen_of_row _ _ i _ _ KW.out.z
        go_wp2
        refine bodyPost_ret (v := .tuple #[.agg #[.int .i64 0, .slice none 0 0, .slice none 0 0, .slice none 0 0, .int .i64 0], .bool false]) (by simp [results, Tryd.results11, go_sem, c0, c1, c2, c3, c4]) rfl ?_
        refine .inr ⟨HR.out, rfl, ?_⟩
        exact Below.setCell (Below.setCell (Below.setCell (Below.setCell (Below.setCell KW.out.b (by simp) _) (by simp) _) (by simp) _) (by simp) _) (by simp) _
      rw [decide_eq_false hs0] at hem
      obtain ⟨c0, c1, c2, c3, c4⟩ := KW.out.box
      go_wp2_with fail
      clear c0 c1 c2 c3 c4
      refine C.mono ?_
      rintro e w2 ⟨rfl, hb⟩
      have K2 : Hid (SCb w w2 bp (⟨n, f, zs, os, vs, ko, kv⟩ : CV) (.slice za m zc) (.slice oa ko oc) (.slice va kv vc) (.slice la N lc) lines) := KW.out.below hb
      clear hb C KW
      obtain ⟨x0, x1, x2, x3, x4⟩ := K2.out.box
      obtain ⟨c0, c1, c2, c3, c4⟩ := cells5 K2.out.z
      have zf := fun i => frozen_of_row _ _ i _ _ K2.out.z
      have npz : bp ≠ w.heap.size := by have := K2.out.hp; omega
      by_cases hE : CV.txt0 (⟨n, f, zs, os, vs, ko, kv⟩ : CV) = s
      · have HR : Hid (specC s = some (⟨n, f, zs, os, vs, ko, kv⟩ : CV)) := by show _ = _; rw [HSR.out, HLF2.out]; simp [hE, hs0]
        have hcmp : ((txt (CV.txt0 (⟨n, f, zs, os, vs, ko, kv⟩ : CV))).toList == a.toList) = true := by rw [hE, HA.out]; exact str_eq rfl
        clear hE
        generalize txt (CV.txt0 (⟨n, f, zs, os, vs, ko, kv⟩ : CV)) = tp at *
        go_wp2
        refine bodyPost_ret (v := .tuple #[.agg #[.int .i64 n, .slice za m zc, .slice oa ko oc, .slice va kv vc, .int .i64 f], .bool true]) (by simp [results, Tryd.results11, go_sem, c0, c1, c2, c3, c4]) rfl ?_
        refine .inl ⟨(⟨n, f, zs, os, vs, ko, kv⟩ : CV), _, _, _, HR.out, rfl, ?_, ?_, ?_, ?_⟩
        · exact Below.setCell (Below.setCell (Below.setCell (Below.setCell (Below.setCell K2.out.b (by simp) _) (by simp) _) (by simp) _) (by simp) _) (by simp) _
        · exact owns_set (owns_set (owns_set (owns_set (owns_set K2.out.oz (by omega)) (by omega)) (by omega)) (by omega)) (by omega)
        · exact owns_set (owns_set (owns_set (owns_set (owns_set K2.out.oo (by omega)) (by omega)) (by omega)) (by omega)) (by omega)
        · exact owns_set (owns_set (owns_set (owns_set (owns_set K2.out.ov (by omega)) (by omega)) (by omega)) (by omega)) (by omega)
      · have HR : Hid (specC s = none) := by show _ = _; rw [HSR.out, HLF2.out]; simp [hE]
        have hcmp : ((txt (CV.txt0 (⟨n, f, zs, os, vs, ko, kv⟩ : CV))).toList == a.toList) = false := by rw [← HA.out]; exact str_ne (fun e => hE (txt_inj e))
        clear hE x0 x1 x2 x3 x4
        generalize txt (CV.txt0 (⟨n, f, zs, os, vs, ko, kv⟩ : CV)) = tp at *
        go_wp2
        refine bodyPost_ret (v := .tuple #[.agg #[.int .i64 0, .slice none 0 0, .slice none 0 0, .slice none 0 0, .int .i64 0], .bool false]) (by simp [results, Tryd.results11, go_sem, c0, c1, c2, c3, c4]) rfl ?_
        refine .inr ⟨HR.out, rfl, ?_⟩
        exact Below.setCell (Below.setCell (Below.setCell (Below.setCell (Below.setCell K2.out.b (by simp) _) (by simp) _) (by simp) _) (by simp) _) (by simp) _

end Go.Proofs.YtaofpbmdloihgaaDoor
