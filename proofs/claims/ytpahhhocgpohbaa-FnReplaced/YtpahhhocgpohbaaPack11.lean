import Derived.Test.YtpahhhocgpohbaaPack0
import Derived.Test.YtpahhhocgpohbaaPack2
namespace Go.Proofs.Ytpahhhocgpohbaa
open Go.RowKit

theorem infF32 : (Try.prog.info? 55).map (fun i => (i.zero, i.size, i.bytes)) = some (some (Value.agg #[.string ⟨#[]⟩, .string ⟨#[]⟩]), 2, 32) := by kernel_rfl
theorem two_row (W : World) (T : TypeId) (x y : Value) : ∀ j u, [x, y][j]? = some u → (W.alloc (.cells #[x, y] T)).cell? ⟨W.heap.size, 0 + j, none⟩ = some u := by
  intro j u hu
  match j, hu with
  | 0, hu =>
    simp at hu
    subst hu
    rw [cell_of_row _ _ _ _ _ _ (heap_alloc_new _ _)]
    rfl
  | 1, hu =>
    simp at hu
    subst hu
    rw [cell_of_row _ _ _ _ _ _ (heap_alloc_new _ _)]
    rfl
  | j + 2, hu => simp at hu
theorem own_newF (W : World) : (W.alloc (.cells #[] 55)).ownsRow W.heap.size 55 2 (.slice (some ⟨W.heap.size, 0, none⟩) 0 0) 0 ([] : List Value) := World.ownsRow_made W #[] 0 (Nat.le_refl _) (by unfold maxLen; omega) (by simp)

set_option maxHeartbeats 1000000 in
theorem l12Cut_any (a : Option Addr) (c : Nat) (F : List FI) (nm : ByteArray) (w : World) (hF : FilesAt w a F) (hn : F.length ≤ 1048576) :
    Calls Try.prog 52 #[.slice a F.length c, .string nm] w fun e w' => ∃ v, e = .returned v ∧ Below w.heap.size w w' ∧ w'.ownsRow w.heap.size 55 2 v (cutF F nm).length (rowF (cutF F nm)) := by
  have HF : Hid (FilesAt w a F) := hF
  clear hF
  obtain ⟨n, HN⟩ : ∃ n, Hid (F.length = n) := ⟨_, rfl⟩
  rw [HN.out] at hn ⊢
  have OB : Hid (Below w.heap.size w (w.alloc (.cells #[] 55))) := (Below.refl _ _).alloc (Nat.le_refl _) _
  go_enter Try.func52, Try.ntmps52
  go_wp2_with fail
  go_loopw [5, 6] (fun tl ti wr => ∃ i : Nat, i ≤ n ∧ ti = .int .i64 i ∧ wr.ownsRow w.heap.size 55 2 tl (cutF (F.take i) nm).length (rowF (cutF (F.take i) nm)) ∧ Below w.heap.size w wr) (fun _ ti _ => n - (intOf ti).toNat)
  case atStart => exact ⟨0, Nat.zero_le _, rfl, own_newF w, OB.out⟩
  case round =>
    clear OB
    obtain ⟨i, hi, rfl, ho, hbl⟩ := hrel
    have hll : (cutF (F.take i) nm).length ≤ 1048576 := Nat.le_trans (cutF_len _ _) (by rw [List.length_take, HN.out]; omega)
    by_cases hlt : i < n
    · have hin : (i : Int) < n := by omega
      have hiF : i < F.length := by rw [HN.out]; exact hlt
      have HST : Hid (cutF (F.take (i + 1)) nm = cutF (F.take i) nm ++ (if (F.getD i fi0).1 = nm then [] else [F.getD i fi0])) := cutF_step F nm i hiF
      obtain ⟨L, HL⟩ : ∃ L, Hid (cutF (F.take i) nm = L) := ⟨_, rfl⟩
      rw [HL.out] at ho hll HST
      obtain ⟨k, HK⟩ : ∃ k, Hid (L.length = k) := ⟨_, rfl⟩
      rw [HK.out] at ho hll
      have O1 : Hid (wr.ownsRow w.heap.size 55 2 u5 k (rowF L)) := ho
      have B1 : Hid (Below w.heap.size w wr) := hbl
      clear ho hbl
      obtain ⟨b, off, e, c1, c2⟩ := (HF.out.below B1.out) i hiF
      subst e
      generalize F.getD i fi0 = f at *
      obtain ⟨x, y⟩ := f
      simp only at c1 c2 HST
      by_cases he : x = nm
      · have hst : Hid (cutF (F.take (i + 1)) nm = L) := by show _ = _; rw [HST.out, if_pos he, List.append_nil]
        have heb := str_eq he
        clear HST he
        go_wp2
        go_roundw
        case rel => exact ⟨i + 1, by omega, by first | rfl | go_num, by rw [hst.out, HK.out]; exact O1.out, B1.out⟩
        case measure => simp [intOf]; omega
      · have hst : Hid (cutF (F.take (i + 1)) nm = L ++ [(x, y)]) := by show _ = _; rw [HST.out, if_neg he]
        have heb := str_ne he
        clear HST he
        have BA : Hid (Below w.heap.size w (wr.alloc (.cells #[.string x, .string y] 55))) := B1.out.alloc B1.out.size _
        go_wp2_with (
          at_builtin
          refine append_vals Try.underlying24 infF32 rfl (by decide) _ rfl _ _ rfl w.heap.size _ k (rowF L) rfl (O1.out.alloc _) wr.heap.size 0 1 1 [.string x, .string y] rfl rfl (two_row wr _ _ _) (by simp [Value.oneCell']) (by omega) (by omega) (Nat.le_trans B1.out.size (by simp)) ?_
          intro v' w4 hown hg _ hnl
          have O4 : Hid (w4.ownsRow w.heap.size 55 2 v' (k + 1) (rowF (L ++ [(x, y)]))) := by show World.ownsRow _ _ _ _ _ _ _; rw [rowF_app]; exact hown
          have B4 : Hid (Below w.heap.size w w4) := BA.out.grown hg BA.out.size (fun k e => (O1.out.lt k e).1)
          clear hown hg hnl)
        go_roundw
        case rel => exact ⟨i + 1, by omega, by first | rfl | go_num, by rw [hst.out, List.length_append, HK.out]; exact O4.out, B4.out⟩
        case measure => simp [intOf]; omega
    · have hin : i = n := by omega
      subst hin
      rw [show F.take i = F by rw [← HN.out, List.take_length]] at ho hll
      have O1 := ho
      go_wp2
      go_ret
      exact ⟨_, rfl, hbl, O1⟩

set_option maxHeartbeats 2000000 in
theorem l12Put_any (a : Option Addr) (c : Nat) (F : List FI) (nm d : ByteArray) (w : World) (hF : FilesAt w a F) (hn : F.length ≤ 1048576) (hr : RisF F) :
    Calls Try.prog 51 #[.slice a F.length c, .string nm, .string d] w fun e w' => ∃ v, e = .returned v ∧ Below w.heap.size w w' ∧ w'.ownsRow w.heap.size 55 2 v (putF F nm d).length (rowF (putF F nm d)) := by
  have HF : Hid (FilesAt w a F) := hF
  have HPE : Hid (putF F nm d = (if (putS F nm d F.length).1 then (putS F nm d F.length).2 else (putS F nm d F.length).2 ++ [(nm, d)])) := putS_end hr nm d
  clear hF hr
  obtain ⟨P, HP⟩ : ∃ P, Hid (putF F nm d = P) := ⟨_, rfl⟩
  rw [HP.out] at HPE ⊢
  obtain ⟨n, HN⟩ : ∃ n, Hid (F.length = n) := ⟨_, rfl⟩
  rw [HN.out] at hn HPE ⊢
  have OB : Hid (Below w.heap.size w (w.alloc (.cells #[] 55))) := (Below.refl _ _).alloc (Nat.le_refl _) _
  go_enter Try.func51, Try.ntmps51
  go_wp2_with fail
  go_loopw [7, 8, 9] (fun tl tb ti wr => ∃ (i : Nat) (b : Bool) (L : List FI), i ≤ n ∧ ti = .int .i64 i ∧ tb = .bool b ∧ putS F nm d i = (b, L) ∧ wr.ownsRow w.heap.size 55 2 tl L.length (rowF L) ∧ Below w.heap.size w wr) (fun _ _ ti _ => n - (intOf ti).toNat)
  case atStart => exact ⟨0, false, [], Nat.zero_le _, rfl, rfl, rfl, own_newF w, OB.out⟩
  case round =>
    clear OB
    obtain ⟨i, b, L, hi, rfl, rfl, hs, ho, hbl⟩ := hrel
    have hll := (putS_len F nm d i).1
    rw [hs] at hll
    have HS : Hid (putS F nm d i = (b, L)) := hs
    obtain ⟨k, HK⟩ : ∃ k, Hid (L.length = k) := ⟨_, rfl⟩
    simp only at hll
    rw [HK.out] at ho hll
    have O1 : Hid (wr.ownsRow w.heap.size 55 2 u7 k (rowF L)) := ho
    have B1 : Hid (Below w.heap.size w wr) := hbl
    clear ho hbl hs
    have BA : Hid (Below w.heap.size w (wr.alloc (.cells #[.string nm, .string d] 55))) := B1.out.alloc B1.out.size _
    by_cases hlt : i < n
    · have hin : (i : Int) < n := by omega
      have hiF : i < F.length := by rw [HN.out]; exact hlt
      obtain ⟨bb, off, e, c1, c2⟩ := (HF.out.below B1.out) i hiF
      subst e
      have HC : Hid (∀ W, Below w.heap.size w W → W.cell? ⟨bb, off + i * 2, none⟩ = some (.string (F.getD i fi0).1) ∧ W.cell? ⟨bb, off + i * 2 + 1, none⟩ = some (.string (F.getD i fi0).2)) := fun W hW => by
        obtain ⟨b', off', e', q1, q2⟩ := (HF.out.below hW) i hiF
        simp only [Option.some.injEq, Addr.mk.injEq] at e'
        obtain ⟨rfl, rfl, -⟩ := e'
        exact ⟨q1, q2⟩
      have SA : Hid ((!b && !(ltT (F.getD i fi0).1 nm)) = true → (F.getD i fi0).1 = nm → putS F nm d (i + 1) = (true, L ++ [(nm, d)])) := fun h1 h2 => putS_a HS.out h1 h2
      have SB : Hid ((!b && !(ltT (F.getD i fi0).1 nm)) = true → (F.getD i fi0).1 ≠ nm → putS F nm d (i + 1) = (true, L ++ [(nm, d)] ++ [F.getD i fi0])) := fun h1 h2 => putS_b HS.out h1 h2
      have SC : Hid ((!b && !(ltT (F.getD i fi0).1 nm)) = false → (F.getD i fi0).1 = nm → putS F nm d (i + 1) = (b, L)) := fun h1 h2 => putS_c HS.out h1 h2
      have SD : Hid ((!b && !(ltT (F.getD i fi0).1 nm)) = false → (F.getD i fi0).1 ≠ nm → putS F nm d (i + 1) = (b, L ++ [F.getD i fi0])) := fun h1 h2 => putS_d HS.out h1 h2
      generalize F.getD i fi0 = f at *
      obtain ⟨x, y⟩ := f
      simp only at c1 c2 SA SB SC SD HC
      have BX : Hid (Below w.heap.size w (wr.alloc (.cells #[.string x, .string y] 55))) := B1.out.alloc B1.out.size _
      cases hc : (!b && !(ltT x nm))
      · by_cases he : x = nm
        · have HS2 : Hid (putS F nm d (i + 1) = (b, L)) := SC.out hc he
          have heb := str_eq he
          have hbt : b = true := by
            cases b
            · rw [he, ltT_irr] at hc; simp at hc
            · rfl
          subst hbt
          clear SA SB SC SD hc he
          go_wp2
          go_roundw
          case rel => exact ⟨i + 1, true, L, by omega, by first | rfl | go_num, rfl, HS2.out, by rw [HK.out]; exact O1.out, B1.out⟩
          case measure => simp [intOf]; omega
        · have HS2 : Hid (putS F nm d (i + 1) = (b, L ++ [(x, y)])) := SD.out hc he
          have heb := str_ne he
          clear SA SB SC SD he
          cases b
          · have hxl : Op.bytesLess x.toList nm.toList = true := by
              have : ltT x nm = true := by simpa using hc
              exact this
            clear hc
            go_wp2_with (
              at_builtin
              refine append_vals Try.underlying24 infF32 rfl (by decide) _ rfl _ _ rfl w.heap.size _ k (rowF L) rfl (O1.out.alloc _) wr.heap.size 0 1 1 [.string x, .string y] rfl rfl (two_row wr _ _ _) (by simp [Value.oneCell']) (by omega) (by omega) (Nat.le_trans B1.out.size (by simp)) ?_
              intro v' w4 hown hg _ hnl
              have O4 : Hid (w4.ownsRow w.heap.size 55 2 v' (k + 1) (rowF (L ++ [(x, y)]))) := by show World.ownsRow _ _ _ _ _ _ _; rw [rowF_app]; exact hown
              have B4 : Hid (Below w.heap.size w w4) := BX.out.grown hg BX.out.size (fun k e => (O1.out.lt k e).1)
              clear hown hg hnl)
            go_roundw
            case rel => exact ⟨i + 1, false, _, by omega, by first | rfl | go_num, rfl, HS2.out, by rw [List.length_append, HK.out]; exact O4.out, B4.out⟩
            case measure => simp [intOf]; omega
          · clear hc
            go_wp2_with (
              at_builtin
              refine append_vals Try.underlying24 infF32 rfl (by decide) _ rfl _ _ rfl w.heap.size _ k (rowF L) rfl (O1.out.alloc _) wr.heap.size 0 1 1 [.string x, .string y] rfl rfl (two_row wr _ _ _) (by simp [Value.oneCell']) (by omega) (by omega) (Nat.le_trans B1.out.size (by simp)) ?_
              intro v' w4 hown hg _ hnl
              have O4 : Hid (w4.ownsRow w.heap.size 55 2 v' (k + 1) (rowF (L ++ [(x, y)]))) := by show World.ownsRow _ _ _ _ _ _ _; rw [rowF_app]; exact hown
              have B4 : Hid (Below w.heap.size w w4) := BX.out.grown hg BX.out.size (fun k e => (O1.out.lt k e).1)
              clear hown hg hnl)
            go_roundw
            case rel => exact ⟨i + 1, true, _, by omega, by first | rfl | go_num, rfl, HS2.out, by rw [List.length_append, HK.out]; exact O4.out, B4.out⟩
            case measure => simp [intOf]; omega
      · have hbf : b = false := by cases b; rfl; simp at hc
        subst hbf
        have hxl : Op.bytesLess x.toList nm.toList = false := by
          have : ltT x nm = false := by simpa using hc
          exact this
        by_cases he : x = nm
        · have HS2 : Hid (putS F nm d (i + 1) = (true, L ++ [(nm, d)])) := SA.out hc he
          subst he
          have heb : (x.toList == x.toList) = true := beq_self_eq_true _
          clear SA SB SC SD hc
          go_wp2_with (
            at_builtin
            refine append_vals Try.underlying24 infF32 rfl (by decide) _ rfl _ _ rfl w.heap.size _ k (rowF L) rfl (O1.out.alloc _) wr.heap.size 0 1 1 [.string x, .string d] rfl rfl (two_row wr _ _ _) (by simp [Value.oneCell']) (by omega) (by omega) (Nat.le_trans B1.out.size (by simp)) ?_
            intro v' w4 hown hg _ hnl
            have O4 : Hid (w4.ownsRow w.heap.size 55 2 v' (k + 1) (rowF (L ++ [(x, d)]))) := by show World.ownsRow _ _ _ _ _ _ _; rw [rowF_app]; exact hown
            have B4 : Hid (Below w.heap.size w w4) := BA.out.grown hg BA.out.size (fun k e => (O1.out.lt k e).1)
            have c1' := (HC.out w4 B4.out).1
            clear hown hg hnl)
          go_roundw
          case rel => exact ⟨i + 1, true, _, by omega, by first | rfl | go_num, rfl, HS2.out, by rw [List.length_append, HK.out]; exact O4.out, B4.out⟩
          case measure => simp [intOf]; omega
        · have HS2 : Hid (putS F nm d (i + 1) = (true, L ++ [(nm, d)] ++ [(x, y)])) := SB.out hc he
          have heb := str_ne he
          clear SA SB SC SD hc he
          go_wp2_with (first
            | (at_builtin
               refine append_vals Try.underlying24 infF32 rfl (by decide) _ rfl _ _ rfl w.heap.size _ k (rowF L) rfl (O1.out.alloc _) wr.heap.size 0 1 1 [.string nm, .string d] rfl rfl (two_row wr _ _ _) (by simp [Value.oneCell']) (by omega) (by omega) (Nat.le_trans B1.out.size (by simp)) ?_
               intro v' w4 hown hg _ hnl
               have O4 : Hid (w4.ownsRow w.heap.size 55 2 v' (k + 1) (rowF (L ++ [(nm, d)]))) := by show World.ownsRow _ _ _ _ _ _ _; rw [rowF_app]; exact hown
               have B4 : Hid (Below w.heap.size w w4) := BA.out.grown hg BA.out.size (fun k e => (O1.out.lt k e).1)
               have c1' := (HC.out w4 B4.out).1
               have c2' := (HC.out w4 B4.out).2
               have BB : Hid (Below w.heap.size w (w4.alloc (.cells #[.string x, .string y] 55))) := B4.out.alloc B4.out.size _
               clear hown hg hnl)
            | (at_builtin
               refine append_vals Try.underlying24 infF32 rfl (by decide) _ rfl _ _ rfl w.heap.size _ (k + 1) (rowF (L ++ [(nm, d)])) rfl (O4.out.alloc _) w4.heap.size 0 1 1 [.string x, .string y] rfl rfl (two_row w4 _ _ _) (by simp [Value.oneCell']) (by omega) (by omega) (Nat.le_trans B4.out.size (by simp)) ?_
               intro v5 w5 hown hg _ hnl
               have O5 : Hid (w5.ownsRow w.heap.size 55 2 v5 (k + 1 + 1) (rowF (L ++ [(nm, d)] ++ [(x, y)]))) := by show World.ownsRow _ _ _ _ _ _ _; rw [rowF_app (L ++ [(nm, d)])]; exact hown
               have B5 : Hid (Below w.heap.size w w5) := BB.out.grown hg BB.out.size (fun k e => (O4.out.lt k e).1)
               clear hown hg hnl))
          go_roundw
          case rel => exact ⟨i + 1, true, _, by omega, by first | rfl | go_num, rfl, HS2.out, by rw [List.length_append, List.length_append, HK.out]; exact O5.out, B5.out⟩
          case measure => simp [intOf]; omega
    · have hin : i = n := by omega
      subst hin
      have HPE2 : Hid (P = (if b then L else L ++ [(nm, d)])) := by show _ = _; rw [HPE.out, HS.out]
      cases b
      · have hP : Hid (P = L ++ [(nm, d)]) := HPE2.out
        clear HPE2 HPE HS
        go_wp2_with (
          at_builtin
          refine append_vals Try.underlying24 infF32 rfl (by decide) _ rfl _ _ rfl w.heap.size _ k (rowF L) rfl (O1.out.alloc _) wr.heap.size 0 1 1 [.string nm, .string d] rfl rfl (two_row wr _ _ _) (by simp [Value.oneCell']) (by omega) (by omega) (Nat.le_trans B1.out.size (by simp)) ?_
          intro v' w4 hown hg _ hnl
          have O4 : Hid (w4.ownsRow w.heap.size 55 2 v' (k + 1) (rowF (L ++ [(nm, d)]))) := by show World.ownsRow _ _ _ _ _ _ _; rw [rowF_app]; exact hown
          have B4 : Hid (Below w.heap.size w w4) := BA.out.grown hg BA.out.size (fun k e => (O1.out.lt k e).1)
          clear hown hg hnl)
        go_ret
        exact ⟨_, rfl, B4.out, by rw [hP.out, List.length_append, HK.out]; exact O4.out⟩
      · have hP : Hid (P = L) := HPE2.out
        clear HPE2 HPE HS
        go_wp2
        go_ret
        exact ⟨_, rfl, B1.out, by rw [hP.out, HK.out]; exact O1.out⟩

end Go.Proofs.Ytpahhhocgpohbaa

namespace Go.Proofs.Ytpahhhocgpohbaa
open Go.RowKit

theorem FilesAt.cells {w : World} {a : Option Addr} {F : List FI} (h : FilesAt w a F) : ∀ j u, (rowF F)[j]? = some u → ∃ b off, a = some ⟨b, off, none⟩ ∧ w.cell? ⟨b, off + j, none⟩ = some u := by
  intro j u hu
  have hj : j < F.length * 2 := by
    rcases Nat.lt_or_ge j (F.length * 2) with h | h
    · exact h
    · rw [List.getElem?_eq_none (by rw [rowF_len]; exact h)] at hu; cases hu
  obtain ⟨b, off, e, c1, c2⟩ := h (j / 2) (by omega)
  obtain ⟨r1, r2⟩ := rowF_at F (j / 2) (by omega)
  refine ⟨b, off, e, ?_⟩
  rcases Nat.mod_two_eq_zero_or_one j with hm | hm
  · have ej : j / 2 * 2 = j := by omega
    rw [ej] at r1 c1
    rw [c1, ← r1, hu]
  · have ej : j / 2 * 2 + 1 = j := by omega
    rw [ej] at r2
    rw [Nat.add_assoc, ej] at c2
    rw [c2, ← r2, hu]

set_option maxHeartbeats 2000000 in
theorem l12Do_any (a : Option Addr) (c : Nat) (F : List FI) (o : OP) (w : World) (hF : FilesAt w a F) (hn : F.length ≤ 1048576) (hr : RisF F) (ht : totL F ≤ 1000000000) (hd : o.d.size ≤ 1000000000) :
    Calls Try.prog 25 #[.slice a F.length c, .agg #[.int .i64 o.k, .string o.n, .string o.t, .string o.d]] w fun e w' => ∃ v, e = .returned (.tuple #[v, .bool (okF F o)]) ∧ Below w.heap.size w w' ∧ w'.ownsRow w.heap.size 55 2 v (doF F o).length (rowF (doF F o)) := by
  obtain ⟨k, nm, t, d⟩ := o
  simp only at hd ⊢
  have B0 : Hid (Below w.heap.size w (w.alloc (.cells #[.int .i64 k, .string nm, .string t, .string d] 36))) := (Below.refl _ _).alloc (Nat.le_refl _) _
  have hrow : (w.alloc (.cells #[.int .i64 k, .string nm, .string t, .string d] 36)).heap[w.heap.size]? = some (.cells #[.int .i64 k, .string nm, .string t, .string d] 36 (0, 0)) := heap_alloc_new _ _
  obtain ⟨c0, c1, c2, c3⟩ := cells4 hrow
  have HRW : Hid ((w.alloc (.cells #[.int .i64 k, .string nm, .string t, .string d] 36)).heap[w.heap.size]? = some (.cells #[.int .i64 k, .string nm, .string t, .string d] 36 (0, 0))) := hrow
  have HF : Hid (FilesAt (w.alloc (.cells #[.int .i64 k, .string nm, .string t, .string d] 36)) a F) := hF.below B0.out
  have HR : Hid (RisF F) := hr
  clear hrow hF hr
  obtain ⟨n, HN⟩ : ∃ n, Hid (F.length = n) := ⟨_, rfl⟩
  have LA : Hid (∀ W, FilesAt W a F → Calls Try.prog 40 #[.slice a n c, .string nm] W fun e w' => e = .returned (.int .i64 (atF F nm)) ∧ w' = W) := fun W h => by
    have := l12At_any a c F nm W h hn
    rw [HN.out] at this
    exact this
  have LP : Hid (∀ W nm d, FilesAt W a F → Calls Try.prog 51 #[.slice a n c, .string nm, .string d] W fun e w' => ∃ v, e = .returned v ∧ Below W.heap.size W w' ∧ w'.ownsRow W.heap.size 55 2 v (putF F nm d).length (rowF (putF F nm d))) := fun W nm d h => by
    have := l12Put_any a c F nm d W h hn HR.out
    rw [HN.out] at this
    exact this
  have LC : Hid (∀ W, FilesAt W a F → Calls Try.prog 52 #[.slice a n c, .string nm] W fun e w' => ∃ v, e = .returned v ∧ Below W.heap.size W w' ∧ w'.ownsRow W.heap.size 55 2 v (cutF F nm).length (rowF (cutF F nm))) := fun W h => by
    have := l12Cut_any a c F nm W h hn
    rw [HN.out] at this
    exact this
  rw [HN.out] at hn ⊢
  have hdat := datF_le F nm
  by_cases k1 : k = 1
  · subst k1
    have HDO : Hid (doF F ⟨1, nm, t, d⟩ = putF F nm (datF F nm ++ d)) := by show _ = _; unfold doF; rw [if_pos rfl]
    have HOK : Hid (okF F ⟨1, nm, t, d⟩ = true) := by show _ = _; unfold okF; rfl
    rw [HDO.out, HOK.out]
    rcases atF_or F nm with ⟨h1, h2, h3⟩ | ⟨i, hi, h1, h2, h3⟩
    · have hdd : datF F nm ++ d = d := by
        rw [h3]
        apply ByteArray.ext
        simp
      rw [hdd]
      go_enter Try.func25, Try.ntmps25
      go_wp2_with fail
      refine (LA.out _ HF.out).mono ?_
      rintro e w1 ⟨rfl, hw⟩
      subst hw
      rw [h1]
      go_wp2_with fail
      refine (LP.out _ nm d HF.out).mono ?_
      rintro e w2 ⟨v, rfl, hb, ho⟩
      have B2 : Hid (Below w.heap.size w w2) := B0.out.trans (hb.mono B0.out.size)
      have O2 : Hid (w2.ownsRow w.heap.size 55 2 v (putF F nm d).length (rowF (putF F nm d))) := own_bse ho B0.out.size
      clear hb ho
      go_wp2
      go_ret2
      exact ⟨v, rfl, B2.out, O2.out⟩
    · have hi' : (i : Int) < n := by rw [HN.out] at hi; omega
      obtain ⟨b, off, e, p1, p2⟩ := HF.out i hi
      subst e
      rw [h3] at hdat ⊢
      rw [HN.out] at hi
      clear p1 h2 h3
      generalize (F.getD i fi0).2 = y at *
      have hyd : (y.size : Int) + d.size ≤ 9223372036854775807 := by omega
      go_enter Try.func25, Try.ntmps25
      go_wp2_with fail
      refine (LA.out _ HF.out).mono ?_
      rintro e w1 ⟨rfl, hw⟩
      subst hw
      rw [h1]
      go_wp2_with fail
      refine (LP.out _ nm (y ++ d) HF.out).mono ?_
      rintro e w2 ⟨v, rfl, hb, ho⟩
      have B2 : Hid (Below w.heap.size w w2) := B0.out.trans (hb.mono B0.out.size)
      have O2 : Hid (w2.ownsRow w.heap.size 55 2 v (putF F nm (y ++ d)).length (rowF (putF F nm (y ++ d)))) := own_bse ho B0.out.size
      clear hb ho
      go_wp2
      go_ret2
      exact ⟨v, rfl, B2.out, O2.out⟩
  · have hk1b : (k == 1) = false := by simp [k1]
    rcases atF_or F nm with ⟨h1, h2, h3⟩ | ⟨i, hi, h1, h2, h3⟩
    · have HDO : Hid (doF F ⟨k, nm, t, d⟩ = F) := by show _ = _; unfold doF; simp only; rw [if_neg k1, h2]; rfl
      have HOK : Hid (okF F ⟨k, nm, t, d⟩ = false) := by show _ = _; unfold okF; simp only; rw [h2, decide_eq_false k1]; rfl
      rw [HDO.out, HOK.out]
      clear k1 h2 h3
      have HC : Hid (∀ W, Below w.heap.size w W → FilesAt (w.alloc (.cells #[.int .i64 k, .string nm, .string t, .string d] 36)) a F) := fun W _ => HF.out
      have BN : Hid (Below w.heap.size w ((w.alloc (.cells #[.int .i64 k, .string nm, .string t, .string d] 36)).alloc (.cells #[] 55))) := B0.out.alloc B0.out.size _
      have ON : Hid (((w.alloc (.cells #[.int .i64 k, .string nm, .string t, .string d] 36)).alloc (.cells #[] 55)).ownsRow w.heap.size 55 2 (.slice (some ⟨(w.alloc (.cells #[.int .i64 k, .string nm, .string t, .string d] 36)).heap.size, 0, none⟩) 0 0) 0 ([] : List Value)) := own_bse (own_newF _) B0.out.size
      have HFC : Hid (∀ j u, (rowF F)[j]? = some u → ∃ b off, a = some ⟨b, off, none⟩ ∧ ((w.alloc (.cells #[.int .i64 k, .string nm, .string t, .string d] 36)).alloc (.cells #[] 55)).cell? ⟨b, off + j, none⟩ = some u) := (HF.out.below ((Below.refl _ _).alloc (Nat.le_refl _) _)).cells
      go_enter Try.func25, Try.ntmps25
      go_wp2_with fail
      refine (LA.out _ HF.out).mono ?_
      rintro e w1 ⟨rfl, hw⟩
      subst hw
      rw [h1]
      generalize w.alloc (.cells #[.int .i64 k, .string nm, .string t, .string d] 36) = W0 at *
      go_wp2_with (
        at_builtin
        refine append_opt Try.underlying24 infF32 rfl (by decide) _ rfl _ _ rfl w.heap.size _ 0 [] rfl ON.out a n c (rowF F) rfl (by rw [rowF_len, HN.out]) HFC.out (rowF_one F) (by omega) (by omega) BN.out.size ?_
        intro v' w4 hown hg hbk hnl
        have O4 : Hid (w4.ownsRow w.heap.size 55 2 v' n (rowF F)) := by show World.ownsRow _ _ _ _ _ _ _; rw [List.nil_append, Nat.zero_add] at hown; exact hown
        have B4 : Hid (Below w.heap.size w w4) := BN.out.grown hg BN.out.size (fun k e => (ON.out.lt k e).1)
        clear hown hg hbk hnl)
      go_ret2
      exact ⟨_, rfl, B4.out, by rw [HN.out]; exact O4.out⟩
    · have HOK : Hid (okF F ⟨k, nm, t, d⟩ = true) := by show _ = _; unfold okF; simp only; rw [h2, Bool.or_true]
      have hi' : (i : Int) < n := by rw [HN.out] at hi; omega
      obtain ⟨b, off, e, p1, p2⟩ := HF.out i hi
      have HPC : Hid (∀ W, Below (w.alloc (.cells #[.int .i64 k, .string nm, .string t, .string d] 36)).heap.size (w.alloc (.cells #[.int .i64 k, .string nm, .string t, .string d] 36)) W → W.cell? ⟨b, off + i * 2 + 1, none⟩ = some (.string (F.getD i fi0).2) ∧ W.cell? ⟨w.heap.size, 0, none⟩ = some (.int .i64 k) ∧ W.cell? ⟨w.heap.size, 2, none⟩ = some (.string t)) := fun W hW => ⟨(hW.cell (p := ⟨b, off + i * 2 + 1, none⟩) (block_lt_of_cell p2)).trans p2, (hW.cell (p := ⟨w.heap.size, 0, none⟩) (block_lt_of_cell c0)).trans c0, (hW.cell (p := ⟨w.heap.size, 2, none⟩) (block_lt_of_cell c2)).trans c2⟩
      subst e
      have hdf := h3
      rw [HN.out] at hi
      clear p1 h3
      by_cases k2 : k = 2
      · subst k2
        have HDO : Hid (doF F ⟨2, nm, t, d⟩ = putF (cutF F nm) t (F.getD i fi0).2) := by show _ = _; unfold doF; simp only; rw [if_neg k1, h2, if_pos rfl, if_pos trivial, hdf]
        rw [HDO.out, HOK.out]
        clear k1 h2 hdf
        have hcl : (cutF F nm).length ≤ 1048576 := Nat.le_trans (cutF_len _ _) (by rw [HN.out]; exact hn)
        have hcr : Hid (RisF (cutF F nm)) := risF_cut HR.out nm
        generalize (F.getD i fi0).2 = y at *
        go_enter Try.func25, Try.ntmps25
        go_wp2_with fail
        refine (LA.out _ HF.out).mono ?_
        rintro e w1 ⟨rfl, hw⟩
        subst hw
        rw [h1]
        go_wp2_with fail
        refine (LC.out _ HF.out).mono ?_
        rintro e w2 ⟨v, rfl, hb, ho⟩
        obtain ⟨d2, d0, dt⟩ := HPC.out w2 hb
        have B2 : Hid (Below w.heap.size w w2) := B0.out.trans (hb.mono B0.out.size)
        clear hb
        obtain ⟨va, vc, rfl, hvf⟩ := own_files ho rfl
        have HVF : Hid (FilesAt w2 va (cutF F nm)) := hvf
        clear ho hvf
        have LP2 : Hid (∀ W, FilesAt W va (cutF F nm) → Calls Try.prog 51 #[.slice va (cutF F nm).length vc, .string t, .string y] W fun e w' => ∃ v, e = .returned v ∧ Below W.heap.size W w' ∧ w'.ownsRow W.heap.size 55 2 v (putF (cutF F nm) t y).length (rowF (putF (cutF F nm) t y))) := fun W h => l12Put_any va vc (cutF F nm) t y W h hcl hcr.out
        obtain ⟨P, HPF⟩ : ∃ P, Hid (putF (cutF F nm) t y = P) := ⟨_, rfl⟩
        obtain ⟨cl, HCL⟩ : ∃ cl, Hid ((cutF F nm).length = cl) := ⟨_, rfl⟩
        rw [HPF.out, HCL.out] at LP2
        rw [HCL.out]
        go_wp2_with fail
        go_region_with (first
          | (go_at_call 51
             with_reducible refine (LP2.out _ (HVF.out.below (Below.refl _ _).drew)).mono ?_
             rintro e w3 ⟨v3, rfl, hb3, ho3⟩
             have B3 : Hid (Below w.heap.size w w3) := B2.out.drew.trans (hb3.mono (Nat.le_trans B2.out.size (Nat.le_refl _)))
             have O3 : Hid (w3.ownsRow w.heap.size 55 2 v3 P.length (rowF P)) := own_bse ho3 B2.out.size
             clear hb3 ho3))
        all_goals
          go_wp2
          go_ret2
          exact ⟨_, rfl, B3.out, by rw [HPF.out]; exact O3.out⟩
      · have hk2b : (k == 2) = false := by simp [k2]
        have HDO : Hid (doF F ⟨k, nm, t, d⟩ = cutF F nm) := by show _ = _; unfold doF; simp only; rw [if_neg k1, h2, if_pos rfl, if_neg k2]
        rw [HDO.out, HOK.out]
        clear k1 k2 h2 hdf
        go_enter Try.func25, Try.ntmps25
        go_wp2_with fail
        refine (LA.out _ HF.out).mono ?_
        rintro e w1 ⟨rfl, hw⟩
        subst hw
        rw [h1]
        go_wp2_with fail
        refine (LC.out _ HF.out).mono ?_
        rintro e w2 ⟨v, rfl, hb, ho⟩
        obtain ⟨d2, d0, dt⟩ := HPC.out w2 hb
        have B2 : Hid (Below w.heap.size w w2) := B0.out.trans (hb.mono B0.out.size)
        have O2 : Hid (w2.ownsRow w.heap.size 55 2 v (cutF F nm).length (rowF (cutF F nm))) := own_bse ho B0.out.size
        clear hb ho
        go_wp2
        go_ret2
        exact ⟨v, rfl, B2.out, O2.out⟩

end Go.Proofs.Ytpahhhocgpohbaa
