import Derived.Test.YtpahhhocgpohbaaPack5
import Derived.Test.YtpahhhocgpohbaaOpsMake
import Derived.Test.YtpahhhocgpohbaaPack16
import Derived.Test.YtpahhhocgpohbaaPack17
namespace Go.Proofs.Ytpahhhocgpohbaa
open Go.RowKit

theorem entAF (args : Array Value) (W : World) : (callFunc 90 args).run Try.prog W = .ok (.enter 90 args) W := by kernel_rfl
theorem entAM (args : Array Value) (W : World) : (callFunc 91 args).run Try.prog W = .ok (.enter 91 args) W := by kernel_rfl
theorem entNF (args : Array Value) (W : World) : (callFunc 106 args).run Try.prog W = .ok (.enter 106 args) W := by kernel_rfl
theorem entNM (args : Array Value) (W : World) : (callFunc 107 args).run Try.prog W = .ok (.enter 107 args) W := by kernel_rfl
theorem entRF (args : Array Value) (W : World) : (callFunc 109 args).run Try.prog W = .ok (.enter 109 args) W := by kernel_rfl
theorem entRM (args : Array Value) (W : World) : (callFunc 110 args).run Try.prog W = .ok (.enter 110 args) W := by kernel_rfl
/-- An op of its form, whatever its kind: what it finds, what it makes. -/
theorem deed_uni (o : OP) (hf : frmB o = true) (z3 : o.d.size ≤ 1048576) : ∃ (T : TypeId) (dv : Value) (fF fM : Nat), deedV o = .iface T dv ∧
    (∀ (q : Nat) (W : World), (method (q + 1) T dv "loop.example/g00265/impl.finds").run Try.prog W = .ok (fF, dv) W) ∧
    (∀ (q : Nat) (W : World), (method (q + 1) T dv "loop.example/g00265/impl.makeOn").run Try.prog W = .ok (fM, dv) W) ∧
    (∀ (args : Array Value) (W : World), (callFunc fF args).run Try.prog W = .ok (.enter fF args) W) ∧
    (∀ (args : Array Value) (W : World), (callFunc fM args).run Try.prog W = .ok (.enter fM args) W) ∧
    (∀ (s base : Nat) (fv : Value) (S : List GR) (w : World), SH w base s fv S → S.length ≤ 500 → RisG S → Calls Try.prog fF #[dv, .pointer (some ⟨s, 0, none⟩)] w fun e w' => e = .returned (.bool (okF (keysG S) o)) ∧ Below w.heap.size w w') ∧
    (∀ (s base N : Nat) (fv : Value) (S : List GR) (w : World), SH w base s fv S → base ≤ w.heap.size → S.length ≤ 500 → RisG S → (∀ g ∈ S, g.ps.length ≤ N) → N ≤ 1000000 → totL (keysG S) ≤ 1000000000 → okF (keysG S) o = true → Calls Try.prog fM #[dv, .pointer (some ⟨s, 0, none⟩)] w fun e w' => e = .returned (.tuple #[]) ∧ MadeOn w w' base s (doF (keysG S) o) (N + 1)) := by
  obtain ⟨-, hk3, -⟩ := frm_names hf
  obtain ⟨k, n, t, d⟩ := o
  simp only at hk3 z3
  rcases hk3 with hk | hk | hk
  · subst hk
    refine ⟨_, .agg #[.string n, .string d], _, _, rfl, fun q W => methAF q _ W, fun q W => methAM q _ W, entAF, entAM, fun s base fv S w _ _ _ => ?_, fun s base N fv S w h hb hn hr hl hN ht hok => ?_⟩
    · exact appFinds_any n d s w
    · exact appMake_any n d s base N fv S w h hb (by omega) hr hl hN ht (by omega)
  · subst hk
    refine ⟨_, .agg #[.string n, .string t], _, _, rfl, fun q W => methNF q _ W, fun q W => methNM q _ W, entNF, entNM, fun s base fv S w h hn hr => ?_, fun s base N fv S w h hb hn hr hl hN ht hok => ?_⟩
    · exact renFinds_any n t s base fv S w h (by omega) hr
    · have e : doF (keysG S) ⟨2, n, t, d⟩ = putF (cutF (keysG S) n) t (datF (keysG S) n) := by
        have hh : hasF (keysG S) n = true := by unfold okF at hok; simpa using hok
        unfold doF
        simp only
        rw [if_neg (by omega), hh, if_pos rfl, if_pos trivial]
      rw [e]
      exact renMake_any n t s base N fv S w h hb (by omega) hr hl
  · subst hk
    refine ⟨_, .agg #[.string n], _, _, rfl, fun q W => methRF q _ W, fun q W => methRM q _ W, entRF, entRM, fun s base fv S w h hn hr => ?_, fun s base N fv S w h hb hn hr hl hN ht hok => ?_⟩
    · exact remFinds_any n s base fv S w h (by omega) hr
    · have e : doF (keysG S) ⟨3, n, t, d⟩ = cutF (keysG S) n := by
        have hh : hasF (keysG S) n = true := by unfold okF at hok; simpa using hok
        unfold doF
        simp only
        rw [if_neg (by omega), hh, if_pos rfl, if_neg (by omega)]
      rw [e]
      exact remMake_any n s base N fv S w h hb (by omega) hr hl

set_option maxHeartbeats 1000000 in
theorem clipOps_any (oa : Option Addr) (on oc : Nat) (w : World) (hc : on ≤ oc) (h0 : oa = none → on = 0 ∧ oc = 0) :
    Calls Try.prog 59 #[.slice oa on oc] w fun e w' => e = .returned (.slice oa on on) ∧ w' = w := by
  have hci : (on : Int) ≤ oc := by omega
  have hcn : ¬ ((oc : Int) < on) := by omega
  have h00 : (0 : Int) ≤ on := by omega
  cases oa with
  | none =>
    obtain ⟨rfl, rfl⟩ := h0 rfl
    go_enter Try.func59, Try.ntmps59
    go_wp2
    go_ret
    exact ⟨rfl, rfl⟩
  | some A =>
    clear h0
    obtain ⟨b, off, spot⟩ := A
    go_enter Try.func59, Try.ntmps59
    go_wp2
    go_ret
    exact ⟨by simp, rfl⟩

end Go.Proofs.Ytpahhhocgpohbaa

namespace Go.Proofs.Ytpahhhocgpohbaa
open Go.RowKit

set_option maxHeartbeats 2000000 in
theorem implDisk_any (la sa oa : Option Addr) (lc sc oc ln sn on : Nat) (L S : List FI) (O : List OP) (w : World) (hD : DAt w la sa oa L S O) (hK : DskOk L S O) (hLn : L.length = ln) (hSn : S.length = sn) (hOn : O.length = on) :
    Calls Try.prog 8 #[.agg #[.slice la ln lc, .slice sa sn sc, .slice oa on oc]] w fun e w' => e = .returned (.bool (dskB L S O)) ∧ Below w.heap.size w w' := by
  have HDI : Hid (dskB L S O = (filB L && (filB S && (decide (O.length ≤ 200) && endB L (runF S O O.length))))) := dskB_is L S O
  have bo := hK.on
  have LF : Hid (∀ W b, FilesAt W la L → filB L = b → Calls Try.prog 22 #[.slice la ln lc] W fun e w' => e = .returned (.bool b) ∧ Below W.heap.size W w') := fun W b h hb => by
    have h2 := hK.lt
    have := filesOk_any la lc L W h hK.ln (by rw [totTo_all]; omega) (fun j hj => shrt_at hK.ls j hj)
    rw [hLn, hb] at this
    exact this
  have SF : Hid (∀ W b, FilesAt W sa S → filB S = b → Calls Try.prog 22 #[.slice sa sn sc] W fun e w' => e = .returned (.bool b) ∧ Below W.heap.size W w') := fun W b h hb => by
    have h2 := hK.st
    have := filesOk_any sa sc S W h hK.sn (by rw [totTo_all]; omega) (fun j hj => shrt_at hK.ss j hj)
    rw [hSn, hb] at this
    exact this
  have OM : Hid (∀ W, DAt W la sa oa L S O → filB L = true → filB S = true → on ≤ 200 → Calls Try.prog 23 #[.agg #[.slice la ln lc, .slice sa sn sc, .slice oa on oc]] W fun e w' => e = .returned (.bool (endB L (runF S O O.length))) ∧ Below W.heap.size W w') := fun W h h1 h2 h3 => by
    have := opsMakeLive_any la sa oa lc sc oc L S O W h.l h.s h.o (filB_true.1 h1).1 h2 (by rw [hOn]; exact h3) hK.os
    rw [hLn, hSn, hOn] at this
    rw [hOn]
    exact this
  rw [hOn] at HDI OM bo
  obtain ⟨r, HR⟩ : ∃ r, Hid (dskB L S O = r) := ⟨_, rfl⟩
  rw [HR.out] at HDI ⊢
  have B0 : Hid (Below w.heap.size w (w.alloc (.cells #[.slice la ln lc, .slice sa sn sc, .slice oa on oc] 27))) := (Below.refl _ _).alloc (Nat.le_refl _) _
  have R0 : Hid ((w.alloc (.cells #[.slice la ln lc, .slice sa sn sc, .slice oa on oc] 27)).heap[w.heap.size]? = some (.cells #[.slice la ln lc, .slice sa sn sc, .slice oa on oc] 27 (0, 0))) := heap_alloc_new _ _
  obtain ⟨c0, c1, c2⟩ := cells3 R0.out
  have D0 : Hid (DAt (w.alloc (.cells #[.slice la ln lc, .slice sa sn sc, .slice oa on oc] 27)) la sa oa L S O) := hD.below B0.out
  clear hD hK hLn hSn hOn
  cases hfl : filB L
  · have hr : r = false := by rw [HDI.out, hfl]; rfl
    subst hr
    go_enter Try.func8, Try.ntmps8
    go_wp2_with (first
      | (go_at_call 22
         with_reducible refine (LF.out _ _ D0.out.l hfl).mono ?_
         rintro e w1 ⟨rfl, hb1⟩
         have B1 : Hid (Below w.heap.size w w1) := B0.out.trans (hb1.mono B0.out.size)
         clear hb1))
    go_ret
    exact ⟨rfl, B1.out⟩
  cases hfs : filB S
  · have hr : r = false := by rw [HDI.out, hfl, hfs]; rfl
    subst hr
    go_enter Try.func8, Try.ntmps8
    go_wp2_with (first
      | (go_at_call 22
         with_reducible refine (LF.out _ _ D0.out.l hfl).mono ?_
         rintro e w1 ⟨rfl, hb1⟩
         have B1 : Hid (Below w.heap.size w w1) := B0.out.trans (hb1.mono B0.out.size)
         have D1 : Hid (DAt w1 la sa oa L S O) := D0.out.below hb1
         obtain ⟨d0, d1, d2⟩ := cells3 (below_row hb1 (row_lt R0.out) R0.out)
         clear hb1)
      | (go_at_call 22
         with_reducible refine (SF.out w1 _ D1.out.s hfs).mono ?_
         rintro e w2 ⟨rfl, hb2⟩
         have B2 : Hid (Below w.heap.size w w2) := B1.out.trans (hb2.mono B1.out.size)
         clear hb2))
    go_ret
    exact ⟨rfl, B2.out⟩
  by_cases h200 : on ≤ 200
  · have h200' : (on : Int) ≤ 200 := by omega
    have hr : Hid (r = endB L (runF S O on)) := by show _ = _; rw [HDI.out, hfl, hfs, decide_eq_true h200]; rfl
    have OM2 : Hid (∀ W, DAt W la sa oa L S O → Calls Try.prog 23 #[.agg #[.slice la ln lc, .slice sa sn sc, .slice oa on oc]] W fun e w' => e = .returned (.bool r) ∧ Below W.heap.size W w') := fun W h => by
      rw [hr.out]
      exact OM.out W h hfl hfs h200
    clear OM HDI hr
    go_enter Try.func8, Try.ntmps8
    go_wp2_with (first
      | (go_at_call 22
         with_reducible refine (LF.out _ _ D0.out.l hfl).mono ?_
         rintro e w1 ⟨rfl, hb1⟩
         have B1 : Hid (Below w.heap.size w w1) := B0.out.trans (hb1.mono B0.out.size)
         have D1 : Hid (DAt w1 la sa oa L S O) := D0.out.below hb1
         have R1 : Hid (w1.heap[w.heap.size]? = _) := below_row hb1 (row_lt R0.out) R0.out
         obtain ⟨d0, d1, d2⟩ := cells3 R1.out
         clear hb1)
      | (go_at_call 22
         with_reducible refine (SF.out w1 _ D1.out.s hfs).mono ?_
         rintro e w2 ⟨rfl, hb2⟩
         have B2 : Hid (Below w.heap.size w w2) := B1.out.trans (hb2.mono B1.out.size)
         have D2 : Hid (DAt w2 la sa oa L S O) := D1.out.below hb2
         obtain ⟨e0, e1, e2⟩ := cells3 (below_row hb2 (row_lt R1.out) R1.out)
         clear hb2)
      | (go_at_call 23
         with_reducible refine (OM2.out w2 D2.out).mono ?_
         rintro e w3 ⟨rfl, hb3⟩
         have B3 : Hid (Below w.heap.size w w3) := B2.out.trans (hb3.mono B2.out.size)
         clear hb3))
    go_ret
    exact ⟨rfl, B3.out⟩
  · have h200' : ¬ ((on : Int) ≤ 200) := by omega
    have hr : r = false := by rw [HDI.out, hfl, hfs, decide_eq_false h200]; rfl
    subst hr
    go_enter Try.func8, Try.ntmps8
    go_wp2_with (first
      | (go_at_call 22
         with_reducible refine (LF.out _ _ D0.out.l hfl).mono ?_
         rintro e w1 ⟨rfl, hb1⟩
         have B1 : Hid (Below w.heap.size w w1) := B0.out.trans (hb1.mono B0.out.size)
         have D1 : Hid (DAt w1 la sa oa L S O) := D0.out.below hb1
         have R1 : Hid (w1.heap[w.heap.size]? = _) := below_row hb1 (row_lt R0.out) R0.out
         obtain ⟨d0, d1, d2⟩ := cells3 R1.out
         clear hb1)
      | (go_at_call 22
         with_reducible refine (SF.out w1 _ D1.out.s hfs).mono ?_
         rintro e w2 ⟨rfl, hb2⟩
         have B2 : Hid (Below w.heap.size w w2) := B1.out.trans (hb2.mono B1.out.size)
         obtain ⟨e0, e1, e2⟩ := cells3 (below_row hb2 (row_lt R1.out) R1.out)
         clear hb2))
    go_ret
    exact ⟨rfl, B2.out⟩

end Go.Proofs.Ytpahhhocgpohbaa

namespace Go.Proofs.Ytpahhhocgpohbaa
open Go.RowKit

/-- What a file's place tells, with its name. -/
theorem atF_name (F : List FI) (n : ByteArray) : (hasF F n = false ∧ datF F n = ⟨#[]⟩ ∧ ∀ j, j < F.length → (F.getD j fi0).1 ≠ n) ∨ ∃ i : Nat, i < F.length ∧ hasF F n = true ∧ datF F n = (F.getD i fi0).2 ∧ (F.getD i fi0).1 = n ∧ ∀ j, j < i → (F.getD j fi0).1 ≠ n := by
  induction F with
  | nil => exact .inl ⟨rfl, rfl, fun j hj => by simp at hj⟩
  | cons f G ih =>
    by_cases e : f.1 = n
    · exact .inr ⟨0, by simp, by simp [hasF, e], by simp [datF, e], by simpa using e, fun j hj => by omega⟩
    · rcases ih with ⟨h1, h2, h3⟩ | ⟨i, h0, h1, h2, h3, h4⟩
      · refine .inl ⟨by simpa [hasF, e] using h1, by simpa [datF, e] using h2, fun j hj => ?_⟩
        cases j with
        | zero => simpa using e
        | succ j => simpa using h3 j (by simpa using hj)
      · refine .inr ⟨i + 1, by simpa using h0, by simpa [hasF, e] using h1, by simpa [datF, e] using h2, by simpa using h3, fun j hj => ?_⟩
        cases j with
        | zero => simpa using e
        | succ j => simpa using h4 j (by omega)

set_option maxHeartbeats 1000000 in
theorem fileOf_any (la sa oa : Option Addr) (lc sc oc ln sn on : Nat) (L : List FI) (nm : ByteArray) (w : World) (hL : FilesAt w la L) (hLn : L.length = ln) (bl : ln ≤ 1048576) :
    Calls Try.prog 36 #[.agg #[.slice la ln lc, .slice sa sn sc, .slice oa on oc], .string nm] w fun e w' => e = .returned (.tuple #[.string (datF L nm), .bool (hasF L nm)]) ∧ Below w.heap.size w w' := by
  have B0 : Hid (Below w.heap.size w (w.alloc (.cells #[.slice la ln lc, .slice sa sn sc, .slice oa on oc] 27))) := (Below.refl _ _).alloc (Nat.le_refl _) _
  have HL : Hid (FilesAt w la L) := hL
  have HN : Hid (L.length = ln) := hLn
  have HV : Hid ((hasF L nm = false ∧ datF L nm = ⟨#[]⟩ ∧ ∀ j, j < L.length → (L.getD j fi0).1 ≠ nm) ∨ ∃ i : Nat, i < L.length ∧ hasF L nm = true ∧ datF L nm = (L.getD i fi0).2 ∧ (L.getD i fi0).1 = nm ∧ ∀ j, j < i → (L.getD j fi0).1 ≠ nm) := atF_name L nm
  clear hL hLn
  obtain ⟨dv, HDV⟩ : ∃ d, Hid (datF L nm = d) := ⟨_, rfl⟩
  obtain ⟨hv, HHV⟩ : ∃ d, Hid (hasF L nm = d) := ⟨_, rfl⟩
  rw [HDV.out, HHV.out] at HV ⊢
  go_enter Try.func36, Try.ntmps36
  go_wp2_with fail
  go_loopw [11] (fun ti wr => ∃ i : Nat, i ≤ ln ∧ ti = .int .i64 i ∧ (∀ j, j < i → (L.getD j fi0).1 ≠ nm) ∧ Below w.heap.size w wr) (fun ti _ => ln - (intOf ti).toNat)
  case atStart => exact ⟨0, Nat.zero_le _, rfl, fun j hj => by omega, B0.out⟩
  case round =>
    obtain ⟨i, hi, rfl, hno, hb⟩ := hrel
    have HNO : Hid (∀ j, j < i → (L.getD j fi0).1 ≠ nm) := hno
    have B1 : Hid (Below w.heap.size w wr) := hb
    clear hno hb
    by_cases hlt : i < ln
    · have hin : (i : Int) < ln := by omega
      have hiF : i < L.length := by rw [HN.out]; exact hlt
      obtain ⟨b, off, e, c1, c2⟩ := (HL.out.below B1.out) i hiF
      subst e
      have HY : Hid ((L.getD i fi0).1 = nm → dv = (L.getD i fi0).2 ∧ hv = true) := fun h => by
        rcases HV.out with ⟨-, -, h3⟩ | ⟨k, hk, h1, h2, h3, h4⟩
        · exact absurd h (h3 i hiF)
        · have : k = i := by
            rcases Nat.lt_trichotomy k i with h5 | h5 | h5
            · exact absurd h3 (HNO.out k h5)
            · exact h5
            · exact absurd h (h4 i h5)
          subst this
          exact ⟨h2, h1⟩
      have HS : Hid ((L.getD i fi0).1 ≠ nm → ∀ j, j < i + 1 → (L.getD j fi0).1 ≠ nm) := fun h j hj => by
        by_cases e : j = i
        · rw [e]; exact h
        · exact HNO.out j (by omega)
      generalize L.getD i fi0 = f at *
      obtain ⟨x, y⟩ := f
      simp only at c1 c2 HY HS
      have B2 : Hid (Below w.heap.size w (wr.alloc (.cells #[.string x, .string y] 55))) := B1.out.alloc B1.out.size _
      by_cases he : x = nm
      · obtain ⟨h1, h2⟩ := HY.out he
        subst h1 h2
        have heb := str_eq he
        clear he HY HS
        go_wp2
        go_ret2
        exact ⟨rfl, B2.out⟩
      · have heb := str_ne he
        have HS2 : Hid (∀ j, j < i + 1 → (L.getD j fi0).1 ≠ nm) := HS.out he
        clear he HY HS
        go_wp2
        go_roundw
        case rel => exact ⟨i + 1, by omega, by first | rfl | go_num, HS2.out, B2.out⟩
        case measure => simp [intOf]; omega
    · have hin : ¬ ((i : Int) < ln) := by omega
      have hE : dv = ⟨#[]⟩ ∧ hv = false := by
        rcases HV.out with ⟨h1, h2, -⟩ | ⟨k, hk, -, -, h3, -⟩
        · exact ⟨h2, h1⟩
        · exact absurd h3 (HNO.out k (by rw [HN.out] at hk; omega))
      obtain ⟨h1, h2⟩ := hE
      subst h1 h2
      go_wp2
      go_ret2
      exact ⟨rfl, B1.out⟩
/-- What is read of a file. -/
def rdD (L S : List FI) (O : List OP) (n : ByteArray) : ByteArray := if dskB L S O then datF L n else ⟨#[]⟩
def rdB (L S : List FI) (O : List OP) (n : ByteArray) : Bool := dskB L S O && hasF L n

set_option maxHeartbeats 1000000 in
theorem implRead_any (la sa oa : Option Addr) (lc sc oc ln sn on : Nat) (L S : List FI) (O : List OP) (nm : ByteArray) (w : World) (hD : DAt w la sa oa L S O) (hK : DskOk L S O) (hLn : L.length = ln) (hSn : S.length = sn) (hOn : O.length = on) :
    Calls Try.prog 16 #[.agg #[.slice la ln lc, .slice sa sn sc, .slice oa on oc], .string nm] w fun e w' => e = .returned (.tuple #[.string (rdD L S O nm), .bool (rdB L S O nm)]) ∧ Below w.heap.size w w' := by
  have B0 : Hid (Below w.heap.size w (w.alloc (.cells #[.slice la ln lc, .slice sa sn sc, .slice oa on oc] 27))) := (Below.refl _ _).alloc (Nat.le_refl _) _
  have R0 : Hid ((w.alloc (.cells #[.slice la ln lc, .slice sa sn sc, .slice oa on oc] 27)).heap[w.heap.size]? = some (.cells #[.slice la ln lc, .slice sa sn sc, .slice oa on oc] 27 (0, 0))) := heap_alloc_new _ _
  obtain ⟨c0, c1, c2⟩ := cells3 R0.out
  have bl := hK.ln
  have ID : Hid (∀ W, Below w.heap.size w W → Calls Try.prog 8 #[.agg #[.slice la ln lc, .slice sa sn sc, .slice oa on oc]] W fun e w' => e = .returned (.bool (dskB L S O)) ∧ Below W.heap.size W w') := fun W hW => implDisk_any la sa oa lc sc oc ln sn on L S O W (hD.below hW) hK hLn hSn hOn
  have FO : Hid (∀ W, Below w.heap.size w W → Calls Try.prog 36 #[.agg #[.slice la ln lc, .slice sa sn sc, .slice oa on oc], .string nm] W fun e w' => e = .returned (.tuple #[.string (datF L nm), .bool (hasF L nm)]) ∧ Below W.heap.size W w') := fun W hW => fileOf_any la sa oa lc sc oc ln sn on L nm W (hD.l.below hW) hLn (by omega)
  unfold rdD rdB
  clear hD hK
  cases hd : dskB L S O
  · rw [hd] at ID
    go_enter Try.func16, Try.ntmps16
    go_wp2_with fail
    refine (ID.out _ B0.out).mono ?_
    rintro e w1 ⟨rfl, hb1⟩
    have B1 : Hid (Below w.heap.size w w1) := B0.out.trans (hb1.mono B0.out.size)
    clear hb1
    go_wp2
    go_ret2
    exact ⟨rfl, B1.out⟩
  · rw [hd] at ID
    rw [if_pos rfl, Bool.true_and]
    obtain ⟨dv, HDV⟩ : ∃ d, Hid (datF L nm = d) := ⟨_, rfl⟩
    obtain ⟨hv, HHV⟩ : ∃ d, Hid (hasF L nm = d) := ⟨_, rfl⟩
    rw [HDV.out, HHV.out] at FO ⊢
    go_enter Try.func16, Try.ntmps16
    go_wp2_with fail
    refine (ID.out _ B0.out).mono ?_
    rintro e w1 ⟨rfl, hb1⟩
    have B1 : Hid (Below w.heap.size w w1) := B0.out.trans (hb1.mono B0.out.size)
    obtain ⟨d0, d1, d2⟩ := cells3 (below_row hb1 (row_lt R0.out) R0.out)
    clear hb1 c0 c1 c2
    go_wp2_with fail
    refine (FO.out w1 B1.out).mono ?_
    rintro e w2 ⟨rfl, hb2⟩
    have B2 : Hid (Below w.heap.size w w2) := B1.out.trans (hb2.mono B1.out.size)
    clear hb2
    go_wp2
    go_ret2
    exact ⟨rfl, B2.out⟩


end Go.Proofs.Ytpahhhocgpohbaa

namespace Go.Proofs.Ytpahhhocgpohbaa
open Go.RowKit

set_option maxHeartbeats 4000000 in
set_option maxRecDepth 20000 in
theorem replacing_any (n d : ByteArray) (hn : n.size ≤ 1048576) (la sa oa : Option Addr) (lc sc oc ln sn on rn : Nat) (L : List FI) (w : World) (hL : FilesAt w la L) (hLn : L.length = ln) (bl : ln ≤ 1048576) (hr : (repO L n d).length = rn) :
    Calls Try.prog 39 #[.agg #[.slice la ln lc, .slice sa sn sc, .slice oa on oc], .string n, .string d] w fun e w' => ∃ a c, e = .returned (.slice a rn c) ∧ Below w.heap.size w w' ∧ w'.ownsRow w.heap.size 36 4 (.slice a rn c) rn (rowO (repO L n d)) := by
  have B0 : Hid (Below w.heap.size w (w.alloc (.cells #[.slice la ln lc, .slice sa sn sc, .slice oa on oc] 27))) := (Below.refl _ _).alloc (Nat.le_refl _) _
  have R0 : Hid ((w.alloc (.cells #[.slice la ln lc, .slice sa sn sc, .slice oa on oc] 27)).heap[w.heap.size]? = some (.cells #[.slice la ln lc, .slice sa sn sc, .slice oa on oc] 27 (0, 0))) := heap_alloc_new _ _
  obtain ⟨c0, c1, c2⟩ := cells3 R0.out
  have B1 : Hid (Below w.heap.size w ((w.alloc (.cells #[.slice la ln lc, .slice sa sn sc, .slice oa on oc] 27)).alloc (.cells #[.int .i64 1, .string (n ++ ⟨#[46, 110, 101, 119]⟩), .string ⟨#[]⟩, .string d, .int .i64 2, .string (n ++ ⟨#[46, 110, 101, 119]⟩), .string n, .string ⟨#[]⟩] 36))) := B0.out.alloc B0.out.size _
  have R1 : Hid (((w.alloc (.cells #[.slice la ln lc, .slice sa sn sc, .slice oa on oc] 27)).alloc (.cells #[.int .i64 1, .string (n ++ ⟨#[46, 110, 101, 119]⟩), .string ⟨#[]⟩, .string d, .int .i64 2, .string (n ++ ⟨#[46, 110, 101, 119]⟩), .string n, .string ⟨#[]⟩] 36)).heap[w.heap.size + 1]? = some (.cells #[.int .i64 1, .string (n ++ ⟨#[46, 110, 101, 119]⟩), .string ⟨#[]⟩, .string d, .int .i64 2, .string (n ++ ⟨#[46, 110, 101, 119]⟩), .string n, .string ⟨#[]⟩] 36 (0, 0))) := heap_alloc2_new _ _ _
  have O1 : Hid (((w.alloc (.cells #[.slice la ln lc, .slice sa sn sc, .slice oa on oc] 27)).alloc (.cells #[.int .i64 1, .string (n ++ ⟨#[46, 110, 101, 119]⟩), .string ⟨#[]⟩, .string d, .int .i64 2, .string (n ++ ⟨#[46, 110, 101, 119]⟩), .string n, .string ⟨#[]⟩] 36)).ownsRow w.heap.size 36 4 (.slice (some ⟨w.heap.size + 1, 0, none⟩) 2 2) 2 (rowO [⟨1, dft n, ⟨#[]⟩, d⟩, ⟨2, dft n, n, ⟨#[]⟩⟩])) := ⟨rfl, .inr ⟨w.heap.size + 1, 2, #[.int .i64 1, .string (n ++ ⟨#[46, 110, 101, 119]⟩), .string ⟨#[]⟩, .string d, .int .i64 2, .string (n ++ ⟨#[46, 110, 101, 119]⟩), .string n, .string ⟨#[]⟩], rfl, by omega, R1.out, Nat.le_refl _, by unfold maxLen; omega, rfl, rfl⟩⟩
  have FO : Hid (∀ W, Below w.heap.size w W → ∀ b, hasF L (dft n) = b → Calls Try.prog 36 #[.agg #[.slice la ln lc, .slice sa sn sc, .slice oa on oc], .string (n ++ ⟨#[46, 110, 101, 119]⟩)] W fun e w' => e = .returned (.tuple #[.string (datF L (dft n)), .bool b]) ∧ Below W.heap.size W w') := fun W hW b hb => by
    rw [← hb]
    exact fileOf_any la sa oa lc sc oc ln sn on L (dft n) W (hL.below hW) hLn bl
  have IN : Hid (∀ (W : World) vb, W.ownsRow w.heap.size 36 4 (.slice (some ⟨w.heap.size + 1, 0, none⟩) 2 2) 2 (rowO [⟨1, dft n, ⟨#[]⟩, d⟩, ⟨2, dft n, n, ⟨#[]⟩⟩]) → w.heap.size + 1 < vb → w.heap.size ≤ W.heap.size → W.heap[vb]? = some (.cells #[.int .i64 3, .string (n ++ ⟨#[46, 110, 101, 119]⟩), .string ⟨#[]⟩, .string ⟨#[]⟩] 36 (0, 0)) → Calls Try.prog 60 #[.slice (some ⟨w.heap.size + 1, 0, none⟩) 2 2, .int .i64 0, .slice (some ⟨vb, 0, none⟩) 1 1] W fun e w' => ∃ a c, e = .returned (.slice a 3 c) ∧ Below w.heap.size W w' ∧ w'.ownsRow w.heap.size 36 4 (.slice a 3 c) 3 (rowO [⟨3, dft n, ⟨#[]⟩, ⟨#[]⟩⟩, ⟨1, dft n, ⟨#[]⟩, d⟩, ⟨2, dft n, n, ⟨#[]⟩⟩])) := fun W vb ho hlt hbw hr => by
    refine (insertO _ 0 vb w.heap.size 2 _ [.int .i64 3, .string (n ++ ⟨#[46, 110, 101, 119]⟩), .string ⟨#[]⟩, .string ⟨#[]⟩] W rfl rfl (rowO_one _) (by simp [Value.oneCell']) ho hbw hr (fun e => by have : w.heap.size + 1 = vb := Option.some.inj e; omega) (by omega) (by omega)).mono ?_
    rintro e w' ⟨sl, rfl, hg, hown⟩
    obtain ⟨a, c, rfl⟩ := own_anyV hown
    exact ⟨a, c, rfl, ⟨hg.os, hg.tape, hg.output, hg.size, fun k hk => hg.block k (by omega) (fun e => by have : k = w.heap.size + 1 := Option.some.inj e; omega)⟩, hown⟩
  clear hL hLn
  cases hh : hasF L (dft n)
  · have e0 : repO L n d = [⟨1, dft n, ⟨#[]⟩, d⟩, ⟨2, dft n, n, ⟨#[]⟩⟩] := by unfold repO; rw [hh]; rfl
    rw [e0] at hr ⊢
    have hr : 2 = rn := hr
    subst hr
    clear e0
    go_enter Try.func39, Try.ntmps39
    go_wp2_with fail
    refine (FO.out _ B1.out _ hh).mono ?_
    rintro e w2 ⟨rfl, hb2⟩
    have B2 : Hid (Below w.heap.size w w2) := B1.out.trans (hb2.mono B1.out.size)
    have O2 : Hid (w2.ownsRow w.heap.size 36 4 (.slice (some ⟨w.heap.size + 1, 0, none⟩) 2 2) 2 (rowO [⟨1, dft n, ⟨#[]⟩, d⟩, ⟨2, dft n, n, ⟨#[]⟩⟩])) := own_blw O1.out hb2
    clear hb2 c0 c1 c2
    go_wp2
    go_ret
    exact ⟨_, _, rfl, B2.out, O2.out⟩
  have e0 : repO L n d = [⟨3, dft n, ⟨#[]⟩, ⟨#[]⟩⟩, ⟨1, dft n, ⟨#[]⟩, d⟩, ⟨2, dft n, n, ⟨#[]⟩⟩] := by unfold repO; rw [hh]; rfl
  rw [e0] at hr ⊢
  have hr : 3 = rn := hr
  subst hr
  clear e0
  go_enter Try.func39, Try.ntmps39
  go_wp2_with fail
  refine (FO.out _ B1.out _ hh).mono ?_
  rintro e w2 ⟨rfl, hb2⟩
  have B2 : Hid (Below w.heap.size w w2) := B1.out.trans (hb2.mono B1.out.size)
  have hlt : Hid (w.heap.size + 1 < w2.heap.size) := Nat.lt_of_lt_of_le (row_lt R1.out) hb2.size
  have B3 : Hid (Below w.heap.size w (w2.alloc (.cells #[.int .i64 3, .string (n ++ ⟨#[46, 110, 101, 119]⟩), .string ⟨#[]⟩, .string ⟨#[]⟩] 36))) := B2.out.alloc B2.out.size _
  have O3 : Hid ((w2.alloc (.cells #[.int .i64 3, .string (n ++ ⟨#[46, 110, 101, 119]⟩), .string ⟨#[]⟩, .string ⟨#[]⟩] 36)).ownsRow w.heap.size 36 4 (.slice (some ⟨w.heap.size + 1, 0, none⟩) 2 2) 2 (rowO [⟨1, dft n, ⟨#[]⟩, d⟩, ⟨2, dft n, n, ⟨#[]⟩⟩])) := own_blw (own_blw O1.out hb2) ((Below.refl _ _).alloc (Nat.le_refl _) _)
  clear hb2 c0 c1 c2
  go_wp2_with fail
  refine (IN.out _ _ O3.out hlt.out B3.out.size (heap_alloc_new _ _)).mono ?_
  rintro e w4 ⟨a, c, rfl, hb4, hown⟩
  have B4 : Hid (Below w.heap.size w w4) := B3.out.trans hb4
  have O4 : Hid (w4.ownsRow w.heap.size 36 4 (.slice a 3 c) 3 (rowO [⟨3, dft n, ⟨#[]⟩, ⟨#[]⟩⟩, ⟨1, dft n, ⟨#[]⟩, d⟩, ⟨2, dft n, n, ⟨#[]⟩⟩])) := hown
  clear hb4 hown
  go_wp2
  go_ret
  exact ⟨_, _, rfl, B4.out, O4.out⟩

end Go.Proofs.Ytpahhhocgpohbaa
