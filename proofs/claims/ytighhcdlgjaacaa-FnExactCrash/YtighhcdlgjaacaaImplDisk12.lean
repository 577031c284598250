import Derived.Test.YtighhcdlgjaacaaOpsMake
import Derived.Test.YtighhcdlgjaacaaPack15
import Derived.Test.YtighhcdlgjaacaaDiskSzO
namespace Go.Proofs.Ytighhcdlgjaacaa
open Go.RowKit

set_option maxHeartbeats 2000000 in
theorem implDisk_any (la sa oa : Option Addr) (lc sc oc ln sn on : Nat) (L S : List FI) (O : List OP) (w : World) (hD : DAt w la sa oa L S O) (hK : DskOk L S O) (hLn : L.length = ln) (hSn : S.length = sn) (hOn : O.length = on) :
    Calls Try.prog 12 #[.agg #[.slice la ln lc, .slice sa sn sc, .slice oa on oc]] w fun e w' => e = .returned (.bool (dskB L S O)) ∧ Below w.heap.size w w' := by
  have HDI : Hid (dskB L S O = (filB L && (filB S && (decide (O.length ≤ 200) && endB L (runF S O O.length))))) := dskB_is L S O
  have bo := hK.on
  have LF : Hid (∀ W b, FilesAt W la L → filB L = b → Calls Try.prog 39 #[.slice la ln lc] W fun e w' => e = .returned (.bool b) ∧ Below W.heap.size W w') := fun W b h hb => by
    have h2 := hK.lt
    have := filesOk_any la lc L W h hK.ln (by rw [totTo_all]; omega) (fun j hj => shrt_at hK.ls j hj)
    rw [hLn, hb] at this
    exact this
  have SF : Hid (∀ W b, FilesAt W sa S → filB S = b → Calls Try.prog 39 #[.slice sa sn sc] W fun e w' => e = .returned (.bool b) ∧ Below W.heap.size W w') := fun W b h hb => by
    have h2 := hK.st
    have := filesOk_any sa sc S W h hK.sn (by rw [totTo_all]; omega) (fun j hj => shrt_at hK.ss j hj)
    rw [hSn, hb] at this
    exact this
  have OM : Hid (∀ W, DAt W la sa oa L S O → filB L = true → filB S = true → on ≤ 200 → Calls Try.prog 40 #[.agg #[.slice la ln lc, .slice sa sn sc, .slice oa on oc]] W fun e w' => e = .returned (.bool (endB L (runF S O O.length))) ∧ Below W.heap.size W w') := fun W h h1 h2 h3 => by
    have := opsMakeLive_any la sa oa lc sc oc L S O W h.l h.s h.o (filB_true.1 h1).1 h2 (by rw [hOn]; exact h3) hK.os
    rw [hLn, hSn, hOn] at this
    rw [hOn]
    exact this
  rw [hOn] at HDI OM bo
  obtain ⟨r, HR⟩ : ∃ r, Hid (dskB L S O = r) := ⟨_, rfl⟩
  rw [HR.out] at HDI ⊢
  have B0 : Hid (Below w.heap.size w (w.alloc (.cells #[.slice la ln lc, .slice sa sn sc, .slice oa on oc] 31))) := (Below.refl _ _).alloc (Nat.le_refl _) _
  have R0 : Hid ((w.alloc (.cells #[.slice la ln lc, .slice sa sn sc, .slice oa on oc] 31)).heap[w.heap.size]? = some (.cells #[.slice la ln lc, .slice sa sn sc, .slice oa on oc] 31 (0, 0))) := heap_alloc_new _ _
  obtain ⟨c0, c1, c2⟩ := cells3 R0.out
  have D0 : Hid (DAt (w.alloc (.cells #[.slice la ln lc, .slice sa sn sc, .slice oa on oc] 31)) la sa oa L S O) := hD.below B0.out
  clear hD hK hLn hSn hOn
  cases hfl : filB L
  · have hr : r = false := by rw [HDI.out, hfl]; rfl
    subst hr
    go_enter Try.func12, Try.ntmps12
    go_wp2_with (first
      | (go_at_call 39
         with_reducible refine (LF.out _ _ D0.out.l hfl).mono ?_
         rintro e w1 ⟨rfl, hb1⟩
         have B1 : Hid (Below w.heap.size w w1) := B0.out.trans (hb1.mono B0.out.size)
         clear hb1))
    go_ret
    exact ⟨rfl, B1.out⟩
  cases hfs : filB S
  · have hr : r = false := by rw [HDI.out, hfl, hfs]; rfl
    subst hr
    go_enter Try.func12, Try.ntmps12
    go_wp2_with (first
      | (go_at_call 39
         with_reducible refine (LF.out _ _ D0.out.l hfl).mono ?_
         rintro e w1 ⟨rfl, hb1⟩
         have B1 : Hid (Below w.heap.size w w1) := B0.out.trans (hb1.mono B0.out.size)
         have D1 : Hid (DAt w1 la sa oa L S O) := D0.out.below hb1
         obtain ⟨d0, d1, d2⟩ := cells3 (below_row hb1 (row_lt R0.out) R0.out)
         clear hb1)
      | (go_at_call 39
         with_reducible refine (SF.out w1 _ D1.out.s hfs).mono ?_
         rintro e w2 ⟨rfl, hb2⟩
         have B2 : Hid (Below w.heap.size w w2) := B1.out.trans (hb2.mono B1.out.size)
         clear hb2))
    go_ret
    exact ⟨rfl, B2.out⟩
  by_cases h200 : on ≤ 200
  · have h200' : (on : Int) ≤ 200 := by omega
    have hr : Hid (r = endB L (runF S O on)) := by show _ = _; rw [HDI.out, hfl, hfs, decide_eq_true h200]; rfl
    have OM2 : Hid (∀ W, DAt W la sa oa L S O → Calls Try.prog 40 #[.agg #[.slice la ln lc, .slice sa sn sc, .slice oa on oc]] W fun e w' => e = .returned (.bool r) ∧ Below W.heap.size W w') := fun W h => by
      rw [hr.out]
      exact OM.out W h hfl hfs h200
    clear OM HDI hr
    go_enter Try.func12, Try.ntmps12
    go_wp2_with (first
      | (go_at_call 39
         with_reducible refine (LF.out _ _ D0.out.l hfl).mono ?_
         rintro e w1 ⟨rfl, hb1⟩
         have B1 : Hid (Below w.heap.size w w1) := B0.out.trans (hb1.mono B0.out.size)
         have D1 : Hid (DAt w1 la sa oa L S O) := D0.out.below hb1
         have R1 : Hid (w1.heap[w.heap.size]? = _) := below_row hb1 (row_lt R0.out) R0.out
         obtain ⟨d0, d1, d2⟩ := cells3 R1.out
         clear hb1)
      | (go_at_call 39
         with_reducible refine (SF.out w1 _ D1.out.s hfs).mono ?_
         rintro e w2 ⟨rfl, hb2⟩
         have B2 : Hid (Below w.heap.size w w2) := B1.out.trans (hb2.mono B1.out.size)
         have D2 : Hid (DAt w2 la sa oa L S O) := D1.out.below hb2
         obtain ⟨e0, e1, e2⟩ := cells3 (below_row hb2 (row_lt R1.out) R1.out)
         clear hb2)
      | (go_at_call 40
         with_reducible refine (OM2.out w2 D2.out).mono ?_
         rintro e w3 ⟨rfl, hb3⟩
         have B3 : Hid (Below w.heap.size w w3) := B2.out.trans (hb3.mono B2.out.size)
         clear hb3))
    go_ret
    exact ⟨rfl, B3.out⟩
  · have h200' : ¬ ((on : Int) ≤ 200) := by omega
    have hr : r = false := by rw [HDI.out, hfl, hfs, decide_eq_false h200]; rfl
    subst hr
    go_enter Try.func12, Try.ntmps12
    go_wp2_with (first
      | (go_at_call 39
         with_reducible refine (LF.out _ _ D0.out.l hfl).mono ?_
         rintro e w1 ⟨rfl, hb1⟩
         have B1 : Hid (Below w.heap.size w w1) := B0.out.trans (hb1.mono B0.out.size)
         have D1 : Hid (DAt w1 la sa oa L S O) := D0.out.below hb1
         have R1 : Hid (w1.heap[w.heap.size]? = _) := below_row hb1 (row_lt R0.out) R0.out
         obtain ⟨d0, d1, d2⟩ := cells3 R1.out
         clear hb1)
      | (go_at_call 39
         with_reducible refine (SF.out w1 _ D1.out.s hfs).mono ?_
         rintro e w2 ⟨rfl, hb2⟩
         have B2 : Hid (Below w.heap.size w w2) := B1.out.trans (hb2.mono B1.out.size)
         obtain ⟨e0, e1, e2⟩ := cells3 (below_row hb2 (row_lt R1.out) R1.out)
         clear hb2))
    go_ret
    exact ⟨rfl, B2.out⟩

end Go.Proofs.Ytighhcdlgjaacaa
