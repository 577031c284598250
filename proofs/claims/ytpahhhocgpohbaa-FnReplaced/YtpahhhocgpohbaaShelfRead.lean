import Derived.Test.YtpahhhocgpohbaaPack6
import Derived.Test.YtpahhhocgpohbaaPack11
import Derived.Test.YtpahhhocgpohbaaJoinLay
namespace Go.Proofs.Ytpahhhocgpohbaa
open Go.RowKit

theorem join_flat : ∀ L : List (List UInt8), Lib.join L [] = L.flatten
  | [] => rfl
  | x :: r => by
    rw [Lib.join_cons, List.flatten_cons]
    congr 1
    unfold Lib.joinTail
    congr 1
    simp
theorem jn_join (ps : List ByteArray) : (⟨(Lib.join (ps.map (fun p => p.data.toList)) (ByteArray.mk #[]).data.toList).toArray⟩ : ByteArray) = jn ps := by
  rw [show (ByteArray.mk #[]).data.toList = [] from rfl, join_flat]
  rfl
theorem jn_size (ps : List ByteArray) : (Lib.join (ps.map (fun p => p.data.toList)) (ByteArray.mk #[]).data.toList).length = (jn ps).size := by
  rw [← jn_join]
  rfl
theorem joinP_any (g : GR) (base : Nat) (w : World) (hp : OwnP w base g) (hs : (jn g.ps).size ≤ 1000000000) (hl : g.ps.length ≤ 1000000000) :
    Calls Try.prog 62 #[.slice g.a g.ps.length g.c, .string ⟨#[]⟩] w fun e w' => e = .returned (.string (jn g.ps)) ∧ Below w.heap.size w w' := by
  rcases own_kinds hp with ⟨e, h0⟩ | ⟨b, c, e, -, hb⟩
  · have hps : g.ps = [] := List.eq_nil_of_length_eq_zero h0
    rw [hps]
    refine (Try.strings_Join_none g.a g.c ⟨#[]⟩ w).mono ?_
    rintro e w' ⟨rfl, hw⟩
    exact ⟨rfl, hw ▸ Below.refl _ _⟩
  · have hp2 := hp
    unfold OwnP at hp2
    rw [e] at hp2 ⊢
    have hcap := own_capg hp2
    have := Try.strings_Join b 0 c g.ps ⟨#[]⟩ w (fun j x hj => by
      rw [Nat.zero_add]
      exact (own_cellV hp2 (k := j) (by rw [List.getElem?_map, hj]; rfl)).1) hb (by omega) hcap (by rw [jn_size]; omega)
    rw [jn_join] at this
    exact this
theorem keys_getD (S : List GR) (i : Nat) (hi : i < S.length) : (keysG S).getD i fi0 = (S.getD i gr0).key := by
  rw [getD_elem hi, List.getD_eq_getElem?_getD]
  simp [keysG, hi]

set_option maxHeartbeats 2000000 in
/-- Whether what is on a shelf has room. -/
theorem fits_any (s base : Nat) (fv : Value) (S : List GR) (w : World) (h : SH w base s fv S) (hn : S.length ≤ 1048576) (ht : totL (keysG S) ≤ 1000000000) :
    Calls Try.prog 47 #[.pointer (some ⟨s, 0, none⟩)] w fun e w' => e = .returned (.bool (decide (S.length ≤ 60) && decide (totL (keysG S) ≤ 200000))) ∧ Below w.heap.size w w' := by
  have HRW : Hid (w.heap[s]? = some (.cells #[fv] 88 (0, 0))) := h.row
  have HZ : Hid (∀ g ∈ S, g.sz = (jn g.ps).size) := h.sz
  obtain ⟨ra, rc, rfl, hG⟩ := own_grows h.r rfl
  have HG : Hid (GrowAt w ra S) := hG
  clear h hG
  obtain ⟨n, HN⟩ : ∃ n, Hid (S.length = n) := ⟨_, rfl⟩
  have HTA : Hid (totTo (keysG S) n = totL (keysG S)) := by show _ = _; rw [← HN.out, ← keys_len, totTo_all]
  rw [← HTA.out] at ht ⊢
  rw [HN.out] at hn ⊢ HRW
  obtain ⟨c0, -⟩ := cell1 HRW.out
  obtain ⟨r, HR⟩ : ∃ r, Hid ((decide (n ≤ 60) && decide (totTo (keysG S) n ≤ 200000)) = r) := ⟨_, rfl⟩
  rw [HR.out]
  go_enter Try.func47, Try.ntmps47
  go_wp2_with fail
  go_loopw [3, 11] (fun tn ti wr => ∃ i : Nat, i ≤ n ∧ ti = .int .i64 i ∧ tn = .int .i64 (totTo (keysG S) i : Nat) ∧ Below w.heap.size w wr) (fun _ ti _ => n - (intOf ti).toNat)
  case atStart => exact ⟨0, Nat.zero_le _, rfl, rfl, Below.refl _ _⟩
  case round =>
    clear c0
    obtain ⟨i, hi, rfl, rfl, hb⟩ := hrel
    have B1 : Hid (Below w.heap.size w wr) := hb
    clear hb
    have hti : totTo (keysG S) i ≤ 1000000000 := Nat.le_trans (totTo_le _ hi) ht
    by_cases hlt : i < n
    · have hin : (i : Int) < n := by omega
      have hiS : i < S.length := by rw [HN.out]; exact hlt
      obtain ⟨b, off, e, c1, c2, c3⟩ := (HG.out.below B1.out) i hiS
      subst e
      have ht1 : totTo (keysG S) (i + 1) ≤ 1000000000 := Nat.le_trans (totTo_le _ hlt) ht
      have HT1 : Hid (totTo (keysG S) (i + 1) = totTo (keysG S) i + (jn (S.getD i gr0).ps).size) := by show _ = _; rw [totTo, keys_getD S i hiS]; rfl
      rw [HT1.out] at ht1
      rw [HZ.out _ (getD_mem hiS)] at c3
      generalize S.getD i gr0 = g at *
      generalize (jn g.ps).size = z at *
      generalize totTo (keysG S) i = t at *
      obtain ⟨gl, HGL⟩ : ∃ l, Hid (g.ps.length = l) := ⟨_, rfl⟩
      rw [HGL.out] at c2
      have B2 : Hid (Below w.heap.size w (wr.alloc (.cells #[.string g.n, .slice g.a gl g.c, .int .i64 z] 90))) := B1.out.alloc B1.out.size _
      go_wp2
      go_roundw
      case rel => exact ⟨i + 1, by omega, by first | rfl | go_num, by rw [HT1.out]; first | rfl | go_num, B2.out⟩
      case measure => simp [intOf]; omega
    · have hin : i = n := by omega
      subst hin
      obtain ⟨c0, -⟩ := cell1 (below_row B1.out (row_lt HRW.out) HRW.out)
      generalize totTo (keysG S) i = t at *
      by_cases h60 : i ≤ 60
      · have h60' : (i : Int) ≤ 60 := by omega
        have hr : Hid (r = decide (t ≤ 200000)) := by show _ = _; rw [← HR.out, decide_eq_true h60, Bool.true_and]
        clear HR
        go_wp2
        go_ret
        exact ⟨by rw [hr.out]; simp; omega, B1.out⟩
      · have h60' : ¬ ((i : Int) ≤ 60) := by omega
        have hr : r = false := by rw [← HR.out, decide_eq_false h60, Bool.false_and]
        subst hr
        go_wp2
        go_ret
        exact ⟨rfl, B1.out⟩

set_option maxHeartbeats 4000000 in
set_option maxRecDepth 20000 in
/-- The files of a shelf, put together. -/
theorem list_any (s base : Nat) (fv : Value) (S : List GR) (w : World) (h : SH w base s fv S) (hn : S.length ≤ 1048576) (ht : totL (keysG S) ≤ 1000000000) (hl : ∀ g ∈ S, g.ps.length ≤ 1000000000) :
    Calls Try.prog 49 #[.pointer (some ⟨s, 0, none⟩)] w fun e w' => ∃ v, e = .returned v ∧ Below w.heap.size w w' ∧ w'.ownsRow w.heap.size 55 2 v S.length (rowF (keysG S)) := by
  have HRW : Hid (w.heap[s]? = some (.cells #[fv] 88 (0, 0))) := h.row
  have HPP : Hid (∀ g ∈ S, OwnP w base g) := h.p
  have HL : Hid (∀ g ∈ S, g.ps.length ≤ 1000000000) := hl
  obtain ⟨ra, rc, rfl, hG⟩ := own_grows h.r rfl
  have HG : Hid (GrowAt w ra S) := hG
  clear h hG hl
  obtain ⟨n, HN⟩ : ∃ n, Hid (S.length = n) := ⟨_, rfl⟩
  rw [HN.out] at hn ⊢ HRW
  obtain ⟨c0, -⟩ := cell1 HRW.out
  go_enter Try.func49, Try.ntmps49
  go_wp2_with fail
  go_loopw [3, 11] (fun tl ti wr => ∃ i : Nat, i ≤ n ∧ ti = .int .i64 i ∧ wr.ownsRow w.heap.size 55 2 tl i (rowF ((keysG S).take i)) ∧ Below w.heap.size w wr) (fun _ ti _ => n - (intOf ti).toNat)
  case atStart => exact ⟨0, Nat.zero_le _, rfl, ⟨rfl, .inl ⟨rfl, rfl⟩⟩, Below.refl _ _⟩
  case round =>
    clear c0
    obtain ⟨i, hi, rfl, ho, hb⟩ := hrel
    have O1 : Hid (wr.ownsRow w.heap.size 55 2 u3 i (rowF ((keysG S).take i))) := ho
    have B1 : Hid (Below w.heap.size w wr) := hb
    clear ho hb
    by_cases hlt : i < n
    · have hin : (i : Int) < n := by omega
      have hiS : i < S.length := by rw [HN.out]; exact hlt
      obtain ⟨b, off, e, c1, c2, c3⟩ := (HG.out.below B1.out) i hiS
      subst e
      have HTK : Hid ((keysG S).take (i + 1) = (keysG S).take i ++ [((S.getD i gr0).n, jn (S.getD i gr0).ps)]) := by
        show _ = _
        rw [take_snocF _ i (by rw [keys_len]; exact hiS), keys_getD S i hiS]
        rfl
      have hjs : (jn (S.getD i gr0).ps).size ≤ 1000000000 := Nat.le_trans (size_le_totL (f := (S.getD i gr0).key) (List.mem_map.2 ⟨_, getD_mem hiS, rfl⟩)) ht
      have HOP : Hid (OwnP w base (S.getD i gr0)) := HPP.out _ (getD_mem hiS)
      have HLG := HL.out _ (getD_mem hiS)
      generalize S.getD i gr0 = g at *
      have JP : Hid (∀ W, Below w.heap.size w W → Calls Try.prog 62 #[.slice g.a g.ps.length g.c, .string ⟨#[]⟩] W fun e w' => e = .returned (.string (jn g.ps)) ∧ Below W.heap.size W w') := fun W hW => joinP_any g base W (own_blw HOP.out hW) hjs HLG
      obtain ⟨gl, HGL⟩ : ∃ l, Hid (g.ps.length = l) := ⟨_, rfl⟩
      rw [HGL.out] at c2 JP
      generalize jn g.ps = x at *
      generalize (keysG S).take i = K at *
      have B2 : Hid (Below w.heap.size w (wr.alloc (.cells #[.string g.n, .slice g.a gl g.c, .int .i64 g.sz] 90))) := B1.out.alloc B1.out.size _
      have O2 : Hid ((wr.alloc (.cells #[.string g.n, .slice g.a gl g.c, .int .i64 g.sz] 90)).ownsRow w.heap.size 55 2 u3 i (rowF K)) := O1.out.alloc _
      have R2 : Hid ((wr.alloc (.cells #[.string g.n, .slice g.a gl g.c, .int .i64 g.sz] 90)).heap[wr.heap.size]? = some (.cells #[.string g.n, .slice g.a gl g.c, .int .i64 g.sz] 90 (0, 0))) := heap_alloc_new _ _
      obtain ⟨k0, k1, k2⟩ := cells3 R2.out
      go_wp2_with fail
      generalize wr.alloc (.cells #[.string g.n, .slice g.a gl g.c, .int .i64 g.sz] 90) = W2 at *
      go_region_law ((first
        | (refine step_append_vals Try.underlying24 infF32 rfl (by decide) rfl (.tmp 15) (.tmp 22) rfl w.heap.size _ i (rowF K) rfl (O3.out.alloc _) w3.heap.size 0 1 1 [.string g.n, .string x] rfl rfl (two_row w3 _ _ _) (by simp [Value.oneCell']) (by omega) (by omega) (Nat.le_trans B3.out.size (by simp)) ?_
           intro v' w4 hown hg hbk hnl
           have O4 : Hid (w4.ownsRow w.heap.size 55 2 v' (i + 1) (rowF (K ++ [(g.n, x)]))) := by show World.ownsRow _ _ _ _ _ _ _; rw [rowF_app]; exact hown
           have B4 : Hid (Below w.heap.size w w4) := BX.out.grown hg BX.out.size (fun k e => (O3.out.lt k e).1)
           clear hown hg hnl hbk)
        | (go_simp
           go_at_call 62
           refine (JP.out _ B2.out.drew).mono ?_
           rintro e w3 ⟨rfl, hb3⟩
           have B3 : Hid (Below w.heap.size w w3) := B2.out.drew.trans (hb3.mono B2.out.size)
           have O3 : Hid (w3.ownsRow w.heap.size 55 2 u3 i (rowF K)) := own_blw (own_blw O2.out (Below.refl _ _).drew) hb3
           have BX : Hid (Below w.heap.size w (w3.alloc (.cells #[.string g.n, .string x] 55))) := B3.out.alloc B3.out.size _
           obtain ⟨m0, m1, m2⟩ := cells3 (below_row (Below.trans (Below.refl _ _).drew hb3) (row_lt R2.out) R2.out)
           clear hb3)))
      all_goals
        go_wp2
        go_roundw
        case rel => exact ⟨i + 1, by omega, by first | rfl | go_num, by rw [HTK.out]; exact O4.out, B4.out⟩
        case measure => simp [intOf]; omega
    · have hin : i = n := by omega
      subst hin
      have O2 : Hid (wr.ownsRow w.heap.size 55 2 u3 i (rowF (keysG S))) := by
        have := O1.out
        rw [show (keysG S).take i = keysG S by rw [← HN.out, ← keys_len, List.take_length]] at this
        exact this
      go_wp2
      go_ret
      exact ⟨_, rfl, B1.out, O2.out⟩

end Go.Proofs.Ytpahhhocgpohbaa
