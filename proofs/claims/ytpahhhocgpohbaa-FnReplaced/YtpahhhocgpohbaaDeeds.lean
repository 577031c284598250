import Derived.Test.YtpahhhocgpohbaaPack8
import Derived.Test.YtpahhhocgpohbaaShelfOf
namespace Go.Proofs.Ytpahhhocgpohbaa
open Go.RowKit

theorem infS12 : (Try.prog.info? 9).map (fun i => (i.zero, i.size, i.bytes)) = some (some (Value.string ⟨#[]⟩), 1, 16) := by kernel_rfl
theorem one_rowT (W : World) (T : TypeId) (x : Value) (g : Nat) (hg : W.heap.size = g) : ∀ j u, [x][j]? = some u → (W.alloc (.cells #[x] T)).cell? ⟨g, 0 + j, none⟩ = some u := by
  subst hg
  intro j u hu
  match j, hu with
  | 0, hu =>
    simp at hu
    subst hu
    rw [cell_of_row _ _ _ _ _ _ (heap_alloc_new _ _)]
    rfl
  | j + 1, hu => simp at hu
/-- A shelf behind a deed: it has these files. -/
def MadeOn (w w' : World) (base s : Nat) (K : List FI) (N : Nat) : Prop := ∃ fv S, Below base w w' ∧ SH w' base s fv S ∧ keysG S = K ∧ ∀ g ∈ S, g.ps.length ≤ N
theorem cut_twice (S : List GR) (n : ByteArray) : cutG (cutG S n) n = cutG S n := by
  unfold cutG
  rw [List.filter_filter]
  apply List.filter_congr
  intro g _
  cases decide (g.n = n) <;> rfl
theorem put_cut (K : List FI) (n d : ByteArray) : putF (cutF K n) n d = putF K n d := by
  unfold putF cutF
  rw [List.filter_filter, List.filter_filter]
  congr 1
  · apply List.filter_congr
    intro g _
    cases hq : ltT g.1 n
    · rfl
    · rw [decide_eq_false (ltT_ne hq)]; rfl
  · congr 1
    apply List.filter_congr
    intro g _
    cases hq : ltT n g.1
    · rfl
    · rw [decide_eq_false (fun e : g.1 = n => ltT_ne hq e.symm)]; rfl
theorem mem_cutG {S : List GR} {n : ByteArray} {g : GR} (h : g ∈ cutG S n) : g ∈ S := (List.mem_filter.1 h).1
theorem mem_putG {S : List GR} {f g : GR} (h : g ∈ putG S f) : g = f ∨ g ∈ S := by
  unfold putG at h
  rcases List.mem_append.1 h with h | h
  · exact .inr (List.mem_filter.1 h).1
  · rcases List.mem_cons.1 h with h | h
    · exact .inl h
    · exact .inr (List.mem_filter.1 h).1

set_option maxHeartbeats 1000000 in
theorem appFinds_any (n d : ByteArray) (s : Nat) (w : World) :
    Calls Try.prog 90 #[.agg #[.string n, .string d], .pointer (some ⟨s, 0, none⟩)] w fun e w' => e = .returned (.bool true) ∧ Below w.heap.size w w' := by
  go_enter Try.func90, Try.ntmps90
  go_wp2
  go_ret
  exact ⟨rfl, (Below.refl _ _).alloc (Nat.le_refl _) _⟩
theorem renFinds_any (n t : ByteArray) (s base : Nat) (fv : Value) (S : List GR) (w : World) (h : SH w base s fv S) (hn : S.length ≤ 1048576) (hS : RisG S) :
    Calls Try.prog 106 #[.agg #[.string n, .string t], .pointer (some ⟨s, 0, none⟩)] w fun e w' => e = .returned (.bool (hasF (keysG S) n)) ∧ Below w.heap.size w w' := by
  have B0 : Hid (Below w.heap.size w (w.alloc (.cells #[.string n, .string t] 94))) := (Below.refl _ _).alloc (Nat.le_refl _) _
  have HA : Hid (Calls Try.prog 108 #[.pointer (some ⟨s, 0, none⟩), .string n] (w.alloc (.cells #[.string n, .string t] 94)) fun e w' => e = .returned (.bool (hasF (keysG S) n)) ∧ Below (w.alloc (.cells #[.string n, .string t] 94)).heap.size (w.alloc (.cells #[.string n, .string t] 94)) w') := has_any s base fv S n _ (h.below B0.out) hn hS
  generalize hasF (keysG S) n = b at *
  clear h hS
  go_enter Try.func106, Try.ntmps106
  go_wp2_with fail
  refine HA.out.mono ?_
  rintro e w1 ⟨rfl, hb⟩
  have B1 : Hid (Below w.heap.size w w1) := B0.out.trans (hb.mono B0.out.size)
  clear hb
  go_wp2
  go_ret
  exact ⟨rfl, B1.out⟩
theorem remFinds_any (n : ByteArray) (s base : Nat) (fv : Value) (S : List GR) (w : World) (h : SH w base s fv S) (hn : S.length ≤ 1048576) (hS : RisG S) :
    Calls Try.prog 109 #[.agg #[.string n], .pointer (some ⟨s, 0, none⟩)] w fun e w' => e = .returned (.bool (hasF (keysG S) n)) ∧ Below w.heap.size w w' := by
  have B0 : Hid (Below w.heap.size w (w.alloc (.cells #[.string n] 96))) := (Below.refl _ _).alloc (Nat.le_refl _) _
  have HA : Hid (Calls Try.prog 108 #[.pointer (some ⟨s, 0, none⟩), .string n] (w.alloc (.cells #[.string n] 96)) fun e w' => e = .returned (.bool (hasF (keysG S) n)) ∧ Below (w.alloc (.cells #[.string n] 96)).heap.size (w.alloc (.cells #[.string n] 96)) w') := has_any s base fv S n _ (h.below B0.out) hn hS
  generalize hasF (keysG S) n = b at *
  clear h hS
  go_enter Try.func109, Try.ntmps109
  go_wp2_with fail
  refine HA.out.mono ?_
  rintro e w1 ⟨rfl, hb⟩
  have B1 : Hid (Below w.heap.size w w1) := B0.out.trans (hb.mono B0.out.size)
  clear hb
  go_wp2
  go_ret
  exact ⟨rfl, B1.out⟩

set_option maxHeartbeats 1000000 in
theorem remMake_any (n : ByteArray) (s base N : Nat) (fv : Value) (S : List GR) (w : World) (h : SH w base s fv S) (hbw : base ≤ w.heap.size) (hn : S.length ≤ 900) (hS : RisG S) (hl : ∀ g ∈ S, g.ps.length ≤ N) :
    Calls Try.prog 110 #[.agg #[.string n], .pointer (some ⟨s, 0, none⟩)] w fun e w' => e = .returned (.tuple #[]) ∧ MadeOn w w' base s (cutF (keysG S) n) (N + 1) := by
  have B0 : Hid (Below w.heap.size w (w.alloc (.cells #[.string n] 96))) := (Below.refl _ _).alloc (Nat.le_refl _) _
  have TA : Hid (Calls Try.prog 92 #[.pointer (some ⟨s, 0, none⟩), .string n] (w.alloc (.cells #[.string n] 96)) fun e w' => ∃ v, e = .returned v ∧ MadeOn w w' base s (cutF (keysG S) n) (N + 1)) := by
    refine (take_any s base fv S n _ (h.below B0.out) (Nat.le_trans hbw B0.out.size) (by omega) hS).mono ?_
    rintro e w' ⟨f, fv', rfl, ht⟩
    exact ⟨_, rfl, fv', _, (B0.out.mono hbw).trans ht.b, ht.sh, keys_cut _ _, fun g hg => Nat.le_succ_of_le (hl g (mem_cutG hg))⟩
  clear h hS hl
  go_enter Try.func110, Try.ntmps110
  go_wp2_with fail
  refine TA.out.mono ?_
  rintro e w1 ⟨v, rfl, hm⟩
  go_wp2
  first | refine bodyPost_end (results_none rfl _ _ _) rfl ?_ | refine bodyPost_ret (results_none rfl _ _ _) rfl ?_
  exact ⟨rfl, hm⟩

set_option maxHeartbeats 2000000 in
theorem renMake_any (n t : ByteArray) (s base N : Nat) (fv : Value) (S : List GR) (w : World) (h : SH w base s fv S) (hbw : base ≤ w.heap.size) (hn : S.length ≤ 800) (hS : RisG S) (hl : ∀ g ∈ S, g.ps.length ≤ N) :
    Calls Try.prog 107 #[.agg #[.string n, .string t], .pointer (some ⟨s, 0, none⟩)] w fun e w' => e = .returned (.tuple #[]) ∧ MadeOn w w' base s (putF (cutF (keysG S) n) t (datF (keysG S) n)) (N + 1) := by
  have H0 : Hid (SH w base s fv S) := h
  have HS : Hid (RisG S) := hS
  have HL : Hid (∀ g ∈ S, g.ps.length ≤ N) := hl
  have B0 : Hid (Below w.heap.size w (w.alloc (.cells #[.string n, .string t] 94))) := (Below.refl _ _).alloc (Nat.le_refl _) _
  have R0 : Hid ((w.alloc (.cells #[.string n, .string t] 94)).heap[w.heap.size]? = some (.cells #[.string n, .string t] 94 (0, 0))) := heap_alloc_new _ _
  have hs := h.lt
  clear h hS hl
  go_enter Try.func107, Try.ntmps107
  go_wp2_with fail
  refine (take_any s base fv S n _ (H0.out.below B0.out) (Nat.le_trans hbw B0.out.size) (by omega) HS.out).mono ?_
  rintro e w1 ⟨f, fv1, rfl, ht⟩
  have hws : w.heap.size < (w.alloc (.cells #[.string n, .string t] 94)).heap.size := row_lt R0.out
  have hw01 := ht.b.size
  have R1 : Hid (w1.heap[w.heap.size]? = some (.cells #[.string n, .string t] 94 (0, 0))) := (ht.ot _ hws (fun e => by have := (H0.out.r.lt _ e.symm).2; omega) (by omega)).trans R0.out
  have HT : Hid (Taken (w.alloc (.cells #[.string n, .string t] 94)) w1 base s fv fv1 S n f) := ht
  have B1 : Hid (Below base w w1) := (B0.out.mono hbw).trans ht.b
  have hbw1 : base ≤ w1.heap.size := Nat.le_trans hbw B1.out.size
  clear ht
  obtain ⟨b0, b1⟩ := cells2 R1.out
  obtain ⟨fl, HFL⟩ : ∃ l, Hid (f.ps.length = l) := ⟨_, rfl⟩
  rw [HFL.out]
  obtain ⟨fa, HFA⟩ : ∃ l, Hid (f.a = l) := ⟨_, rfl⟩
  obtain ⟨fc, HFC⟩ : ∃ l, Hid (f.c = l) := ⟨_, rfl⟩
  obtain ⟨fz, HFZ⟩ : ∃ l, Hid (f.sz = l) := ⟨_, rfl⟩
  rw [HFA.out, HFC.out, HFZ.out]
  have B2 : Hid (Below w1.heap.size w1 (w1.alloc (.cells #[.string t, .slice fa fl fc, .int .i64 fz] 90))) := (Below.refl _ _).alloc (Nat.le_refl _) _
  have b1' : (w1.alloc (.cells #[.string n, .slice fa fl fc, .int .i64 fz] 90)).cell? ⟨w.heap.size, 1, none⟩ = some (.string t) := (cells2 (below_row ((Below.refl _ _).alloc (Nat.le_refl _) _) (row_lt R1.out) R1.out)).2
  have PA : Hid (Calls Try.prog 93 #[.pointer (some ⟨s, 0, none⟩), .agg #[.string t, .slice fa fl fc, .int .i64 fz]] (w1.alloc (.cells #[.string t, .slice fa fl fc, .int .i64 fz] 90)) fun e w' => e = .returned (.tuple #[]) ∧ MadeOn w w' base s (putF (cutF (keysG S) n) t (datF (keysG S) n)) (N + 1)) := by
    have hT := HT.out
    have := put_any s base fv1 (cutG S n) ⟨t, f.a, f.ps, f.c, f.sz⟩ (w1.alloc (.cells #[.string t, .slice fa fl fc, .int .i64 fz] 90)) (hT.sh.below B2.out) (own_blw hT.p B2.out) (fun g hg => hT.ap g (mem_cutG hg)) hT.sz (Nat.le_trans hbw1 B2.out.size) (by have := cutG_len S n; omega) (risG_cut HS.out _)
    simp only at this
    rw [HFL.out, HFA.out, HFC.out, HFZ.out] at this
    refine this.mono ?_
    rintro e w' ⟨rfl, fv', hb, hsh⟩
    refine ⟨rfl, fv', _, (B1.out.trans (B2.out.mono hbw1)).trans hb, hsh, ?_, fun g hg => ?_⟩
    · rw [keys_put, keys_cut]
      simp only
      rw [← HT.out.dat]
    · rcases mem_putG hg with rfl | hg
      · exact Nat.le_succ_of_le (HT.out.len N HL.out)
      · exact Nat.le_succ_of_le (HL.out g (mem_cutG hg))
  go_wp2_with fail
  refine PA.out.mono ?_
  rintro e w2 ⟨rfl, hm⟩
  go_wp2
  first | refine bodyPost_end (results_none rfl _ _ _) rfl ?_ | refine bodyPost_ret (results_none rfl _ _ _) rfl ?_
  exact ⟨rfl, hm⟩

set_option maxHeartbeats 4000000 in
set_option maxRecDepth 20000 in
theorem appMake_any (n d : ByteArray) (s base N : Nat) (fv : Value) (S : List GR) (w : World) (h : SH w base s fv S) (hbw : base ≤ w.heap.size) (hn : S.length ≤ 800) (hS : RisG S) (hl : ∀ g ∈ S, g.ps.length ≤ N) (hN : N ≤ 1000000) (ht : totL (keysG S) ≤ 1000000000) (hd : d.size ≤ 1000000000) :
    Calls Try.prog 91 #[.agg #[.string n, .string d], .pointer (some ⟨s, 0, none⟩)] w fun e w' => e = .returned (.tuple #[]) ∧ MadeOn w w' base s (putF (keysG S) n (datF (keysG S) n ++ d)) (N + 1) := by
  have H0 : Hid (SH w base s fv S) := h
  have HS : Hid (RisG S) := hS
  have HL : Hid (∀ g ∈ S, g.ps.length ≤ N) := hl
  have B0 : Hid (Below w.heap.size w (w.alloc (.cells #[.string n, .string d] 92))) := (Below.refl _ _).alloc (Nat.le_refl _) _
  have R0 : Hid ((w.alloc (.cells #[.string n, .string d] 92)).heap[w.heap.size]? = some (.cells #[.string n, .string d] 92 (0, 0))) := heap_alloc_new _ _
  have hs := h.lt
  clear h hS hl
  go_enter Try.func91, Try.ntmps91
  go_wp2_with fail
  refine (take_any s base fv S n _ (H0.out.below B0.out) (Nat.le_trans hbw B0.out.size) (by omega) HS.out).mono ?_
  rintro e w1 ⟨f, fv1, rfl, ht1⟩
  have hws : w.heap.size < (w.alloc (.cells #[.string n, .string d] 92)).heap.size := row_lt R0.out
  have hw01 := ht1.b.size
  have R1 : Hid (w1.heap[w.heap.size]? = some (.cells #[.string n, .string d] 92 (0, 0))) := (ht1.ot _ hws (fun e => by have := (H0.out.r.lt _ e.symm).2; omega) (by omega)).trans R0.out
  have HT : Hid (Taken (w.alloc (.cells #[.string n, .string d] 92)) w1 base s fv fv1 S n f) := ht1
  have B1 : Hid (Below base w w1) := (B0.out.mono hbw).trans ht1.b
  have hbw1 : base ≤ w1.heap.size := Nat.le_trans hbw B1.out.size
  have hfN : f.ps.length ≤ N := ht1.len N HL.out
  have hfz : f.sz = (jn f.ps).size := ht1.sz
  have hjs : (jn f.ps).size ≤ 1000000000 := by rw [ht1.dat]; exact Nat.le_trans (datF_le _ _) ht
  clear ht1
  obtain ⟨b0, b1⟩ := cells2 R1.out
  obtain ⟨fl, HFL⟩ : ∃ l, Hid (f.ps.length = l) := ⟨_, rfl⟩
  rw [HFL.out] at hfN ⊢
  obtain ⟨fz, HFZ⟩ : ∃ l, Hid ((jn f.ps).size = l) := ⟨_, rfl⟩
  rw [HFZ.out] at hjs hfz
  have HFZ2 : Hid (f.sz = (fz : Int)) := hfz
  rw [hfz]
  clear hfz
  obtain ⟨fa, HFA⟩ : ∃ l, Hid (f.a = l) := ⟨_, rfl⟩
  obtain ⟨fc, HFC⟩ : ∃ l, Hid (f.c = l) := ⟨_, rfl⟩
  rw [HFA.out, HFC.out]
  -- the box of the file, and a row of the new piece
  have B2 : Hid (Below w1.heap.size w1 (w1.alloc (.cells #[.string n, .slice fa fl fc, .int .i64 (fz : Int)] 90))) := (Below.refl _ _).alloc (Nat.le_refl _) _
  have Q2 : Hid ((w1.alloc (.cells #[.string n, .slice fa fl fc, .int .i64 (fz : Int)] 90)).heap[w1.heap.size]? = some (.cells #[.string n, .slice fa fl fc, .int .i64 (fz : Int)] 90 (0, 0))) := heap_alloc_new _ _
  have R2 : Hid ((w1.alloc (.cells #[.string n, .slice fa fl fc, .int .i64 (fz : Int)] 90)).heap[w.heap.size]? = some (.cells #[.string n, .string d] 92 (0, 0))) := below_row B2.out (row_lt R1.out) R1.out
  obtain ⟨k0, k1⟩ := cells2 R2.out
  have B3 : Hid (Below w1.heap.size w1 ((w1.alloc (.cells #[.string n, .slice fa fl fc, .int .i64 (fz : Int)] 90)).alloc (.cells #[.string d] 9))) := B2.out.alloc B2.out.size _
  have O3 : Hid (((w1.alloc (.cells #[.string n, .slice fa fl fc, .int .i64 (fz : Int)] 90)).alloc (.cells #[.string d] 9)).ownsRow base 9 1 (.slice fa fl fc) fl (f.ps.map Value.string)) := by
    have := own_blw HT.out.p B3.out
    rw [HFL.out, HFA.out, HFC.out] at this
    exact this
  have Q3 : Hid (((w1.alloc (.cells #[.string n, .slice fa fl fc, .int .i64 (fz : Int)] 90)).alloc (.cells #[.string d] 9)).heap[w1.heap.size]? = some (.cells #[.string n, .slice fa fl fc, .int .i64 (fz : Int)] 90 (0, 0))) := (heap_alloc_old _ _ (row_lt Q2.out)).trans Q2.out
  have R3 : Hid (((w1.alloc (.cells #[.string n, .slice fa fl fc, .int .i64 (fz : Int)] 90)).alloc (.cells #[.string d] 9)).heap[w.heap.size]? = some (.cells #[.string n, .string d] 92 (0, 0))) := (heap_alloc_old _ _ (row_lt R2.out)).trans R2.out
  have HSZ : Hid ((w1.alloc (.cells #[.string n, .slice fa fl fc, .int .i64 (fz : Int)] 90)).heap.size = w1.heap.size + 1) := by show _ = _; simp
  have PUT : Hid (∀ w4 ao co, ((w1.alloc (.cells #[.string n, .slice fa fl fc, .int .i64 (fz : Int)] 90)).alloc (.cells #[.string d] 9)).grownBy w4 (Value.slice fa fl fc).ownBlock → w4.ownsRow base 9 1 (.slice ao (fl + 1) co) (fl + 1) (f.ps.map Value.string ++ [.string d]) → ((Value.slice ao (fl + 1) co).ownBlock = (Value.slice fa fl fc).ownBlock ∨ (Value.slice ao (fl + 1) co).ownBlock = some ((w1.alloc (.cells #[.string n, .slice fa fl fc, .int .i64 (fz : Int)] 90)).alloc (.cells #[.string d] 9)).heap.size) → w4.heap[w1.heap.size]? = some (.cells #[.string n, .slice fa fl fc, .int .i64 (fz : Int)] 90 (0, 0)) ∧ w4.heap[w.heap.size]? = some (.cells #[.string n, .string d] 92 (0, 0)) ∧ Calls Try.prog 93 #[.pointer (some ⟨s, 0, none⟩), .agg #[.string n, .slice ao (fl + 1) co, .int .i64 ((fz : Int) + d.size)]] ((w4.setCell ⟨w1.heap.size, 1, none⟩ (.slice ao (fl + 1) co)).setCell ⟨w1.heap.size, 2, none⟩ (.int .i64 ((fz : Int) + d.size))) fun e w' => e = .returned (.tuple #[]) ∧ MadeOn w w' base s (putF (keysG S) n (datF (keysG S) n ++ d)) (N + 1)) := fun w4 ao co hg ho hbk => by
    have hT := HT.out
    have hlow : ∀ g ∈ cutG S n, ∀ k, g.v.ownBlock = some k → k < w1.heap.size := fun g hg k hk => ((hT.sh.p g hg).lt k hk).2
    have q4 : w4.heap[w1.heap.size]? = some (.cells #[.string n, .slice fa fl fc, .int .i64 (fz : Int)] 90 (0, 0)) := (hg.block _ (row_lt Q3.out) (own_otherT O3.out Q3.out (by decide))).trans Q3.out
    have r4 : w4.heap[w.heap.size]? = some (.cells #[.string n, .string d] 92 (0, 0)) := (hg.block _ (row_lt R3.out) (own_otherT O3.out R3.out (by decide))).trans R3.out
    have hv : f.v = .slice fa fl fc := by unfold GR.v; rw [HFL.out, HFA.out, HFC.out]
    have sh4 : SH w4 base s fv1 (cutG S n) := (hT.sh.below B3.out).grow O3.out hg (fun g hg2 k hk => hT.ap g hg2 k (by rw [hv]; exact hk))
    have b45 : Below w1.heap.size w4 ((w4.setCell ⟨w1.heap.size, 1, none⟩ (.slice ao (fl + 1) co)).setCell ⟨w1.heap.size, 2, none⟩ (.int .i64 ((fz : Int) + d.size))) := by
      refine Below.setCell (Below.setCell (Below.refl _ _) ?_ _) ?_ _
      · exact Nat.le_refl _
      · exact Nat.le_refl _
    have hsz4 : w1.heap.size ≤ w4.heap.size := Nat.le_trans B3.out.size hg.size
    have bel : Below base w ((w4.setCell ⟨w1.heap.size, 1, none⟩ (.slice ao (fl + 1) co)).setCell ⟨w1.heap.size, 2, none⟩ (.int .i64 ((fz : Int) + d.size))) := ((B1.out.trans (B3.out.mono hbw1)).grown hg (Nat.le_trans hbw1 B3.out.size) (fun k e => (O3.out.lt k e).1)).trans (b45.mono hbw1)
    have sh5 := sh4.low (N := w1.heap.size) hT.sh.lt (fun k hk => (hT.sh.r.lt k hk).2) hlow b45
    have own5 : ((w4.setCell ⟨w1.heap.size, 1, none⟩ (.slice ao (fl + 1) co)).setCell ⟨w1.heap.size, 2, none⟩ (.int .i64 ((fz : Int) + d.size))).ownsRow base 9 1 (.slice ao (fl + 1) co) (fl + 1) ((f.ps ++ [d]).map Value.string) := by
      have h1 := own_setT (i := 1) (u := .slice ao (fl + 1) co) ho q4 (by decide)
      have q5 := heap_setCell_same w4 w1.heap.size 1 _ _ (.slice ao (fl + 1) co) q4
      have h2 := own_setT (i := 2) (u := .int .i64 ((fz : Int) + d.size)) h1 q5 (by decide)
      rw [List.map_append]
      exact h2
    have hjn : jn (f.ps ++ [d]) = datF (keysG S) n ++ d := by rw [jn_app, hT.dat]
    have hlen : (f.ps ++ [d]).length = fl + 1 := by rw [List.length_append, HFL.out]; rfl
    have := put_any s base fv1 (cutG S n) ⟨n, ao, f.ps ++ [d], co, (fz : Int) + d.size⟩ _ sh5 (by unfold OwnP; simp only; rw [hlen]; exact own5) (fun g hg2 k hk hk2 => by
      have hk' : (Value.slice ao (fl + 1) co).ownBlock = some k := by have h9 := hk; unfold GR.v at h9; simp only at h9; rw [hlen] at h9; exact h9
      have hgm := mem_cutG hg2
      rcases hbk with e | e
      · exact hT.ap g hgm k (by rw [hv, ← e]; exact hk') hk2
      · rw [e] at hk'
        have h7 := hlow g hgm k hk2
        have h8 := Option.some.inj hk'
        have h9 := B3.out.size
        omega) (by
      show (fz : Int) + d.size = _
      simp only
      rw [jn_app, ByteArray.size_append, HFZ.out]
      rfl) (Nat.le_trans hbw bel.size) (by have := cutG_len S n; omega) (risG_cut HS.out _)
    simp only at this
    rw [hlen] at this
    refine ⟨q4, r4, this.mono ?_⟩
    rintro e w' ⟨rfl, fv', hb, hsh⟩
    refine ⟨rfl, fv', _, bel.trans hb, hsh, ?_, fun g hg => ?_⟩
    · rw [keys_put, keys_cut]
      simp only
      rw [put_cut, hjn]
    · rcases mem_putG hg with rfl | hg
      · simp only
        rw [hlen]
        omega
      · exact Nat.le_succ_of_le (HL.out g (mem_cutG hg))
  have B3S := B3.out.size
  have hzd : (fz : Int) + d.size ≤ 9223372036854775807 := by omega
  go_wp2_with (first
    | (at_builtin
       refine append_vals Try.underlying59 infS12 rfl (by decide) _ rfl _ _ rfl base (.slice fa fl fc) fl (f.ps.map Value.string) rfl O3.out (w1.heap.size + 1) 0 1 1 [.string d] rfl rfl (one_rowT _ _ _ _ HSZ.out) (by simp [Value.oneCell']) (by omega) (by omega) (Nat.le_trans hbw1 B3S) ?_
       intro v' w4 hown hg hbk hnl
       obtain ⟨ao, co, rfl⟩ := own_anyV hown
       obtain ⟨q4, r4, hp4⟩ := PUT.out w4 ao co hg hown hbk
       have P4 : Hid (Calls Try.prog 93 #[.pointer (some ⟨s, 0, none⟩), .agg #[.string n, .slice ao (fl + 1) co, .int .i64 ((fz : Int) + d.size)]] ((w4.setCell ⟨w1.heap.size, 1, none⟩ (.slice ao (fl + 1) co)).setCell ⟨w1.heap.size, 2, none⟩ (.int .i64 ((fz : Int) + d.size))) fun e w' => e = .returned (.tuple #[]) ∧ MadeOn w w' base s (putF (keysG S) n (datF (keysG S) n ++ d)) (N + 1)) := hp4
       obtain ⟨v0, v1, v2⟩ := cells3 q4
       have vf := fun i => frozen_of_row _ _ i _ _ q4
       obtain ⟨x0, x1⟩ := cells2 r4
       clear hown hg hbk hnl hp4 q4 r4)
    | (go_at_call 93
       refine P4.out.mono ?_
       rintro e w5 ⟨rfl, hm⟩))
  first | refine bodyPost_end (results_none rfl _ _ _) rfl ?_ | refine bodyPost_ret (results_none rfl _ _ _) rfl ?_
  exact ⟨rfl, hm⟩

end Go.Proofs.Ytpahhhocgpohbaa
