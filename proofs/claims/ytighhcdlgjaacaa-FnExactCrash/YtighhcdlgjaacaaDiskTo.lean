import Derived.Test.YtighhcdlgjaacaaPack2
import Derived.Laws.MakeOwn
namespace Go.Proofs.Ytighhcdlgjaacaa
open Go.RowKit

theorem rowF_set : ∀ (F : List FI) (j : Nat) (f : FI), j < F.length → ((rowF F).set (j * 2) (.string f.1)).set (j * 2 + 1) (.string f.2) = rowF (F.set j f)
  | [], j, r, h => by simp at h
  | x :: R, 0, r, _ => by rw [List.set_cons_zero, rowF_cons, rowF_cons]; rfl
  | x :: R, j + 1, r, h => by
    have ih := rowF_set R j r (by simpa using h)
    rw [List.set_cons_succ, rowF_cons, rowF_cons, ← ih]
    have e1 : (j + 1) * 2 = j * 2 + 2 := by omega
    have e2 : (j + 1) * 2 + 1 = j * 2 + 1 + 2 := by omega
    rw [e2, e1]
    rfl
theorem rowO_set : ∀ (F : List OP) (j : Nat) (f : OP), j < F.length → ((((rowO F).set (j * 4) (.int .i64 f.k)).set (j * 4 + 1) (.string f.n)).set (j * 4 + 2) (.string f.t)).set (j * 4 + 3) (.string f.d) = rowO (F.set j f)
  | [], j, r, h => by simp at h
  | x :: R, 0, r, _ => by rw [List.set_cons_zero, rowO_cons, rowO_cons]; rfl
  | x :: R, j + 1, r, h => by
    have ih := rowO_set R j r (by simpa using h)
    rw [List.set_cons_succ, rowO_cons, rowO_cons, ← ih]
    have e1 : (j + 1) * 4 = j * 4 + 4 := by omega
    have e2 : (j + 1) * 4 + 1 = j * 4 + 1 + 4 := by omega
    have e3 : (j + 1) * 4 + 2 = j * 4 + 2 + 4 := by omega
    have e4 : (j + 1) * 4 + 3 = j * 4 + 3 + 4 := by omega
    rw [e2, e3, e4, e1]
    rfl
theorem made_fl (n : Nat) : madeCells (Value.agg #[Value.string ⟨#[]⟩, Value.string ⟨#[]⟩]).cells (n * 2) = (rowF (List.replicate n fi0)).toArray := by
  apply Array.ext
  · simp [madeCells, rowF_len]
  · intro i h1 h2
    have hi : i < n * 2 := by simpa [madeCells] using h1
    obtain ⟨j, hj⟩ : ∃ j, j = i / 2 := ⟨_, rfl⟩
    have hjn : j < (List.replicate n fi0).length := by simp; omega
    obtain ⟨g1, g2⟩ := rowF_at (List.replicate n fi0) j hjn
    have hd : (List.replicate n fi0).getD j fi0 = fi0 := by simp only [List.getD_eq_getElem?_getD]; rw [List.getElem?_replicate]; split <;> rfl
    rw [hd] at g1 g2
    simp only [madeCells, Value.cells, Array.getElem_map, Array.getElem_range, List.getElem_toArray]
    rcases Nat.mod_two_eq_zero_or_one i with h | h
    · have e : i = j * 2 := by omega
      subst e
      have := List.getElem?_eq_some_iff.1 g1
      rw [this.2]
      show (#[Value.string ⟨#[]⟩, Value.string ⟨#[]⟩])[(j * 2) % 2]! = _
      rw [h]
      rfl
    · have e : i = j * 2 + 1 := by omega
      subst e
      have := List.getElem?_eq_some_iff.1 g2
      rw [this.2]
      show (#[Value.string ⟨#[]⟩, Value.string ⟨#[]⟩])[(j * 2 + 1) % 2]! = _
      rw [h]
      rfl
theorem made_op (n : Nat) : madeCells (Value.agg #[Value.int .i64 0, Value.string ⟨#[]⟩, Value.string ⟨#[]⟩, Value.string ⟨#[]⟩]).cells (n * 4) = (rowO (List.replicate n op0)).toArray := by
  apply Array.ext
  · simp [madeCells, rowO_len]
  · intro i h1 h2
    have hi : i < n * 4 := by simpa [madeCells] using h1
    obtain ⟨j, hj⟩ : ∃ j, j = i / 4 := ⟨_, rfl⟩
    have hjn : j < (List.replicate n op0).length := by simp; omega
    obtain ⟨g1, g2, g3, g4⟩ := rowO_at (List.replicate n op0) j hjn
    have hd : (List.replicate n op0).getD j op0 = op0 := by simp only [List.getD_eq_getElem?_getD]; rw [List.getElem?_replicate]; split <;> rfl
    rw [hd] at g1 g2 g3 g4
    simp only [madeCells, Value.cells, Array.getElem_map, Array.getElem_range, List.getElem_toArray]
    have hm : i % 4 = 0 ∨ i % 4 = 1 ∨ i % 4 = 2 ∨ i % 4 = 3 := by omega
    rcases hm with h | h | h | h
    · have e : i = j * 4 := by omega
      subst e
      rw [(List.getElem?_eq_some_iff.1 g1).2]
      show (#[Value.int .i64 0, Value.string ⟨#[]⟩, Value.string ⟨#[]⟩, Value.string ⟨#[]⟩])[(j * 4) % 4]! = _
      rw [h]
      rfl
    · have e : i = j * 4 + 1 := by omega
      subst e
      rw [(List.getElem?_eq_some_iff.1 g2).2]
      show (#[Value.int .i64 0, Value.string ⟨#[]⟩, Value.string ⟨#[]⟩, Value.string ⟨#[]⟩])[(j * 4 + 1) % 4]! = _
      rw [h]
      rfl
    · have e : i = j * 4 + 2 := by omega
      subst e
      rw [(List.getElem?_eq_some_iff.1 g3).2]
      show (#[Value.int .i64 0, Value.string ⟨#[]⟩, Value.string ⟨#[]⟩, Value.string ⟨#[]⟩])[(j * 4 + 2) % 4]! = _
      rw [h]
      rfl
    · have e : i = j * 4 + 3 := by omega
      subst e
      rw [(List.getElem?_eq_some_iff.1 g4).2]
      show (#[Value.int .i64 0, Value.string ⟨#[]⟩, Value.string ⟨#[]⟩, Value.string ⟨#[]⟩])[(j * 4 + 3) % 4]! = _
      rw [h]
      rfl
theorem infO56 : (Try.prog.info? 40).map (fun i => (i.zero, i.size, i.bytes)) = some (some (Value.agg #[.int .i64 0, .string ⟨#[]⟩, .string ⟨#[]⟩, .string ⟨#[]⟩]), 4, 56) := by kernel_rfl
theorem make_fl (W : World) (len : Nat) (hlen : len ≤ 1048576) :
    (Instr.makeSlice 28 (.int .i64 len) (.int .i64 len)).run Try.prog W = .ok (.slice (some ⟨W.heap.size, 0, none⟩) len len) (W.alloc (.cells (rowF (List.replicate len fi0)).toArray 72)) := by
  obtain ⟨i, hq, hz, hs, hb⟩ := inf_parts infF32
  have := run_make (P := Try.prog) W 28 72 i _ Try.underlying28 hq hz .i64 .i64 len len (by omega) (by omega) (by rw [hb]; omega) (by omega)
  rw [this, hs]
  simp only [Int.toNat_natCast, made_fl]
theorem make_op (W : World) (len : Nat) (hlen : len ≤ 1048576) :
    (Instr.makeSlice 29 (.int .i64 len) (.int .i64 len)).run Try.prog W = .ok (.slice (some ⟨W.heap.size, 0, none⟩) len len) (W.alloc (.cells (rowO (List.replicate len op0)).toArray 40)) := by
  obtain ⟨i, hq, hz, hs, hb⟩ := inf_parts infO56
  have := run_make (P := Try.prog) W 29 40 i _ Try.underlying29 hq hz .i64 .i64 len len (by omega) (by omega) (by rw [hb]; omega) (by omega)
  rw [this, hs]
  simp only [Int.toNat_natCast, made_op]
theorem own_fl (W : World) (n : Nat) (hn : n ≤ 1048576) : (W.alloc (.cells (rowF (List.replicate n fi0)).toArray 72)).ownsRow W.heap.size 72 2 (.slice (some ⟨W.heap.size, 0, none⟩) n n) n (rowF (List.replicate n fi0)) :=
  ⟨by rw [rowF_len]; simp, .inr ⟨W.heap.size, n, _, rfl, Nat.le_refl _, heap_alloc_new _ _, Nat.le_refl _, by unfold maxLen; omega, by simp [rowF_len], by rw [List.take_of_length_le (by simp [rowF_len])]⟩⟩
theorem own_op (W : World) (n : Nat) (hn : n ≤ 1048576) : (W.alloc (.cells (rowO (List.replicate n op0)).toArray 40)).ownsRow W.heap.size 40 4 (.slice (some ⟨W.heap.size, 0, none⟩) n n) n (rowO (List.replicate n op0)) :=
  ⟨by rw [rowO_len]; simp, .inr ⟨W.heap.size, n, _, rfl, Nat.le_refl _, heap_alloc_new _ _, Nat.le_refl _, by unfold maxLen; omega, by simp [rowO_len], by rw [List.take_of_length_le (by simp [rowO_len])]⟩⟩
theorem set_rep {α : Type} (F : List α) (z f : α) (i n : Nat) (hi : i < n) (hF : F.length = i) : (F ++ List.replicate (n - i) z).set i f = F ++ [f] ++ List.replicate (n - (i + 1)) z := by
  rw [List.set_append_right _ _ (by omega), hF, Nat.sub_self, show n - i = (n - (i + 1)) + 1 by omega, List.replicate_succ, List.set_cons_zero, List.append_assoc]
  rfl

set_option maxHeartbeats 1000000 in
theorem toFile_any (x y : ByteArray) (w : World) : Calls Try.prog 61 #[.agg #[.string x, .string y]] w fun e w' => e = .returned (.agg #[.string x, .string y]) ∧ Below w.heap.size w w' := by
  go_enter Try.func61, Try.ntmps61
  go_wp2
  refine bodyPost_ret (v := .agg #[.string x, .string y]) (by simp [results, Try.results61, go_sem]) rfl ⟨rfl, ?_⟩
  exact (((Below.refl _ _).alloc (Nat.le_refl _) _).alloc (by simp) _).alloc (by simp; omega) _
set_option maxHeartbeats 1000000 in
theorem toDOp_any (k : Int) (x y z : ByteArray) (w : World) : Calls Try.prog 16 #[.agg #[.int .i64 k, .string x, .string y, .string z]] w fun e w' => e = .returned (.agg #[.int .i64 k, .string x, .string y, .string z]) ∧ Below w.heap.size w w' := by
  go_enter Try.func16, Try.ntmps16
  go_wp2
  refine bodyPost_ret (v := .agg #[.int .i64 k, .string x, .string y, .string z]) (by simp [results, Try.results16, go_sem]) rfl ⟨rfl, ?_⟩
  exact (((Below.refl _ _).alloc (Nat.le_refl _) _).alloc (by simp) _).alloc (by simp; omega) _

set_option maxHeartbeats 2000000 in
theorem toFileS_any (a : Option Addr) (c : Nat) (F : List FI) (w : World) (hF : FilesAt w a F) (hn : F.length ≤ 1048576) :
    Calls Try.prog 37 #[.slice a F.length c] w fun e w' => e = .returned (.slice (some ⟨w.heap.size, 0, none⟩) F.length F.length) ∧ Below w.heap.size w w' ∧ w'.ownsRow w.heap.size 72 2 (.slice (some ⟨w.heap.size, 0, none⟩) F.length F.length) F.length (rowF F) := by
  have HF : Hid (FilesAt w a F) := hF
  clear hF
  obtain ⟨n, HN⟩ : ∃ n, Hid (F.length = n) := ⟨_, rfl⟩
  rw [HN.out] at hn ⊢
  have hmk := fun W => make_fl W n hn
  have O0 : Hid ((w.alloc (.cells (rowF (List.replicate n fi0)).toArray 72)).ownsRow w.heap.size 72 2 (.slice (some ⟨w.heap.size, 0, none⟩) n n) n (rowF (List.replicate n fi0))) := own_fl w n hn
  have B0 : Hid (Below w.heap.size w (w.alloc (.cells (rowF (List.replicate n fi0)).toArray 72))) := (Below.refl _ _).alloc (Nat.le_refl _) _
  go_enter Try.func37, Try.ntmps37
  go_wp2_with fail
  clear hmk
  go_loopw [4] (fun t wr => ∃ k : Nat, k ≤ n ∧ t = .int .i64 k ∧ Below w.heap.size w wr ∧ wr.ownsRow w.heap.size 72 2 (.slice (some ⟨w.heap.size, 0, none⟩) n n) n (rowF (F.take k ++ List.replicate (n - k) fi0))) (fun t _ => n - (intOf t).toNat)
  case atStart => exact ⟨0, Nat.zero_le _, rfl, B0.out, O0.out⟩
  case round =>
    clear B0 O0
    obtain ⟨k, hk, rfl, hb, ho⟩ := hrel
    have B1 : Hid (Below w.heap.size w wr) := hb
    have O1 : Hid (wr.ownsRow w.heap.size 72 2 (.slice (some ⟨w.heap.size, 0, none⟩) n n) n (rowF (F.take k ++ List.replicate (n - k) fi0))) := ho
    clear hb ho
    by_cases hlt : k < n
    · have hkn : (k : Int) < n := by omega
      have hkF : k < F.length := by rw [HN.out]; exact hlt
      obtain ⟨b, off, e, c1, c2⟩ := (HF.out.below B1.out) k hkF
      subst e
      have hlk : (F.take k).length = k := by rw [List.length_take]; omega
      have HTK : Hid (F.take (k + 1) = F.take k ++ [F.getD k fi0]) := take_snocF F k hkF
      generalize F.getD k fi0 = f at *
      obtain ⟨x, y⟩ := f
      simp only at c1 c2
      have hlen : k < (F.take k ++ List.replicate (n - k) fi0).length := by simp; omega
      obtain ⟨q1, q2⟩ := rowF_at (F.take k ++ List.replicate (n - k) fi0) k hlen
      have HST : Hid (((rowF (F.take k ++ List.replicate (n - k) fi0)).set (k * 2) (.string x)).set (k * 2 + 1) (.string y) = rowF (F.take (k + 1) ++ List.replicate (n - (k + 1)) fi0)) := by
        show _ = _
        rw [rowF_set _ k (x, y) hlen, set_rep (F.take k) fi0 (x, y) k n hlt hlk, HTK.out]
      go_wp2_with fail
      refine (toFile_any x y wr).mono ?_
      rintro e w2 ⟨rfl, hb2⟩
      have B2 : Hid (Below w.heap.size w w2) := B1.out.trans (hb2.mono B1.out.size)
      have O2 : Hid (w2.ownsRow w.heap.size 72 2 (.slice (some ⟨w.heap.size, 0, none⟩) n n) n (rowF (F.take k ++ List.replicate (n - k) fi0))) := own_blw O1.out hb2
      obtain ⟨f1, ff1⟩ := own_cellV O2.out q1
      obtain ⟨f2, ff2⟩ := own_cellV O2.out q2
      have O3 : Hid (((w2.setCell ⟨w.heap.size, k * 2, none⟩ (.string x)).setCell ⟨w.heap.size, k * 2 + 1, none⟩ (.string y)).ownsRow w.heap.size 72 2 (.slice (some ⟨w.heap.size, 0, none⟩) n n) n (rowF (F.take (k + 1) ++ List.replicate (n - (k + 1)) fi0))) := by
        have := own_putV (k := k * 2 + 1) (.string y) (own_putV (k := k * 2) (.string x) O2.out)
        rw [HST.out] at this
        exact this
      clear hb2 B1 O1 q1 q2
      go_wp2
      go_roundw
      case rel => exact ⟨k + 1, by omega, by first | rfl | go_num, (B2.out.setCell (Nat.le_refl _) _).setCell (Nat.le_refl _) _, O3.out⟩
      case measure => simp [intOf]; omega
    · have hke : k = n := by omega
      subst hke
      have O2 : Hid (wr.ownsRow w.heap.size 72 2 (.slice (some ⟨w.heap.size, 0, none⟩) k k) k (rowF F)) := by
        have := O1.out
        rw [show F.take k = F by rw [← HN.out, List.take_length], Nat.sub_self, List.replicate_zero, List.append_nil] at this
        exact this
      go_wp2
      go_ret
      exact ⟨rfl, B1.out, O2.out⟩

end Go.Proofs.Ytighhcdlgjaacaa
