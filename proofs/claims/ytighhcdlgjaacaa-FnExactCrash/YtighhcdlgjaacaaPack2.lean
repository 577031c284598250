import Derived.Test.YtighhcdlgjaacaaPack0
import Derived.Test.YtighhcdlgjaacaaPack1
import Derived.Deep.RegionLaw
namespace Go.Proofs.Ytighhcdlgjaacaa
open Go.RowKit

theorem inf_parts {E : TypeId} {z : Value} {size bytes : Nat} (h : (Try.prog.info? E).map (fun i => (i.zero, i.size, i.bytes)) = some (some z, size, bytes)) : ∃ i0, Try.prog.info? E = some i0 ∧ i0.zero = some z ∧ i0.size = size ∧ i0.bytes = bytes := by
  cases hq : Try.prog.info? E with
  | none => rw [hq] at h; simp at h
  | some i0 =>
    rw [hq] at h
    simp only [Option.map_some, Option.some.injEq, Prod.mk.injEq] at h
    exact ⟨i0, rfl, h.1, h.2.1, h.2.2⟩
theorem add_plain (b off j : Nat) : (⟨b, off, none⟩ : Addr).add j = ⟨b, off + j, none⟩ := by unfold Addr.add; split <;> simp_all

/-- 'append' of elements of any kind (size cells each) to a slice of the call's own. -/
theorem append_vals {T E : TypeId} {z : Value} {size bytes : Nat} (ht : Try.prog.underlying T = some (.slice E)) (hinf : (Try.prog.info? E).map (fun i => (i.zero, i.size, i.bytes)) = some (some z, size, bytes)) (hzs : z.cells.size = size) (hsz : 0 < size)
    (w : World) {ops : Array Oper} {rest : List Oper} {o : Oper} {a : Act} {Q : Exit → Act → World → Prop}
    (hg : o.guard = none) (s x : Operand) (hop : o.op = Op.call { callee := Callee.builtin Builtin.append, args := #[s, x], argTypes := #[T, T] })
    (base : Nat) (v : Value) (k : Nat) (xs : List Value) (hs : a.eval s = v) (hown : w.ownsRow base E size v k xs) (b off m c : Nat) (ys : List Value) (hx : a.eval x = .slice (some ⟨b, off, none⟩) m c)
    (hy : ys.length = m * size) (hc : ∀ j u, ys[j]? = some u → w.cell? ⟨b, off + j, none⟩ = some u) (h1 : ∀ u ∈ ys, u.oneCell' = true) (h63 : k + m ≤ 70368744177663) (hbytes : (k + m) * bytes ≤ 140737488355328) (hb : base ≤ w.heap.size)
    (hK : ∀ v' w', w'.ownsRow base E size v' (k + m) (xs ++ ys) → w.grownBy w' v.ownBlock → (v'.ownBlock = v.ownBlock ∨ v'.ownBlock = some w.heap.size) → (v' = .slice none 0 0 ↔ v = .slice none 0 0 ∧ m = 0) → wpList Try.prog ops Q rest (a.put o.dst v') w') :
    wpList Try.prog ops Q (o :: rest) a w := by
  obtain ⟨i0, hi, hz0, hz1, hz2⟩ := inf_parts hinf
  have hnews : ∀ j u, ys[j]? = some u → w.cell? ((⟨b, off, none⟩ : Addr).add j) = some u := fun j u hu => by rw [add_plain]; exact hc j u hu
  obtain ⟨v', w', hrun, r1, r2, r3⟩ := run_append_own (P := Try.prog) w base T o.type _ i0 _ size bytes ht hi hz0 hz1 hz2 hzs hsz v k xs hown ⟨b, off, none⟩ m c ys hy hnews h1 (by unfold maxLen; omega) hbytes hb
  have r4 := append_blk (P := Try.prog) w base T o.type _ i0 _ size bytes ht hi hz0 hz1 hz2 v k xs hown ⟨b, off, none⟩ m c ys hy hnews h1 (by unfold maxLen; omega) hbytes hrun
  exact wpList_run v' hg (exec_app s x _ v _ hop hs hx hrun) (hK v' w' r1 r2 r4 r3)

/-- The same as a step of a region that draws. -/
theorem step_append_vals {T E : TypeId} {z : Value} {size bytes : Nat} (ht : Try.prog.underlying T = some (.slice E)) (hinf : (Try.prog.info? E).map (fun i => (i.zero, i.size, i.bytes)) = some (some z, size, bytes)) (hzs : z.cells.size = size) (hsz : 0 < size)
    {ops : Array Oper} {o : Oper} {a : Act} {w : World} {K : Act → World → Prop} {Q : Exit → Act → World → Prop} {Els : Prop}
    (hg : o.guard = none) (s x : Operand) (hop : o.op = Op.call { callee := Callee.builtin Builtin.append, args := #[s, x], argTypes := #[T, T] })
    (base : Nat) (v : Value) (k : Nat) (xs : List Value) (hs : a.eval s = v) (hown : w.ownsRow base E size v k xs) (b off m c : Nat) (ys : List Value) (hx : a.eval x = .slice (some ⟨b, off, none⟩) m c)
    (hy : ys.length = m * size) (hc : ∀ j u, ys[j]? = some u → w.cell? ⟨b, off + j, none⟩ = some u) (h1 : ∀ u ∈ ys, u.oneCell' = true) (h63 : k + m ≤ 70368744177663) (hbytes : (k + m) * bytes ≤ 140737488355328) (hb : base ≤ w.heap.size)
    (hK : ∀ v' w', w'.ownsRow base E size v' (k + m) (xs ++ ys) → w.grownBy w' v.ownBlock → (v'.ownBlock = v.ownBlock ∨ v'.ownBlock = some w.heap.size) → (v' = .slice none 0 0 ↔ v = .slice none 0 0 ∧ m = 0) → K (a.put o.dst v') w') :
    if Region.wanted o (yielded ops a.tmps) = true then Oper.wp Try.prog o a w K Q else Els := by
  have hw : Region.wanted o (yielded ops a.tmps) = true := by simp [Region.wanted, hg]
  rw [if_pos hw]
  obtain ⟨i0, hi, hz0, hz1, hz2⟩ := inf_parts hinf
  have hnews : ∀ j u, ys[j]? = some u → w.cell? ((⟨b, off, none⟩ : Addr).add j) = some u := fun j u hu => by rw [add_plain]; exact hc j u hu
  obtain ⟨v', w', hrun, r1, r2, r3⟩ := run_append_own (P := Try.prog) w base T o.type _ i0 _ size bytes ht hi hz0 hz1 hz2 hzs hsz v k xs hown ⟨b, off, none⟩ m c ys hy hnews h1 (by unfold maxLen; omega) hbytes hb
  have r4 := append_blk (P := Try.prog) w base T o.type _ i0 _ size bytes ht hi hz0 hz1 hz2 v k xs hown ⟨b, off, none⟩ m c ys hy hnews h1 (by unfold maxLen; omega) hbytes hrun
  unfold Oper.wp
  simp [execOp, hop, resolve, invoke, builtin, hs, hx, hrun, Result.andThen]
  exact hK _ _ r1 r2 r4 r3

end Go.Proofs.Ytighhcdlgjaacaa

namespace Go.Proofs.Ytighhcdlgjaacaa
open Go.RowKit

/-- The cells of files. -/
def rowF (F : List FI) : List Value := F.flatMap fun f => [.string f.1, .string f.2]
theorem rowF_nil : rowF [] = [] := rfl
theorem rowF_cons (f : FI) (F : List FI) : rowF (f :: F) = [.string f.1, .string f.2] ++ rowF F := by simp [rowF]
theorem rowF_app (F G : List FI) : rowF (F ++ G) = rowF F ++ rowF G := by simp [rowF]
theorem rowF_len (F : List FI) : (rowF F).length = F.length * 2 := by
  induction F with
  | nil => rfl
  | cons f F ih => rw [rowF_cons, List.length_append, ih]; simp; omega
theorem rowF_at : ∀ (F : List FI) (j : Nat), j < F.length → (rowF F)[j * 2]? = some (.string (F.getD j fi0).1) ∧ (rowF F)[j * 2 + 1]? = some (.string (F.getD j fi0).2)
  | [], j, h => by simp at h
  | f :: F, 0, _ => by rw [rowF_cons]; exact ⟨rfl, rfl⟩
  | f :: F, j + 1, h => by
    have ih := rowF_at F j (by simpa using h)
    rw [rowF_cons]
    have e1 : (j + 1) * 2 = j * 2 + 2 := by omega
    have e2 : (j + 1) * 2 + 1 = j * 2 + 1 + 2 := by omega
    rw [e2, e1]
    simpa using ih
theorem rowF_one (F : List FI) : ∀ v ∈ rowF F, v.oneCell' = true := by
  intro v hv
  simp only [rowF, List.mem_flatMap] at hv
  obtain ⟨f, _, h⟩ := hv
  simp at h
  rcases h with rfl | rfl <;> rfl
/-- A slice of files. -/
def FilesAt (w : World) (a : Option Addr) (F : List FI) : Prop := ∀ j, j < F.length → ∃ b off, a = some ⟨b, off, none⟩ ∧ w.cell? ⟨b, off + j * 2, none⟩ = some (.string (F.getD j fi0).1) ∧ w.cell? ⟨b, off + j * 2 + 1, none⟩ = some (.string (F.getD j fi0).2)
theorem FilesAt.below {w w' : World} {a : Option Addr} {F : List FI} (h : FilesAt w a F) (hb : Below w.heap.size w w') : FilesAt w' a F := fun j hj => by
  obtain ⟨b, off, e, h1, h2⟩ := h j hj
  exact ⟨b, off, e, (hb.cell (p := ⟨b, off + j * 2, none⟩) (block_lt_of_cell h1)).trans h1, (hb.cell (p := ⟨b, off + j * 2 + 1, none⟩) (block_lt_of_cell h2)).trans h2⟩
theorem own_files {w : World} {base n : Nat} {e : TypeId} {v : Value} {F : List FI} (h : w.ownsRow base e 2 v n (rowF F)) (hn : F.length = n) : ∃ a c, v = .slice a n c ∧ FilesAt w a F := by
  rcases own_kinds h with ⟨rfl, h0⟩ | ⟨g, c, rfl, _, _⟩
  · exact ⟨none, 0, by rw [h0], fun j hj => by omega⟩
  · refine ⟨_, c, rfl, fun j hj => ⟨g, 0, rfl, ?_, ?_⟩⟩
    · rw [Nat.zero_add]; exact (own_cellV h (rowF_at F j hj).1).1
    · rw [Nat.zero_add]; exact (own_cellV h (rowF_at F j hj).2).1
/-- The cells of ops. -/
def rowO (O : List OP) : List Value := O.flatMap fun o => [.int .i64 o.k, .string o.n, .string o.t, .string o.d]
theorem rowO_nil : rowO [] = [] := rfl
theorem rowO_cons (o : OP) (O : List OP) : rowO (o :: O) = [.int .i64 o.k, .string o.n, .string o.t, .string o.d] ++ rowO O := by simp [rowO]
theorem rowO_app (O Q : List OP) : rowO (O ++ Q) = rowO O ++ rowO Q := by simp [rowO]
theorem rowO_len (O : List OP) : (rowO O).length = O.length * 4 := by
  induction O with
  | nil => rfl
  | cons o O ih => rw [rowO_cons, List.length_append, ih]; simp; omega
theorem rowO_one (O : List OP) : ∀ v ∈ rowO O, v.oneCell' = true := by
  intro v hv
  simp only [rowO, List.mem_flatMap] at hv
  obtain ⟨f, _, h⟩ := hv
  simp at h
  rcases h with rfl | rfl | rfl | rfl <;> rfl
theorem rowO_at : ∀ (O : List OP) (j : Nat), j < O.length → (rowO O)[j * 4]? = some (.int .i64 (O.getD j op0).k) ∧ (rowO O)[j * 4 + 1]? = some (.string (O.getD j op0).n) ∧ (rowO O)[j * 4 + 2]? = some (.string (O.getD j op0).t) ∧ (rowO O)[j * 4 + 3]? = some (.string (O.getD j op0).d)
  | [], j, h => by simp at h
  | f :: F, 0, _ => by rw [rowO_cons]; exact ⟨rfl, rfl, rfl, rfl⟩
  | f :: F, j + 1, h => by
    have ih := rowO_at F j (by simpa using h)
    rw [rowO_cons]
    have e1 : (j + 1) * 4 = j * 4 + 4 := by omega
    have e2 : (j + 1) * 4 + 1 = j * 4 + 1 + 4 := by omega
    have e3 : (j + 1) * 4 + 2 = j * 4 + 2 + 4 := by omega
    have e4 : (j + 1) * 4 + 3 = j * 4 + 3 + 4 := by omega
    rw [e2, e3, e4, e1]
    simpa using ih
def OpsAt (w : World) (a : Option Addr) (O : List OP) : Prop := ∀ j, j < O.length → ∃ b off, a = some ⟨b, off, none⟩ ∧ w.cell? ⟨b, off + j * 4, none⟩ = some (.int .i64 (O.getD j op0).k) ∧ w.cell? ⟨b, off + j * 4 + 1, none⟩ = some (.string (O.getD j op0).n) ∧ w.cell? ⟨b, off + j * 4 + 2, none⟩ = some (.string (O.getD j op0).t) ∧ w.cell? ⟨b, off + j * 4 + 3, none⟩ = some (.string (O.getD j op0).d)
theorem OpsAt.below {w w' : World} {a : Option Addr} {O : List OP} (h : OpsAt w a O) (hb : Below w.heap.size w w') : OpsAt w' a O := fun j hj => by
  obtain ⟨b, off, e, h1, h2, h3, h4⟩ := h j hj
  exact ⟨b, off, e, (hb.cell (p := ⟨b, off + j * 4, none⟩) (block_lt_of_cell h1)).trans h1, (hb.cell (p := ⟨b, off + j * 4 + 1, none⟩) (block_lt_of_cell h2)).trans h2, (hb.cell (p := ⟨b, off + j * 4 + 2, none⟩) (block_lt_of_cell h3)).trans h3, (hb.cell (p := ⟨b, off + j * 4 + 3, none⟩) (block_lt_of_cell h4)).trans h4⟩
theorem own_ops {w : World} {base n : Nat} {e : TypeId} {v : Value} {O : List OP} (h : w.ownsRow base e 4 v n (rowO O)) (hn : O.length = n) : ∃ a c, v = .slice a n c ∧ OpsAt w a O := by
  rcases own_kinds h with ⟨rfl, h0⟩ | ⟨g, c, rfl, _, _⟩
  · exact ⟨none, 0, by rw [h0], fun j hj => by omega⟩
  · refine ⟨_, c, rfl, fun j hj => ⟨g, 0, rfl, ?_, ?_, ?_, ?_⟩⟩
    · rw [Nat.zero_add]; exact (own_cellV h (rowO_at O j hj).1).1
    · rw [Nat.zero_add]; exact (own_cellV h (rowO_at O j hj).2.1).1
    · rw [Nat.zero_add]; exact (own_cellV h (rowO_at O j hj).2.2.1).1
    · rw [Nat.zero_add]; exact (own_cellV h (rowO_at O j hj).2.2.2).1
theorem cells4 {w : World} {k : Nat} {c0 c1 c2 c3 : Value} {T : TypeId} (r : w.heap[k]? = some (.cells #[c0, c1, c2, c3] T (0, 0))) :
    w.cell? ⟨k, 0, none⟩ = some c0 ∧ w.cell? ⟨k, 1, none⟩ = some c1 ∧ w.cell? ⟨k, 2, none⟩ = some c2 ∧ w.cell? ⟨k, 3, none⟩ = some c3 := by
  refine ⟨?_, ?_, ?_, ?_⟩
  · rw [cell_of_row _ _ 0 _ _ _ r]; simp
  · rw [cell_of_row _ _ 1 _ _ _ r]; simp
  · rw [cell_of_row _ _ 2 _ _ _ r]; simp
  · rw [cell_of_row _ _ 3 _ _ _ r]; simp
theorem cells3 {w : World} {k : Nat} {c0 c1 c2 : Value} {T : TypeId} (r : w.heap[k]? = some (.cells #[c0, c1, c2] T (0, 0))) :
    w.cell? ⟨k, 0, none⟩ = some c0 ∧ w.cell? ⟨k, 1, none⟩ = some c1 ∧ w.cell? ⟨k, 2, none⟩ = some c2 := by
  refine ⟨?_, ?_, ?_⟩
  · rw [cell_of_row _ _ 0 _ _ _ r]; simp
  · rw [cell_of_row _ _ 1 _ _ _ r]; simp
  · rw [cell_of_row _ _ 2 _ _ _ r]; simp

end Go.Proofs.Ytighhcdlgjaacaa

namespace Go.Proofs.Ytighhcdlgjaacaa
open Go.RowKit

theorem nmB_in (s : ByteArray) : inB (s.size : Int) 1 100 = nmB s := by
  unfold inB nmB
  congr 1
  exact propext ⟨fun h => by omega, fun h => by omega⟩
theorem isFileName_any (s : ByteArray) (w : World) :
    Calls Try.prog 62 #[.string s] w fun e w' => e = .returned (.bool (nmB s)) ∧ w' = w := by
  have WI : Hid (Calls Try.prog 76 #[.int .i64 (s.size : Int), .int .i64 1, .int .i64 100] w fun e w' => e = .returned (.bool (nmB s)) ∧ w' = w) := by
    have := within_any (s.size : Int) 1 100 w
    rw [nmB_in] at this
    exact this
  generalize nmB s = b at *
  go_enter Try.func62, Try.ntmps62
  go_wp2_with fail
  refine WI.out.mono ?_
  rintro e w' ⟨rfl, hw⟩
  subst hw
  go_wp2
  go_ret
  exact ⟨rfl, rfl⟩
/-- The name ahead of a place. -/
def lastN (F : List FI) (i : Nat) : ByteArray := if i = 0 then ⟨#[]⟩ else (F.getD (i - 1) fi0).1
theorem emp_lt {s : ByteArray} (h : nmB s = true) : ltT ⟨#[]⟩ s = true := by
  have h1 : 1 ≤ s.size := by
    unfold nmB at h
    have := of_decide_eq_true h
    omega
  unfold ltT
  rw [show (ByteArray.mk #[]).toList = [] by rw [ByteArray.toList_eq]]
  cases hq : s.toList with
  | nil =>
    rw [ByteArray.toList_eq] at hq
    have : s.size = 0 := by
      have h2 : s.data.toList.length = s.size := Array.length_toList
      rw [hq] at h2
      simpa using h2.symm
    omega
  | cons a l => rfl
theorem stpB_last (F : List FI) (i : Nat) (h : nmB (F.getD i fi0).1 = true) : stpB F i = ltT (lastN F i) (F.getD i fi0).1 := by
  unfold stpB lastN
  rw [h, Bool.true_and]
  by_cases e : i = 0
  · rw [if_pos e, decide_eq_true e, emp_lt h]; rfl
  · rw [if_neg e, decide_eq_false e]; rfl

set_option maxHeartbeats 2000000 in
theorem filesOk_any (a : Option Addr) (c : Nat) (F : List FI) (w : World) (hF : FilesAt w a F) (hn : F.length ≤ 1048576) (ht : totTo F F.length ≤ 1000000000) (hnm : ∀ j, j < F.length → (F.getD j fi0).1.size ≤ 1000000000) :
    Calls Try.prog 39 #[.slice a F.length c] w fun e w' => e = .returned (.bool (filB F)) ∧ Below w.heap.size w w' := by
  have HF : Hid (FilesAt w a F) := hF
  have HNM : Hid (∀ j, j < F.length → (F.getD j fi0).1.size ≤ 1000000000) := hnm
  clear hF hnm
  obtain ⟨r, HR⟩ : ∃ r, Hid (filB F = r) := ⟨_, rfl⟩
  rw [HR.out]
  obtain ⟨n, HN⟩ : ∃ n, Hid (F.length = n) := ⟨_, rfl⟩
  rw [HN.out] at hn ht ⊢
  by_cases h60 : 60 < n
  · have h60' : (60 : Int) < n := by omega
    have hr : r = false := by rw [← HR.out]; exact filB_long (by rw [HN.out]; exact h60)
    subst hr
    go_enter Try.func39, Try.ntmps39
    go_wp2
    go_ret
    exact ⟨rfl, Below.refl _ _⟩
  have h60' : ¬ ((60 : Int) < n) := by omega
  go_enter Try.func39, Try.ntmps39
  go_wp2_with fail
  go_loopw [3, 4, 12] (fun tl tn ti wr => ∃ i : Nat, i ≤ n ∧ ti = .int .i64 i ∧ tn = .int .i64 (totTo F i : Nat) ∧ tl = .string (lastN F i) ∧ filTo F i = true ∧ totTo F i ≤ 200000 ∧ Below w.heap.size w wr) (fun _ _ ti _ => n - (intOf ti).toNat)
  case atStart => exact ⟨0, Nat.zero_le _, rfl, rfl, rfl, rfl, Nat.zero_le _, Below.refl _ _⟩
  case round =>
    obtain ⟨i, hi, rfl, rfl, rfl, hfi, ht2, hb⟩ := hrel
    have HFI : Hid (filTo F i = true) := hfi
    have B1 : Hid (Below w.heap.size w wr) := hb
    clear hfi hb
    by_cases hlt : i < n
    · have hin : (i : Int) < n := by omega
      have hiF : i < F.length := by rw [HN.out]; exact hlt
      obtain ⟨b, off, e, c1, c2⟩ := (HF.out.below B1.out) i hiF
      subst e
      have ht1 : totTo F (i + 1) ≤ 1000000000 := Nat.le_trans (totTo_le F hlt) ht
      have hsz := HNM.out i hiF
      have HT1 : Hid (totTo F (i + 1) = totTo F i + (F.getD i fi0).2.size) := rfl
      rw [HT1.out] at ht1
      have HBIG : Hid (200000 < totTo F i + (F.getD i fi0).2.size → r = false) := fun h => by rw [← HR.out]; exact filB_tot (k := i + 1) hiF (by rw [HT1.out]; exact h)
      have HST : Hid (filTo F (i + 1) = stpB F i) := by show _ = _; rw [filTo, HFI.out]; rfl
      have HNO : Hid (stpB F i = false → r = false) := fun h => by rw [← HR.out]; exact filB_step hiF h
      have HNN : Hid (nmB (F.getD i fi0).1 = false → stpB F i = false) := fun h => by unfold stpB; rw [h]; rfl
      have HLT : Hid (nmB (F.getD i fi0).1 = true → stpB F i = ltT (lastN F i) (F.getD i fi0).1) := stpB_last F i
      have HLN : Hid (lastN F (i + 1) = (F.getD i fi0).1) := by show _ = _; unfold lastN; rw [if_neg (by omega)]; rfl
      obtain ⟨l, HL⟩ : ∃ l, Hid (lastN F i = l) := ⟨_, rfl⟩
      rw [HL.out] at HLT ⊢
      generalize F.getD i fi0 = f at *
      obtain ⟨x, y⟩ := f
      simp only at c1 c2 hsz ht1 HT1 HNN HLT HLN HBIG
      have IN : Hid (∀ W b, nmB x = b → Calls Try.prog 62 #[.string x] W fun e w' => e = .returned (.bool b) ∧ w' = W) := fun W b hb => by
        have := isFileName_any x W
        rw [hb] at this
        exact this
      have R2 : Hid ((wr.alloc (.cells #[.string x, .string y] 72)).heap[wr.heap.size]? = some (.cells #[.string x, .string y] 72 (0, 0))) := heap_alloc_new _ _
      obtain ⟨k0, k1⟩ := cells2 R2.out
      have B2 : Hid (Below w.heap.size w (wr.alloc (.cells #[.string x, .string y] 72))) := B1.out.alloc B1.out.size _
      generalize totTo F i = t at *
      cases hnm : nmB x
      · have hr : r = false := HNO.out (HNN.out hnm)
        subst hr
        go_wp2_with (first
          | (go_at_call 62
             with_reducible refine (IN.out _ _ hnm).mono ?_
             rintro e w' ⟨rfl, hw⟩
             subst hw))
        go_ret
        exact ⟨rfl, B2.out⟩
      · cases hl2 : ltT l x
        · have hr : r = false := HNO.out ((HLT.out hnm).trans hl2)
          subst hr
          have hle : (Op.bytesLess x.toList l.toList || x.toList == l.toList) = true := by
            cases hq : ltT x l
            · rw [str_eq (ltT_tri hq hl2), Bool.or_true]
            · unfold ltT at hq
              rw [hq, Bool.true_or]
          clear hl2 HLT HST HNO
          go_wp2_with (first
            | (go_at_call 62
               with_reducible refine (IN.out _ _ hnm).mono ?_
               rintro e w' ⟨rfl, hw⟩
               subst hw))
          go_ret
          exact ⟨rfl, B2.out⟩
        · have HY : Hid (filTo F (i + 1) = true) := HST.out.trans ((HLT.out hnm).trans hl2)
          have hle : (Op.bytesLess x.toList l.toList || x.toList == l.toList) = false := by
            have h1 := ltT_asym hl2
            unfold ltT at h1
            rw [h1, str_ne (fun e => ltT_ne hl2 e.symm)]
            rfl
          clear hl2 HLT HST HNO
          by_cases hbig : 200000 < t + y.size
          · have hr : r = false := HBIG.out hbig
            subst hr
            have hbg : (200000 : Int) < (t : Int) + y.size := by omega
            go_wp2_with (first
              | (go_at_call 62
                 with_reducible refine (IN.out _ _ hnm).mono ?_
                 rintro e w' ⟨rfl, hw⟩
                 subst hw))
            go_ret
            exact ⟨rfl, B2.out⟩
          · have hbg : ¬ ((200000 : Int) < (t : Int) + y.size) := by omega
            go_wp2_with (first
              | (go_at_call 62
                 with_reducible refine (IN.out _ _ hnm).mono ?_
                 rintro e w' ⟨rfl, hw⟩
                 subst hw))
            go_roundw
            case rel => exact ⟨i + 1, by omega, by first | rfl | go_num, by rw [HT1.out]; first | rfl | go_num, by rw [HLN.out], HY.out, by rw [HT1.out]; omega, B2.out⟩
            case measure => simp [intOf]; omega
    · have hin : i = n := by omega
      subst hin
      have hr : r = true := by
        rw [← HR.out, filB_end (by rw [HN.out]; omega) (by rw [HN.out]; exact HFI.out), HN.out]
        exact decide_eq_true ht2
      subst hr
      generalize totTo F i = t at *
      go_wp2
      go_ret
      exact ⟨rfl, B1.out⟩

end Go.Proofs.Ytighhcdlgjaacaa

namespace Go.Proofs.Ytighhcdlgjaacaa
open Go.RowKit

set_option maxHeartbeats 400000 in
theorem l12Name_any (s : ByteArray) (w : World) (hs : s.size ≤ 1000000000) :
    Calls Try.prog 58 #[.string s] w fun e w' => e = .returned (.bool (nmB s)) ∧ w' = w := by
  unfold nmB
  by_cases h1 : 1 ≤ s.size
  · by_cases h2 : s.size ≤ 100
    · rw [decide_eq_true ⟨h1, h2⟩]
      have g1 : (1 : Int) ≤ s.size := by omega
      have g2 : (s.size : Int) ≤ 100 := by omega
      go_enter Try.func58, Try.ntmps58
      go_wp2
      go_ret
      exact ⟨by simp, rfl⟩
    · rw [decide_eq_false (by omega)]
      have g1 : (1 : Int) ≤ s.size := by omega
      have g2 : ¬ ((s.size : Int) ≤ 100) := by omega
      go_enter Try.func58, Try.ntmps58
      go_wp2
      go_ret
      exact ⟨by simp, rfl⟩
  · rw [decide_eq_false (by omega)]
    have g1 : ¬ ((1 : Int) ≤ s.size) := by omega
    go_enter Try.func58, Try.ntmps58
    go_wp2
    go_ret
    exact ⟨by simp, rfl⟩

set_option maxHeartbeats 1000000 in
theorem l12Files_any (a : Option Addr) (c : Nat) (F : List FI) (w : World) (hF : FilesAt w a F) (hn : F.length ≤ 1048576) (ht : totTo F F.length ≤ 1000000000) (hnm : ∀ j, j < F.length → (F.getD j fi0).1.size ≤ 1000000000) :
    Calls Try.prog 33 #[.slice a F.length c] w fun e w' => e = .returned (.bool (filB F)) ∧ Below w.heap.size w w' := by
  have HF : Hid (FilesAt w a F) := hF
  have HNM : Hid (∀ j, j < F.length → (F.getD j fi0).1.size ≤ 1000000000) := hnm
  clear hF hnm
  obtain ⟨r, HR⟩ : ∃ r, Hid (filB F = r) := ⟨_, rfl⟩
  rw [HR.out]
  obtain ⟨n, HN⟩ : ∃ n, Hid (F.length = n) := ⟨_, rfl⟩
  rw [HN.out] at hn ht ⊢
  by_cases h60 : 60 < n
  · have h60' : (60 : Int) < n := by omega
    have hr : r = false := by rw [← HR.out]; exact filB_long (by rw [HN.out]; exact h60)
    subst hr
    go_enter Try.func33, Try.ntmps33
    go_wp2
    go_ret
    exact ⟨rfl, Below.refl _ _⟩
  have h60' : ¬ ((60 : Int) < n) := by omega
  go_enter Try.func33, Try.ntmps33
  go_wp2_with fail
  go_loopw [3, 4] (fun tn ti wr => ∃ i : Nat, i ≤ n ∧ ti = .int .i64 i ∧ tn = .int .i64 (totTo F i : Nat) ∧ filTo F i = true ∧ Below w.heap.size w wr) (fun _ ti _ => n - (intOf ti).toNat)
  case atStart => exact ⟨0, Nat.zero_le _, rfl, rfl, rfl, Below.refl _ _⟩
  case round =>
    obtain ⟨i, hi, rfl, rfl, hfi, hb⟩ := hrel
    have HFI : Hid (filTo F i = true) := hfi
    have B1 : Hid (Below w.heap.size w wr) := hb
    clear hfi hb
    have hti : totTo F i ≤ 1000000000 := Nat.le_trans (totTo_le F hi) ht
    by_cases hlt : i < n
    · have hin : (i : Int) < n := by omega
      have hiF : i < F.length := by rw [HN.out]; exact hlt
      obtain ⟨b, off, e, c1, c2⟩ := (HF.out.below B1.out) i hiF
      subst e
      have ht1 : totTo F (i + 1) ≤ 1000000000 := Nat.le_trans (totTo_le F hlt) ht
      have hsz := HNM.out i hiF
      have HT1 : Hid (totTo F (i + 1) = totTo F i + (F.getD i fi0).2.size) := rfl
      rw [HT1.out] at ht1
      have HST : Hid (filTo F (i + 1) = stpB F i) := by show _ = _; rw [filTo, HFI.out]; rfl
      have HNO : Hid (stpB F i = false → r = false) := fun h => by rw [← HR.out]; exact filB_step hiF h
      have hkin := Kin.there wr
      by_cases hnm : nmB (F.getD i fi0).1 = true
      · by_cases hi0 : i = 0
        · subst hi0
          have HY : Hid (filTo F (0 + 1) = true) := by
            show _ = _
            rw [HST.out]
            unfold stpB
            rw [hnm]
            rfl
          clear HNO HST
          have LN : Hid (∀ W, Calls Try.prog 58 #[.string (F.getD 0 fi0).1] W fun e w' => e = .returned (.bool true) ∧ w' = W) := fun W => by
            have := l12Name_any (F.getD 0 fi0).1 W hsz
            rw [hnm] at this
            exact this
          clear hnm
          obtain ⟨x1, HX1⟩ : ∃ x, Hid ((F.getD 0 fi0).1 = x) := ⟨_, rfl⟩
          obtain ⟨x2, HX2⟩ : ∃ x, Hid ((F.getD 0 fi0).2 = x) := ⟨_, rfl⟩
          rw [HX1.out] at c1 LN hsz
          rw [HX2.out] at c2 HT1 ht1
          rw [Nat.zero_mul, Nat.add_zero] at c1 c2
          have hd0 : decide (0 < 0) = false := rfl
          have z1 := fun s : Kin wr => s.cell c1
          have z2 := fun s : Kin wr => s.cell c2
          go_wp2_with fail
          refine wp_region_kin (by kernel_rfl) (by kernel_rfl) ?_
          repeat (go_big_quiet_step ((go_at_call 58; with_reducible exact Kin.call_same (LN.out _))))
          refine wpQuiet_nil ?_
          rintro _ ⟨s1, rfl⟩
          have B2 : Hid (Below w.heap.size w s1.w) := B1.out.trans (s1.below.mono B1.out.size)
          have d2 := z2 s1
          clear z1 z2 hkin
          generalize s1.w = w2 at *
          generalize totTo F 0 = t at *
          go_wp2
          go_roundw
          case rel => exact ⟨0 + 1, by omega, by first | rfl | go_num, by rw [HT1.out]; first | rfl | go_num, HY.out, B2.out⟩
          case measure => simp [intOf]; omega
        · have hi0' : (0 : Int) < i := by omega
          have hdi : decide (0 < i) = true := decide_eq_true (by omega)
          obtain ⟨b', off', e, p1, -⟩ := (HF.out.below B1.out) (i - 1) (by rw [HN.out]; omega)
          simp only [Option.some.injEq, Addr.mk.injEq] at e
          obtain ⟨rfl, rfl, -⟩ := e
          have hq1 : (0 : Int) ≤ (i : Int) - 1 := by omega
          have hq2 : ((i : Int) - 1).toNat = i - 1 := by omega
          have hq3 : (i : Int) - 1 < n := by omega
          have LN : Hid (∀ W, Calls Try.prog 58 #[.string (F.getD i fi0).1] W fun e w' => e = .returned (.bool true) ∧ w' = W) := fun W => by
            have := l12Name_any (F.getD i fi0).1 W hsz
            rw [hnm] at this
            exact this
          have HSB : Hid (stpB F i = ltT (F.getD (i - 1) fi0).1 (F.getD i fi0).1) := by
            show _ = _
            unfold stpB
            rw [hnm, decide_eq_false hi0]
            rfl
          clear hnm hi0
          obtain ⟨x1, HX1⟩ : ∃ x, Hid ((F.getD i fi0).1 = x) := ⟨_, rfl⟩
          obtain ⟨x2, HX2⟩ : ∃ x, Hid ((F.getD i fi0).2 = x) := ⟨_, rfl⟩
          obtain ⟨y1, HY1⟩ : ∃ x, Hid ((F.getD (i - 1) fi0).1 = x) := ⟨_, rfl⟩
          rw [HX1.out] at c1 LN hsz HSB
          rw [HX2.out] at c2 HT1 ht1
          rw [HY1.out] at p1 HSB
          have z1 := fun s : Kin wr => s.cell c1
          have z2 := fun s : Kin wr => s.cell c2
          have z3 := fun s : Kin wr => s.cell p1
          cases hlt2 : ltT y1 x1
          · have hr : r = false := HNO.out (HSB.out.trans hlt2)
            subst hr
            have hle : (Op.bytesLess x1.toList y1.toList || x1.toList == y1.toList) = true := by
              cases hq : ltT x1 y1
              · rw [str_eq (ltT_tri hq hlt2), Bool.or_true]
              · unfold ltT at hq
                rw [hq, Bool.true_or]
            clear hlt2 HSB
            go_wp2_with fail
            refine wp_region_kin (by kernel_rfl) (by kernel_rfl) ?_
            repeat (go_big_quiet_step ((go_at_call 58; with_reducible exact Kin.call_same (LN.out _))))
            refine wpQuiet_nil ?_
            rintro _ ⟨s1, rfl⟩
            have B2 : Hid (Below w.heap.size w s1.w) := B1.out.trans (s1.below.mono B1.out.size)
            clear z1 z2 z3 hkin
            generalize s1.w = w2 at *
            go_wp2
            go_ret
            exact ⟨rfl, B2.out⟩
          · have HY : Hid (filTo F (i + 1) = true) := HST.out.trans (HSB.out.trans hlt2)
            have hle : (Op.bytesLess x1.toList y1.toList || x1.toList == y1.toList) = false := by
              have h1 := ltT_asym hlt2
              unfold ltT at h1
              rw [h1, str_ne (fun e => ltT_ne hlt2 e.symm)]
              rfl
            clear hlt2 HSB HST HNO
            go_wp2_with fail
            refine wp_region_kin (by kernel_rfl) (by kernel_rfl) ?_
            repeat (go_big_quiet_step ((go_at_call 58; with_reducible exact Kin.call_same (LN.out _))))
            refine wpQuiet_nil ?_
            rintro _ ⟨s1, rfl⟩
            have B2 : Hid (Below w.heap.size w s1.w) := B1.out.trans (s1.below.mono B1.out.size)
            have d2 := z2 s1
            clear z1 z2 z3 hkin
            generalize s1.w = w2 at *
            generalize totTo F i = t at *
            go_wp2
            go_roundw
            case rel => exact ⟨i + 1, by omega, by first | rfl | go_num, by rw [HT1.out]; first | rfl | go_num, HY.out, B2.out⟩
            case measure => simp [intOf]; omega
      · have hnm : nmB (F.getD i fi0).1 = false := by simpa using hnm
        have hr : r = false := HNO.out (by unfold stpB; rw [hnm]; rfl)
        subst hr
        have LN : Hid (∀ W, Calls Try.prog 58 #[.string (F.getD i fi0).1] W fun e w' => e = .returned (.bool false) ∧ w' = W) := fun W => by
          have := l12Name_any (F.getD i fi0).1 W hsz
          rw [hnm] at this
          exact this
        clear hnm
        obtain ⟨x1, HX1⟩ : ∃ x, Hid ((F.getD i fi0).1 = x) := ⟨_, rfl⟩
        rw [HX1.out] at c1 LN hsz
        have z1 := fun s : Kin wr => s.cell c1
        go_wp2_with fail
        refine wp_region_kin (by kernel_rfl) (by kernel_rfl) ?_
        repeat (go_big_quiet_step ((go_at_call 58; with_reducible exact Kin.call_same (LN.out _))))
        refine wpQuiet_nil ?_
        rintro _ ⟨s1, rfl⟩
        have B2 : Hid (Below w.heap.size w s1.w) := B1.out.trans (s1.below.mono B1.out.size)
        clear z1 hkin
        generalize s1.w = w2 at *
        go_wp2
        go_ret
        exact ⟨rfl, B2.out⟩
    · have hin : i = n := by omega
      subst hin
      have HRR : Hid (r = decide (totTo F i ≤ 200000)) := by
        show _ = _
        rw [← HR.out, filB_end (by rw [HN.out]; omega) (by rw [HN.out]; exact HFI.out), HN.out]
      generalize totTo F i = t at *
      go_wp2
      go_ret
      exact ⟨by rw [HRR.out]; simp; omega, B1.out⟩

end Go.Proofs.Ytighhcdlgjaacaa

namespace Go.Proofs.Ytighhcdlgjaacaa
open Go.RowKit

theorem emp_eq (x : ByteArray) : x.toList.isEmpty = decide (x = ⟨#[]⟩) := by
  by_cases h : x = ⟨#[]⟩
  · rw [decide_eq_true h, h, ByteArray.toList_eq]; rfl
  · rw [decide_eq_false h]
    have := str_ne h
    rw [show (ByteArray.mk #[]).toList = [] by rw [ByteArray.toList_eq]] at this
    cases hq : x.toList with
    | nil => rw [hq] at this; exact absurd this (by decide)
    | cons a l => rfl

set_option maxHeartbeats 2000000 in
theorem l12Form_any (o : OP) (w : World) (h1 : o.n.size ≤ 1000000000) (h2 : o.t.size ≤ 1000000000) :
    Calls Try.prog 35 #[.agg #[.int .i64 o.k, .string o.n, .string o.t, .string o.d]] w fun e w' => e = .returned (.bool (frmB o)) ∧ Below w.heap.size w w' := by
  obtain ⟨k, n, t, d⟩ := o
  simp only at h1 h2
  have B0 : Hid (Below w.heap.size w (w.alloc (.cells #[.int .i64 k, .string n, .string t, .string d] 40))) := (Below.refl _ _).alloc (Nat.le_refl _) _
  have hr : (w.alloc (.cells #[.int .i64 k, .string n, .string t, .string d] 40)).heap[w.heap.size]? = some (.cells #[.int .i64 k, .string n, .string t, .string d] 40 (0, 0)) := heap_alloc_new _ _
  obtain ⟨c0, c1, c2, c3⟩ := cells4 hr
  clear hr
  have LI : Hid (∀ W b, inB k 1 3 = b → Calls Try.prog 51 #[.int .i64 k, .int .i64 1, .int .i64 3] W fun e w' => e = .returned (.bool b) ∧ w' = W) := fun W b hb => by
    have := l1In_any k 1 3 W
    rw [hb] at this
    exact this
  have LN : Hid (∀ W x b, x.size ≤ 1000000000 → nmB x = b → Calls Try.prog 58 #[.string x] W fun e w' => e = .returned (.bool b) ∧ w' = W) := fun W x b hx hb => by
    have := l12Name_any x W hx
    rw [hb] at this
    exact this
  have ed := emp_eq d
  have et := emp_eq t
  obtain ⟨r, HR⟩ : ∃ r, Hid (frmB ⟨k, n, t, d⟩ = r) := ⟨_, rfl⟩
  rw [HR.out]
  cases hk : inB k 1 3
  · have hrr : r = false := by
      rw [← HR.out]; unfold frmB; simp only
      rw [show decide (1 ≤ k ∧ k ≤ 3) = false from hk]; rfl
    subst hrr
    go_enter Try.func35, Try.ntmps35
    go_wp2_with (first
      | (go_at_call 51; refine (LI.out _ _ hk).mono ?_; rintro e w' ⟨rfl, hw⟩; subst hw))
    go_ret
    exact ⟨rfl, B0.out⟩
  · have hk1 : decide (1 ≤ k ∧ k ≤ 3) = true := hk
    cases hn : nmB n
    · have hrr : r = false := by
        rw [← HR.out]; unfold frmB; simp only
        rw [hn, Bool.false_and, Bool.and_false]
      subst hrr
      go_enter Try.func35, Try.ntmps35
      go_wp2_with (first
        | (go_at_call 51; refine (LI.out _ _ hk).mono ?_; rintro e w' ⟨rfl, hw⟩; subst hw)
        | (go_at_call 58; refine (LN.out _ _ _ h1 hn).mono ?_; rintro e w' ⟨rfl, hw⟩; subst hw))
      go_ret
      exact ⟨rfl, B0.out⟩
    · by_cases k2 : k = 2
      · subst k2
        cases htn : nmB t
        · have hrr : r = false := by
            rw [← HR.out]; unfold frmB; simp only
            rw [if_pos trivial, htn, Bool.false_and, Bool.and_false, Bool.and_false]
          subst hrr
          go_enter Try.func35, Try.ntmps35
          go_wp2_with (first
            | (go_at_call 51; refine (LI.out _ _ hk).mono ?_; rintro e w' ⟨rfl, hw⟩; subst hw)
            | (go_at_call 58; with_reducible refine (LN.out _ n _ h1 hn).mono ?_; rintro e w' ⟨rfl, hw⟩; subst hw)
            | (go_at_call 58; with_reducible refine (LN.out _ t _ h2 htn).mono ?_; rintro e w' ⟨rfl, hw⟩; subst hw))
          go_ret
          exact ⟨rfl, B0.out⟩
        · have hrr : r = decide (d = ⟨#[]⟩) := by
            rw [← HR.out]; unfold frmB; simp only
            rw [if_pos trivial, htn, hn, hk1, Bool.true_and, Bool.true_and, Bool.true_and]
          subst hrr
          go_enter Try.func35, Try.ntmps35
          go_wp2_with (first
            | (go_at_call 51; refine (LI.out _ _ hk).mono ?_; rintro e w' ⟨rfl, hw⟩; subst hw)
            | (go_at_call 58; with_reducible refine (LN.out _ n _ h1 hn).mono ?_; rintro e w' ⟨rfl, hw⟩; subst hw)
            | (go_at_call 58; with_reducible refine (LN.out _ t _ h2 htn).mono ?_; rintro e w' ⟨rfl, hw⟩; subst hw))
          go_ret
          exact ⟨rfl, B0.out⟩
      · have hk2b : (k == 2) = false := by simp [k2]
        by_cases k1 : k = 1
        · subst k1
          have hrr : r = decide (t = ⟨#[]⟩) := by
            rw [← HR.out]; unfold frmB; simp only
            rw [if_neg (by omega), hn, hk1, Bool.true_and, Bool.true_and, show decide True = true from rfl, Bool.true_or, Bool.and_true]
          subst hrr
          cases ht : decide (t = ⟨#[]⟩)
          · rw [ht] at et
            go_enter Try.func35, Try.ntmps35
            go_wp2_with (first
              | (go_at_call 51; refine (LI.out _ _ hk).mono ?_; rintro e w' ⟨rfl, hw⟩; subst hw)
              | (go_at_call 58; with_reducible refine (LN.out _ n _ h1 hn).mono ?_; rintro e w' ⟨rfl, hw⟩; subst hw))
            go_ret
            exact ⟨rfl, B0.out⟩
          · rw [ht] at et
            go_enter Try.func35, Try.ntmps35
            go_wp2_with (first
              | (go_at_call 51; refine (LI.out _ _ hk).mono ?_; rintro e w' ⟨rfl, hw⟩; subst hw)
              | (go_at_call 58; with_reducible refine (LN.out _ n _ h1 hn).mono ?_; rintro e w' ⟨rfl, hw⟩; subst hw))
            go_ret
            exact ⟨rfl, B0.out⟩
        · have hk1b : (k == 1) = false := by simp [k1]
          have hrr : r = (decide (t = ⟨#[]⟩) && decide (d = ⟨#[]⟩)) := by
            rw [← HR.out]; unfold frmB; simp only
            rw [if_neg k2, hn, hk1, Bool.true_and, Bool.true_and, decide_eq_false k1, Bool.false_or]
          subst hrr
          cases ht : decide (t = ⟨#[]⟩)
          · rw [ht] at et
            go_enter Try.func35, Try.ntmps35
            go_wp2_with (first
              | (go_at_call 51; refine (LI.out _ _ hk).mono ?_; rintro e w' ⟨rfl, hw⟩; subst hw)
              | (go_at_call 58; with_reducible refine (LN.out _ n _ h1 hn).mono ?_; rintro e w' ⟨rfl, hw⟩; subst hw))
            go_ret
            exact ⟨rfl, B0.out⟩
          · rw [ht] at et
            go_enter Try.func35, Try.ntmps35
            go_wp2_with (first
              | (go_at_call 51; refine (LI.out _ _ hk).mono ?_; rintro e w' ⟨rfl, hw⟩; subst hw)
              | (go_at_call 58; with_reducible refine (LN.out _ n _ h1 hn).mono ?_; rintro e w' ⟨rfl, hw⟩; subst hw))
            go_ret
            exact ⟨rfl, B0.out⟩

/-- The place of a name. -/
theorem atF_at {F : List FI} {n : ByteArray} {i : Nat} (hi : i < F.length) (h : (F.getD i fi0).1 = n) (hno : ∀ j, j < i → (F.getD j fi0).1 ≠ n) : atF F n = i := by
  have : (List.range F.length).find? (fun i => decide ((F.getD i fi0).1 = n)) = some i := by
    rw [List.find?_range_eq_some]
    exact ⟨decide_eq_true h, by simpa using hi, fun j hj => by rw [decide_eq_false (hno j hj)]; rfl⟩
  unfold atF
  rw [this]
theorem atF_none {F : List FI} {n : ByteArray} (hno : ∀ j, j < F.length → (F.getD j fi0).1 ≠ n) : atF F n = -1 := by
  have : (List.range F.length).find? (fun i => decide ((F.getD i fi0).1 = n)) = none := by
    rw [List.find?_eq_none]
    intro j hj
    have := hno j (by simpa using hj)
    simpa using this
  unfold atF
  rw [this]
/-- What the place tells. -/
theorem atF_or (F : List FI) (n : ByteArray) : (atF F n = -1 ∧ hasF F n = false ∧ datF F n = ⟨#[]⟩) ∨ ∃ i : Nat, i < F.length ∧ atF F n = i ∧ hasF F n = true ∧ datF F n = (F.getD i fi0).2 := by
  have key : ∀ G : List FI, (hasF G n = false ∧ datF G n = ⟨#[]⟩ ∧ ∀ j, j < G.length → (G.getD j fi0).1 ≠ n) ∨ ∃ i : Nat, i < G.length ∧ hasF G n = true ∧ datF G n = (G.getD i fi0).2 ∧ (G.getD i fi0).1 = n ∧ ∀ j, j < i → (G.getD j fi0).1 ≠ n := by
    intro G
    induction G with
    | nil => exact .inl ⟨rfl, rfl, fun j hj => by simp at hj⟩
    | cons f G ih =>
      by_cases e : f.1 = n
      · exact .inr ⟨0, by simp, by simp [hasF, e], by simp [datF, e], by simpa using e, fun j hj => by omega⟩
      · rcases ih with ⟨h1, h2, h3⟩ | ⟨i, h0, h1, h2, h3, h4⟩
        · refine .inl ⟨by simpa [hasF, e] using h1, by simpa [datF, e] using h2, fun j hj => ?_⟩
          cases j with
          | zero => simpa using e
          | succ j => simpa using h3 j (by simpa using hj)
        · refine .inr ⟨i + 1, by simpa using h0, by simpa [hasF, e] using h1, by simpa [datF, e] using h2, by simpa using h3, fun j hj => ?_⟩
          cases j with
          | zero => simpa using e
          | succ j => simpa using h4 j (by omega)
  rcases key F with ⟨h1, h2, h3⟩ | ⟨i, h0, h1, h2, h3, h4⟩
  · exact .inl ⟨atF_none h3, h1, h2⟩
  · exact .inr ⟨i, h0, atF_at h0 h3 h4, h1, h2⟩

set_option maxHeartbeats 1000000 in
theorem l12At_any (a : Option Addr) (c : Nat) (F : List FI) (nm : ByteArray) (w : World) (hF : FilesAt w a F) (hn : F.length ≤ 1048576) :
    Calls Try.prog 53 #[.slice a F.length c, .string nm] w fun e w' => e = .returned (.int .i64 (atF F nm)) ∧ w' = w := by
  have HF : Hid (FilesAt w a F) := hF
  clear hF
  obtain ⟨r, HR⟩ : ∃ r, Hid (atF F nm = r) := ⟨_, rfl⟩
  rw [HR.out]
  obtain ⟨n, HN⟩ : ∃ n, Hid (F.length = n) := ⟨_, rfl⟩
  rw [HN.out] at hn ⊢
  go_enter Try.func53, Try.ntmps53
  go_wp2_with fail
  go_loop [5] (fun t => ∃ k : Nat, k ≤ n ∧ t = .int .i64 k ∧ ∀ j, j < k → (F.getD j fi0).1 ≠ nm) (fun t => n - (intOf t).toNat)
  case atStart => exact ⟨0, Nat.zero_le _, rfl, fun j hj => by omega⟩
  case round =>
    obtain ⟨k, hk, rfl, hno⟩ := hrel
    have HNO : Hid (∀ j, j < k → (F.getD j fi0).1 ≠ nm) := hno
    clear hno
    by_cases hlt : k < n
    · have hin : (k : Int) < n := by omega
      have hkF : k < F.length := by rw [HN.out]; exact hlt
      obtain ⟨b, off, e, c1, c2⟩ := HF.out k hkF
      subst e
      have HY : Hid ((F.getD k fi0).1 = nm → r = k) := fun h => HR.out.symm.trans (atF_at hkF h HNO.out)
      have HS : Hid ((F.getD k fi0).1 ≠ nm → ∀ j, j < k + 1 → (F.getD j fi0).1 ≠ nm) := fun h j hj => by
        by_cases e : j = k
        · rw [e]; exact h
        · exact HNO.out j (by omega)
      generalize (F.getD k fi0).1 = x at *
      clear c2
      by_cases he : x = nm
      · have hr : r = k := HY.out he
        subst hr
        have heb := str_eq he
        clear he
        go_wp2
        go_ret
        exact ⟨rfl, rfl⟩
      · have heb := str_ne he
        have HS2 : Hid (∀ j, j < k + 1 → (F.getD j fi0).1 ≠ nm) := HS.out he
        clear he
        go_wp2
        exact ⟨⟨k + 1, by omega, by go_num, HS2.out⟩, by simp [intOf]; omega⟩
    · have hin : ¬ ((k : Int) < n) := by omega
      have hr : r = -1 := HR.out.symm.trans (atF_none (fun j hj => HNO.out j (by rw [HN.out] at hj; omega)))
      subst hr
      go_wp2
      go_ret
      exact ⟨rfl, rfl⟩

end Go.Proofs.Ytighhcdlgjaacaa

namespace Go.Proofs.Ytighhcdlgjaacaa
open Go.RowKit

/-- What does an op of its form. -/
def deedV (o : OP) : Value :=
  if o.k = 1 then .iface 104 (.agg #[.string o.n, .string o.d]) else if o.k = 2 then .iface 106 (.agg #[.string o.n, .string o.t]) else .iface 108 (.agg #[.string o.n])
/-- What deedOf looks at first. -/
def preB (o : OP) : Bool := nmB o.n && ((decide (o.k = 2) || decide (o.t = ⟨#[]⟩)) && (decide (o.k = 1) || decide (o.d = ⟨#[]⟩)))
theorem frm_pre {o : OP} (h : preB o = false) : frmB o = false := by
  unfold preB at h
  unfold frmB
  cases hn : nmB o.n
  · simp
  · rw [hn, Bool.true_and] at h
    by_cases h2 : o.k = 2
    · rw [if_pos h2]
      rw [decide_eq_true h2, Bool.true_or, Bool.true_and, decide_eq_false (by omega), Bool.false_or] at h
      rw [h]
      simp
    · rw [if_neg h2]
      rw [decide_eq_false h2, Bool.false_or] at h
      rw [h]
      simp
theorem frm_one {o : OP} (h : preB o = true) (hk : o.k = 1) : frmB o = true := by
  unfold preB at h
  unfold frmB
  simp only [Bool.and_eq_true, Bool.or_eq_true, decide_eq_true_eq] at h ⊢
  rw [if_neg (by omega)]
  simp only [Bool.and_eq_true, Bool.or_eq_true, decide_eq_true_eq]
  exact ⟨by omega, h.1, by rcases h.2.1 with h1 | h1; omega; exact h1, .inl hk⟩
theorem frm_two {o : OP} (h : preB o = true) (hk : o.k = 2) : frmB o = nmB o.t := by
  unfold preB at h
  unfold frmB
  simp only [Bool.and_eq_true, Bool.or_eq_true, decide_eq_true_eq] at h
  rw [if_pos hk, h.1, decide_eq_true (by omega : 1 ≤ o.k ∧ o.k ≤ 3), decide_eq_true (by rcases h.2.2 with h1 | h1; omega; exact h1)]
  simp
theorem frm_three {o : OP} (h : preB o = true) (hk : o.k = 3) : frmB o = true := by
  unfold preB at h
  unfold frmB
  simp only [Bool.and_eq_true, Bool.or_eq_true, decide_eq_true_eq] at h ⊢
  rw [if_neg (by omega)]
  simp only [Bool.and_eq_true, Bool.or_eq_true, decide_eq_true_eq]
  exact ⟨by omega, h.1, by rcases h.2.1 with h1 | h1; omega; exact h1, by rcases h.2.2 with h1 | h1; omega; exact .inr h1⟩
theorem frm_none {o : OP} (h1 : o.k ≠ 1) (h2 : o.k ≠ 2) (h3 : o.k ≠ 3) : frmB o = false := by
  unfold frmB
  rw [decide_eq_false (by omega)]
  rfl

set_option maxHeartbeats 4000000 in
theorem deedOf_any (o : OP) (w : World) :
    Calls Try.prog 64 #[.agg #[.int .i64 o.k, .string o.n, .string o.t, .string o.d]] w fun e w' => ∃ v, e = .returned (.tuple #[v, .bool (frmB o)]) ∧ (frmB o = true → v = deedV o) ∧ Below w.heap.size w w' := by
  have HP1 : Hid (preB o = false → frmB o = false) := frm_pre
  have HP2 : Hid (preB o = true → o.k = 1 → frmB o = true) := frm_one
  have HP3 : Hid (preB o = true → o.k = 2 → frmB o = nmB o.t) := frm_two
  have HP4 : Hid (preB o = true → o.k = 3 → frmB o = true) := frm_three
  have HP5 : Hid (o.k ≠ 1 → o.k ≠ 2 → o.k ≠ 3 → frmB o = false) := frm_none
  have HV1 : Hid (o.k = 1 → deedV o = .iface 104 (.agg #[.string o.n, .string o.d])) := fun h => by unfold deedV; rw [if_pos h]
  have HV2 : Hid (o.k = 2 → deedV o = .iface 106 (.agg #[.string o.n, .string o.t])) := fun h => by unfold deedV; rw [if_neg (by omega), if_pos h]
  have HV3 : Hid (o.k = 3 → deedV o = .iface 108 (.agg #[.string o.n])) := fun h => by unfold deedV; rw [if_neg (by omega), if_neg (by omega)]
  have HPD : Hid (preB o = (nmB o.n && ((decide (o.k = 2) || decide (o.t = ⟨#[]⟩)) && (decide (o.k = 1) || decide (o.d = ⟨#[]⟩))))) := rfl
  obtain ⟨dv, HDV⟩ : ∃ v, Hid (deedV o = v) := ⟨_, rfl⟩
  rw [HDV.out] at HV1 HV2 HV3 ⊢
  obtain ⟨r, HR⟩ : ∃ r, Hid (frmB o = r) := ⟨_, rfl⟩
  rw [HR.out] at HP1 HP2 HP3 HP4 HP5 ⊢
  obtain ⟨p, HPB⟩ : ∃ r, Hid (preB o = r) := ⟨_, rfl⟩
  rw [HPB.out] at HP1 HP2 HP3 HP4 HPD
  clear HDV HR HPB
  obtain ⟨k, n, t, d⟩ := o
  simp only at HP1 HP2 HP3 HP4 HP5 HV1 HV2 HV3 HPD ⊢
  have B0 : Hid (Below w.heap.size w (w.alloc (.cells #[.int .i64 k, .string n, .string t, .string d] 40))) := (Below.refl _ _).alloc (Nat.le_refl _) _
  have hr : (w.alloc (.cells #[.int .i64 k, .string n, .string t, .string d] 40)).heap[w.heap.size]? = some (.cells #[.int .i64 k, .string n, .string t, .string d] 40 (0, 0)) := heap_alloc_new _ _
  obtain ⟨c0, c1, c2, c3⟩ := cells4 hr
  clear hr
  have IN : Hid (∀ W x b, nmB x = b → Calls Try.prog 62 #[.string x] W fun e w' => e = .returned (.bool b) ∧ w' = W) := fun W x b hb => by
    have := isFileName_any x W
    rw [hb] at this
    exact this
  have ed := emp_eq d
  have et := emp_eq t
  -- CASES
  cases hn : nmB n
  · skip
    have hrr : r = false := HP1.out (by rw [HPD.out, hn]; rfl)
    subst hrr
    go_enter Try.func64, Try.ntmps64
    go_wp2_with (first
      | (go_at_call 62; with_reducible refine (IN.out _ n _ hn).mono ?_; rintro e w' ⟨rfl, hw⟩; subst hw))
    go_ret2
    exact ⟨_, rfl, fun h => (by cases h), B0.out⟩
  · by_cases k1 : k = 1
    · subst k1
      cases ht : decide (t = ⟨#[]⟩)
      · rw [ht] at et
        have hrr : r = false := HP1.out (by rw [HPD.out, hn, ht]; rfl)
        subst hrr
        go_enter Try.func64, Try.ntmps64
        go_wp2_with (first
          | (go_at_call 62; with_reducible refine (IN.out _ n _ hn).mono ?_; rintro e w' ⟨rfl, hw⟩; subst hw))
        go_ret2
        exact ⟨_, rfl, fun h => (by cases h), B0.out⟩
      · rw [ht] at et
        have hp : p = true := by rw [HPD.out, hn, ht]; rfl
        have hrr : r = true := HP2.out hp rfl
        have hv := HV1.out rfl
        subst hrr hv
        go_enter Try.func64, Try.ntmps64
        go_wp2_with (first
          | (go_at_call 62; with_reducible refine (IN.out _ n _ hn).mono ?_; rintro e w' ⟨rfl, hw⟩; subst hw))
        go_ret2
        exact ⟨_, rfl, fun _ => rfl, B0.out⟩
    · by_cases k2 : k = 2
      · subst k2
        cases hd : decide (d = ⟨#[]⟩)
        · rw [hd] at ed
          have hrr : r = false := HP1.out (by rw [HPD.out, hn, hd]; rfl)
          subst hrr
          go_enter Try.func64, Try.ntmps64
          go_wp2_with (first
            | (go_at_call 62; with_reducible refine (IN.out _ n _ hn).mono ?_; rintro e w' ⟨rfl, hw⟩; subst hw))
          go_ret2
          exact ⟨_, rfl, fun h => (by cases h), B0.out⟩
        · rw [hd] at ed
          have hp : p = true := by rw [HPD.out, hn, hd]; rfl
          have hrr : r = nmB t := HP3.out hp rfl
          have hv := HV2.out rfl
          subst hrr hv
          obtain ⟨b, hb⟩ : ∃ b, nmB t = b := ⟨_, rfl⟩
          rw [hb]
          have hkin := Kin.there (w.alloc (.cells #[.int .i64 2, .string n, .string t, .string d] 40))
          have z1 := fun s : Kin (w.alloc (.cells #[.int .i64 2, .string n, .string t, .string d] 40)) => s.cell c1
          have z2 := fun s : Kin (w.alloc (.cells #[.int .i64 2, .string n, .string t, .string d] 40)) => s.cell c2
          go_enter Try.func64, Try.ntmps64
          go_wp2_with (first
            | (go_at_call 62; with_reducible refine (IN.out _ n _ hn).mono ?_; rintro e w' ⟨rfl, hw⟩; subst hw))
          refine wp_region_kin (by kernel_rfl) (by kernel_rfl) ?_
          repeat (go_big_quiet_step ((go_at_call 62; with_reducible exact Kin.call_same (IN.out _ t _ hb))))
          refine wpQuiet_nil ?_
          rintro _ ⟨s1, rfl⟩
          clear z1 z2 hkin
          have B1 : Hid (Below w.heap.size w s1.w) := B0.out.trans (s1.below.mono B0.out.size)
          go_wp2
          go_ret2
          exact ⟨_, rfl, fun _ => rfl, B1.out⟩
      · have k1b : (k == 1) = false := by simp [k1]
        have k2b : (k == 2) = false := by simp [k2]
        have dk1 : decide (k = 1) = false := decide_eq_false k1
        have dk2 : decide (k = 2) = false := decide_eq_false k2
        cases ht : decide (t = ⟨#[]⟩)
        · rw [ht] at et
          have hrr : r = false := HP1.out (by rw [HPD.out, hn, dk2, ht]; rfl)
          subst hrr
          go_enter Try.func64, Try.ntmps64
          go_wp2_with (first
            | (go_at_call 62; with_reducible refine (IN.out _ n _ hn).mono ?_; rintro e w' ⟨rfl, hw⟩; subst hw))
          go_ret2
          exact ⟨_, rfl, fun h => (by cases h), B0.out⟩
        · rw [ht] at et
          cases hd : decide (d = ⟨#[]⟩)
          · rw [hd] at ed
            have hrr : r = false := HP1.out (by rw [HPD.out, hn, dk2, ht, dk1, hd]; rfl)
            subst hrr
            go_enter Try.func64, Try.ntmps64
            go_wp2_with (first
              | (go_at_call 62; with_reducible refine (IN.out _ n _ hn).mono ?_; rintro e w' ⟨rfl, hw⟩; subst hw))
            go_ret2
            exact ⟨_, rfl, fun h => (by cases h), B0.out⟩
          · rw [hd] at ed
            have hp : p = true := by rw [HPD.out, hn, dk2, ht, dk1, hd]; rfl
            by_cases k3 : k = 3
            · subst k3
              have hrr : r = true := HP4.out hp rfl
              have hv := HV3.out rfl
              subst hrr hv
              go_enter Try.func64, Try.ntmps64
              go_wp2_with (first
                | (go_at_call 62; with_reducible refine (IN.out _ n _ hn).mono ?_; rintro e w' ⟨rfl, hw⟩; subst hw))
              go_ret2
              exact ⟨_, rfl, fun _ => rfl, B0.out⟩
            · have k3b : (k == 3) = false := by simp [k3]
              have hrr : r = false := HP5.out k1 k2 k3
              subst hrr
              go_enter Try.func64, Try.ntmps64
              go_wp2_with (first
                | (go_at_call 62; with_reducible refine (IN.out _ n _ hn).mono ?_; rintro e w' ⟨rfl, hw⟩; subst hw))
              go_ret2
              exact ⟨_, rfl, fun h => (by cases h), B0.out⟩

end Go.Proofs.Ytighhcdlgjaacaa

namespace Go.Proofs.Ytighhcdlgjaacaa
open Go.RowKit

theorem infF32 : (Try.prog.info? 72).map (fun i => (i.zero, i.size, i.bytes)) = some (some (Value.agg #[.string ⟨#[]⟩, .string ⟨#[]⟩]), 2, 32) := by kernel_rfl
theorem two_row (W : World) (T : TypeId) (x y : Value) : ∀ j u, [x, y][j]? = some u → (W.alloc (.cells #[x, y] T)).cell? ⟨W.heap.size, 0 + j, none⟩ = some u := by
  intro j u hu
  match j, hu with
  | 0, hu =>
    simp at hu
    subst hu
    rw [cell_of_row _ _ _ _ _ _ (heap_alloc_new _ _)]
    rfl
  | 1, hu =>
    simp at hu
    subst hu
    rw [cell_of_row _ _ _ _ _ _ (heap_alloc_new _ _)]
    rfl
  | j + 2, hu => simp at hu
theorem own_newF (W : World) : (W.alloc (.cells #[] 72)).ownsRow W.heap.size 72 2 (.slice (some ⟨W.heap.size, 0, none⟩) 0 0) 0 ([] : List Value) := World.ownsRow_made W #[] 0 (Nat.le_refl _) (by unfold maxLen; omega) (by simp)

set_option maxHeartbeats 1000000 in
theorem l12Cut_any (a : Option Addr) (c : Nat) (F : List FI) (nm : ByteArray) (w : World) (hF : FilesAt w a F) (hn : F.length ≤ 1048576) :
    Calls Try.prog 60 #[.slice a F.length c, .string nm] w fun e w' => ∃ v, e = .returned v ∧ Below w.heap.size w w' ∧ w'.ownsRow w.heap.size 72 2 v (cutF F nm).length (rowF (cutF F nm)) := by
  have HF : Hid (FilesAt w a F) := hF
  clear hF
  obtain ⟨n, HN⟩ : ∃ n, Hid (F.length = n) := ⟨_, rfl⟩
  rw [HN.out] at hn ⊢
  have OB : Hid (Below w.heap.size w (w.alloc (.cells #[] 72))) := (Below.refl _ _).alloc (Nat.le_refl _) _
  go_enter Try.func60, Try.ntmps60
  go_wp2_with fail
  go_loopw [5, 6] (fun tl ti wr => ∃ i : Nat, i ≤ n ∧ ti = .int .i64 i ∧ wr.ownsRow w.heap.size 72 2 tl (cutF (F.take i) nm).length (rowF (cutF (F.take i) nm)) ∧ Below w.heap.size w wr) (fun _ ti _ => n - (intOf ti).toNat)
  case atStart => exact ⟨0, Nat.zero_le _, rfl, own_newF w, OB.out⟩
  case round =>
    clear OB
    obtain ⟨i, hi, rfl, ho, hbl⟩ := hrel
    have hll : (cutF (F.take i) nm).length ≤ 1048576 := Nat.le_trans (cutF_len _ _) (by rw [List.length_take, HN.out]; omega)
    by_cases hlt : i < n
    · have hin : (i : Int) < n := by omega
      have hiF : i < F.length := by rw [HN.out]; exact hlt
      have HST : Hid (cutF (F.take (i + 1)) nm = cutF (F.take i) nm ++ (if (F.getD i fi0).1 = nm then [] else [F.getD i fi0])) := cutF_step F nm i hiF
      obtain ⟨L, HL⟩ : ∃ L, Hid (cutF (F.take i) nm = L) := ⟨_, rfl⟩
      rw [HL.out] at ho hll HST
      obtain ⟨k, HK⟩ : ∃ k, Hid (L.length = k) := ⟨_, rfl⟩
      rw [HK.out] at ho hll
      have O1 : Hid (wr.ownsRow w.heap.size 72 2 u5 k (rowF L)) := ho
      have B1 : Hid (Below w.heap.size w wr) := hbl
      clear ho hbl
      obtain ⟨b, off, e, c1, c2⟩ := (HF.out.below B1.out) i hiF
      subst e
      generalize F.getD i fi0 = f at *
      obtain ⟨x, y⟩ := f
      simp only at c1 c2 HST
      by_cases he : x = nm
      · have hst : Hid (cutF (F.take (i + 1)) nm = L) := by show _ = _; rw [HST.out, if_pos he, List.append_nil]
        have heb := str_eq he
        clear HST he
        go_wp2
        go_roundw
        case rel => exact ⟨i + 1, by omega, by first | rfl | go_num, by rw [hst.out, HK.out]; exact O1.out, B1.out⟩
        case measure => simp [intOf]; omega
      · have hst : Hid (cutF (F.take (i + 1)) nm = L ++ [(x, y)]) := by show _ = _; rw [HST.out, if_neg he]
        have heb := str_ne he
        clear HST he
        have BA : Hid (Below w.heap.size w (wr.alloc (.cells #[.string x, .string y] 72))) := B1.out.alloc B1.out.size _
        go_wp2_with (
          at_builtin
          refine append_vals Try.underlying28 infF32 rfl (by decide) _ rfl _ _ rfl w.heap.size _ k (rowF L) rfl (O1.out.alloc _) wr.heap.size 0 1 1 [.string x, .string y] rfl rfl (two_row wr _ _ _) (by simp [Value.oneCell']) (by omega) (by omega) (Nat.le_trans B1.out.size (by simp)) ?_
          intro v' w4 hown hg _ hnl
          have O4 : Hid (w4.ownsRow w.heap.size 72 2 v' (k + 1) (rowF (L ++ [(x, y)]))) := by show World.ownsRow _ _ _ _ _ _ _; rw [rowF_app]; exact hown
          have B4 : Hid (Below w.heap.size w w4) := BA.out.grown hg BA.out.size (fun k e => (O1.out.lt k e).1)
          clear hown hg hnl)
        go_roundw
        case rel => exact ⟨i + 1, by omega, by first | rfl | go_num, by rw [hst.out, List.length_append, HK.out]; exact O4.out, B4.out⟩
        case measure => simp [intOf]; omega
    · have hin : i = n := by omega
      subst hin
      rw [show F.take i = F by rw [← HN.out, List.take_length]] at ho hll
      have O1 := ho
      go_wp2
      go_ret
      exact ⟨_, rfl, hbl, O1⟩

set_option maxHeartbeats 2000000 in
theorem l12Put_any (a : Option Addr) (c : Nat) (F : List FI) (nm d : ByteArray) (w : World) (hF : FilesAt w a F) (hn : F.length ≤ 1048576) (hr : RisF F) :
    Calls Try.prog 59 #[.slice a F.length c, .string nm, .string d] w fun e w' => ∃ v, e = .returned v ∧ Below w.heap.size w w' ∧ w'.ownsRow w.heap.size 72 2 v (putF F nm d).length (rowF (putF F nm d)) := by
  have HF : Hid (FilesAt w a F) := hF
  have HPE : Hid (putF F nm d = (if (putS F nm d F.length).1 then (putS F nm d F.length).2 else (putS F nm d F.length).2 ++ [(nm, d)])) := putS_end hr nm d
  clear hF hr
  obtain ⟨P, HP⟩ : ∃ P, Hid (putF F nm d = P) := ⟨_, rfl⟩
  rw [HP.out] at HPE ⊢
  obtain ⟨n, HN⟩ : ∃ n, Hid (F.length = n) := ⟨_, rfl⟩
  rw [HN.out] at hn HPE ⊢
  have OB : Hid (Below w.heap.size w (w.alloc (.cells #[] 72))) := (Below.refl _ _).alloc (Nat.le_refl _) _
  go_enter Try.func59, Try.ntmps59
  go_wp2_with fail
  go_loopw [7, 8, 9] (fun tl tb ti wr => ∃ (i : Nat) (b : Bool) (L : List FI), i ≤ n ∧ ti = .int .i64 i ∧ tb = .bool b ∧ putS F nm d i = (b, L) ∧ wr.ownsRow w.heap.size 72 2 tl L.length (rowF L) ∧ Below w.heap.size w wr) (fun _ _ ti _ => n - (intOf ti).toNat)
  case atStart => exact ⟨0, false, [], Nat.zero_le _, rfl, rfl, rfl, own_newF w, OB.out⟩
  case round =>
    clear OB
    obtain ⟨i, b, L, hi, rfl, rfl, hs, ho, hbl⟩ := hrel
    have hll := (putS_len F nm d i).1
    rw [hs] at hll
    have HS : Hid (putS F nm d i = (b, L)) := hs
    obtain ⟨k, HK⟩ : ∃ k, Hid (L.length = k) := ⟨_, rfl⟩
    simp only at hll
    rw [HK.out] at ho hll
    have O1 : Hid (wr.ownsRow w.heap.size 72 2 u7 k (rowF L)) := ho
    have B1 : Hid (Below w.heap.size w wr) := hbl
    clear ho hbl hs
    have BA : Hid (Below w.heap.size w (wr.alloc (.cells #[.string nm, .string d] 72))) := B1.out.alloc B1.out.size _
    by_cases hlt : i < n
    · have hin : (i : Int) < n := by omega
      have hiF : i < F.length := by rw [HN.out]; exact hlt
      obtain ⟨bb, off, e, c1, c2⟩ := (HF.out.below B1.out) i hiF
      subst e
      have HC : Hid (∀ W, Below w.heap.size w W → W.cell? ⟨bb, off + i * 2, none⟩ = some (.string (F.getD i fi0).1) ∧ W.cell? ⟨bb, off + i * 2 + 1, none⟩ = some (.string (F.getD i fi0).2)) := fun W hW => by
        obtain ⟨b', off', e', q1, q2⟩ := (HF.out.below hW) i hiF
        simp only [Option.some.injEq, Addr.mk.injEq] at e'
        obtain ⟨rfl, rfl, -⟩ := e'
        exact ⟨q1, q2⟩
      have SA : Hid ((!b && !(ltT (F.getD i fi0).1 nm)) = true → (F.getD i fi0).1 = nm → putS F nm d (i + 1) = (true, L ++ [(nm, d)])) := fun h1 h2 => putS_a HS.out h1 h2
      have SB : Hid ((!b && !(ltT (F.getD i fi0).1 nm)) = true → (F.getD i fi0).1 ≠ nm → putS F nm d (i + 1) = (true, L ++ [(nm, d)] ++ [F.getD i fi0])) := fun h1 h2 => putS_b HS.out h1 h2
      have SC : Hid ((!b && !(ltT (F.getD i fi0).1 nm)) = false → (F.getD i fi0).1 = nm → putS F nm d (i + 1) = (b, L)) := fun h1 h2 => putS_c HS.out h1 h2
      have SD : Hid ((!b && !(ltT (F.getD i fi0).1 nm)) = false → (F.getD i fi0).1 ≠ nm → putS F nm d (i + 1) = (b, L ++ [F.getD i fi0])) := fun h1 h2 => putS_d HS.out h1 h2
      generalize F.getD i fi0 = f at *
      obtain ⟨x, y⟩ := f
      simp only at c1 c2 SA SB SC SD HC
      have BX : Hid (Below w.heap.size w (wr.alloc (.cells #[.string x, .string y] 72))) := B1.out.alloc B1.out.size _
      cases hc : (!b && !(ltT x nm))
      · by_cases he : x = nm
        · have HS2 : Hid (putS F nm d (i + 1) = (b, L)) := SC.out hc he
          have heb := str_eq he
          have hbt : b = true := by
            cases b
            · rw [he, ltT_irr] at hc; simp at hc
            · rfl
          subst hbt
          clear SA SB SC SD hc he
          go_wp2
          go_roundw
          case rel => exact ⟨i + 1, true, L, by omega, by first | rfl | go_num, rfl, HS2.out, by rw [HK.out]; exact O1.out, B1.out⟩
          case measure => simp [intOf]; omega
        · have HS2 : Hid (putS F nm d (i + 1) = (b, L ++ [(x, y)])) := SD.out hc he
          have heb := str_ne he
          clear SA SB SC SD he
          cases b
          · have hxl : Op.bytesLess x.toList nm.toList = true := by
              have : ltT x nm = true := by simpa using hc
              exact this
            clear hc
            go_wp2_with (
              at_builtin
              refine append_vals Try.underlying28 infF32 rfl (by decide) _ rfl _ _ rfl w.heap.size _ k (rowF L) rfl (O1.out.alloc _) wr.heap.size 0 1 1 [.string x, .string y] rfl rfl (two_row wr _ _ _) (by simp [Value.oneCell']) (by omega) (by omega) (Nat.le_trans B1.out.size (by simp)) ?_
              intro v' w4 hown hg _ hnl
              have O4 : Hid (w4.ownsRow w.heap.size 72 2 v' (k + 1) (rowF (L ++ [(x, y)]))) := by show World.ownsRow _ _ _ _ _ _ _; rw [rowF_app]; exact hown
              have B4 : Hid (Below w.heap.size w w4) := BX.out.grown hg BX.out.size (fun k e => (O1.out.lt k e).1)
              clear hown hg hnl)
            go_roundw
            case rel => exact ⟨i + 1, false, _, by omega, by first | rfl | go_num, rfl, HS2.out, by rw [List.length_append, HK.out]; exact O4.out, B4.out⟩
            case measure => simp [intOf]; omega
          · clear hc
            go_wp2_with (
              at_builtin
              refine append_vals Try.underlying28 infF32 rfl (by decide) _ rfl _ _ rfl w.heap.size _ k (rowF L) rfl (O1.out.alloc _) wr.heap.size 0 1 1 [.string x, .string y] rfl rfl (two_row wr _ _ _) (by simp [Value.oneCell']) (by omega) (by omega) (Nat.le_trans B1.out.size (by simp)) ?_
              intro v' w4 hown hg _ hnl
              have O4 : Hid (w4.ownsRow w.heap.size 72 2 v' (k + 1) (rowF (L ++ [(x, y)]))) := by show World.ownsRow _ _ _ _ _ _ _; rw [rowF_app]; exact hown
              have B4 : Hid (Below w.heap.size w w4) := BX.out.grown hg BX.out.size (fun k e => (O1.out.lt k e).1)
              clear hown hg hnl)
            go_roundw
            case rel => exact ⟨i + 1, true, _, by omega, by first | rfl | go_num, rfl, HS2.out, by rw [List.length_append, HK.out]; exact O4.out, B4.out⟩
            case measure => simp [intOf]; omega
      · have hbf : b = false := by cases b; rfl; simp at hc
        subst hbf
        have hxl : Op.bytesLess x.toList nm.toList = false := by
          have : ltT x nm = false := by simpa using hc
          exact this
        by_cases he : x = nm
        · have HS2 : Hid (putS F nm d (i + 1) = (true, L ++ [(nm, d)])) := SA.out hc he
          subst he
          have heb : (x.toList == x.toList) = true := beq_self_eq_true _
          clear SA SB SC SD hc
          go_wp2_with (
            at_builtin
            refine append_vals Try.underlying28 infF32 rfl (by decide) _ rfl _ _ rfl w.heap.size _ k (rowF L) rfl (O1.out.alloc _) wr.heap.size 0 1 1 [.string x, .string d] rfl rfl (two_row wr _ _ _) (by simp [Value.oneCell']) (by omega) (by omega) (Nat.le_trans B1.out.size (by simp)) ?_
            intro v' w4 hown hg _ hnl
            have O4 : Hid (w4.ownsRow w.heap.size 72 2 v' (k + 1) (rowF (L ++ [(x, d)]))) := by show World.ownsRow _ _ _ _ _ _ _; rw [rowF_app]; exact hown
            have B4 : Hid (Below w.heap.size w w4) := BA.out.grown hg BA.out.size (fun k e => (O1.out.lt k e).1)
            have c1' := (HC.out w4 B4.out).1
            clear hown hg hnl)
          go_roundw
          case rel => exact ⟨i + 1, true, _, by omega, by first | rfl | go_num, rfl, HS2.out, by rw [List.length_append, HK.out]; exact O4.out, B4.out⟩
          case measure => simp [intOf]; omega
        · have HS2 : Hid (putS F nm d (i + 1) = (true, L ++ [(nm, d)] ++ [(x, y)])) := SB.out hc he
          have heb := str_ne he
          clear SA SB SC SD hc he
          go_wp2_with (first
            | (at_builtin
               refine append_vals Try.underlying28 infF32 rfl (by decide) _ rfl _ _ rfl w.heap.size _ k (rowF L) rfl (O1.out.alloc _) wr.heap.size 0 1 1 [.string nm, .string d] rfl rfl (two_row wr _ _ _) (by simp [Value.oneCell']) (by omega) (by omega) (Nat.le_trans B1.out.size (by simp)) ?_
               intro v' w4 hown hg _ hnl
               have O4 : Hid (w4.ownsRow w.heap.size 72 2 v' (k + 1) (rowF (L ++ [(nm, d)]))) := by show World.ownsRow _ _ _ _ _ _ _; rw [rowF_app]; exact hown
               have B4 : Hid (Below w.heap.size w w4) := BA.out.grown hg BA.out.size (fun k e => (O1.out.lt k e).1)
               have c1' := (HC.out w4 B4.out).1
               have c2' := (HC.out w4 B4.out).2
               have BB : Hid (Below w.heap.size w (w4.alloc (.cells #[.string x, .string y] 72))) := B4.out.alloc B4.out.size _
               clear hown hg hnl)
            | (at_builtin
               refine append_vals Try.underlying28 infF32 rfl (by decide) _ rfl _ _ rfl w.heap.size _ (k + 1) (rowF (L ++ [(nm, d)])) rfl (O4.out.alloc _) w4.heap.size 0 1 1 [.string x, .string y] rfl rfl (two_row w4 _ _ _) (by simp [Value.oneCell']) (by omega) (by omega) (Nat.le_trans B4.out.size (by simp)) ?_
               intro v5 w5 hown hg _ hnl
               have O5 : Hid (w5.ownsRow w.heap.size 72 2 v5 (k + 1 + 1) (rowF (L ++ [(nm, d)] ++ [(x, y)]))) := by show World.ownsRow _ _ _ _ _ _ _; rw [rowF_app (L ++ [(nm, d)])]; exact hown
               have B5 : Hid (Below w.heap.size w w5) := BB.out.grown hg BB.out.size (fun k e => (O4.out.lt k e).1)
               clear hown hg hnl))
          go_roundw
          case rel => exact ⟨i + 1, true, _, by omega, by first | rfl | go_num, rfl, HS2.out, by rw [List.length_append, List.length_append, HK.out]; exact O5.out, B5.out⟩
          case measure => simp [intOf]; omega
    · have hin : i = n := by omega
      subst hin
      have HPE2 : Hid (P = (if b then L else L ++ [(nm, d)])) := by show _ = _; rw [HPE.out, HS.out]
      cases b
      · have hP : Hid (P = L ++ [(nm, d)]) := HPE2.out
        clear HPE2 HPE HS
        go_wp2_with (
          at_builtin
          refine append_vals Try.underlying28 infF32 rfl (by decide) _ rfl _ _ rfl w.heap.size _ k (rowF L) rfl (O1.out.alloc _) wr.heap.size 0 1 1 [.string nm, .string d] rfl rfl (two_row wr _ _ _) (by simp [Value.oneCell']) (by omega) (by omega) (Nat.le_trans B1.out.size (by simp)) ?_
          intro v' w4 hown hg _ hnl
          have O4 : Hid (w4.ownsRow w.heap.size 72 2 v' (k + 1) (rowF (L ++ [(nm, d)]))) := by show World.ownsRow _ _ _ _ _ _ _; rw [rowF_app]; exact hown
          have B4 : Hid (Below w.heap.size w w4) := BA.out.grown hg BA.out.size (fun k e => (O1.out.lt k e).1)
          clear hown hg hnl)
        go_ret
        exact ⟨_, rfl, B4.out, by rw [hP.out, List.length_append, HK.out]; exact O4.out⟩
      · have hP : Hid (P = L) := HPE2.out
        clear HPE2 HPE HS
        go_wp2
        go_ret
        exact ⟨_, rfl, B1.out, by rw [hP.out, HK.out]; exact O1.out⟩

end Go.Proofs.Ytighhcdlgjaacaa

namespace Go.Proofs.Ytighhcdlgjaacaa
open Go.RowKit

/-- 'append' of nil. -/
theorem run_append_none {P : Program} (w : World) (base : Nat) (t ty e : TypeId) (i : TypeInfo) (size : Nat) (ht : P.underlying t = some (.slice e)) (hi : P.info? e = some i) (v : Value) (k : Nat) (xs : List Value) (hown : w.ownsRow base e size v k xs) (c : Nat) :
    (Builtin.append_ #[t, t] ty #[v, .slice none 0 c]).run P w = .ok v w := by
  rcases hown.2 with ⟨rfl, rfl⟩ | ⟨g, cap, cur, rfl, hbg, hg, hnc, hcm, hcs, htake⟩
  · simp [Builtin.append_, run_underlying ht, sizeOf, typeInfo, hi, Builtin.lenOf, run_firstCells_none]
  · simp [Builtin.append_, run_underlying ht, sizeOf, typeInfo, hi, Builtin.lenOf, hnc, run_firstCells_none, storeCells]
/-- 'append' of a slice wherever it lies, nil too, to a slice of the call's own: the run. -/
theorem run_append_opt {T E : TypeId} {z : Value} {size bytes : Nat} (ht : Try.prog.underlying T = some (.slice E)) (hinf : (Try.prog.info? E).map (fun i => (i.zero, i.size, i.bytes)) = some (some z, size, bytes)) (hzs : z.cells.size = size) (hsz : 0 < size)
    (w : World) (ty : TypeId) (base : Nat) (v : Value) (k : Nat) (xs : List Value) (hown : w.ownsRow base E size v k xs) (ad : Option Addr) (m c : Nat) (ys : List Value)
    (hy : ys.length = m * size) (hc : ∀ j u, ys[j]? = some u → ∃ b off, ad = some ⟨b, off, none⟩ ∧ w.cell? ⟨b, off + j, none⟩ = some u) (h1 : ∀ u ∈ ys, u.oneCell' = true) (h63 : k + m ≤ 70368744177663) (hbytes : (k + m) * bytes ≤ 140737488355328) (hb : base ≤ w.heap.size) :
    ∃ v' w', (Builtin.append_ #[T, T] ty #[v, .slice ad m c]).run Try.prog w = .ok v' w' ∧ w'.ownsRow base E size v' (k + m) (xs ++ ys) ∧ w.grownBy w' v.ownBlock ∧ (v'.ownBlock = v.ownBlock ∨ v'.ownBlock = some w.heap.size) ∧ (v' = .slice none 0 0 ↔ v = .slice none 0 0 ∧ m = 0) := by
  cases ad with
  | none =>
    have hy0 : ys = [] := by
      cases ys with
      | nil => rfl
      | cons y ys =>
        obtain ⟨b, off, e, _⟩ := hc 0 y rfl
        cases e
    subst hy0
    have hm : m = 0 := by
      rcases Nat.eq_zero_or_pos m with h | h
      · exact h
      · have h2 := Nat.mul_pos h hsz
        rw [← hy] at h2
        exact absurd h2 (Nat.lt_irrefl _)
    subst hm
    obtain ⟨i0, hi, hz0, hz1, hz2⟩ := inf_parts hinf
    exact ⟨v, w, run_append_none (P := Try.prog) w base T ty _ i0 size ht hi v k xs hown c, by rw [Nat.add_zero, List.append_nil]; exact hown, ⟨rfl, rfl, rfl, Nat.le_refl _, fun _ _ _ => rfl⟩, .inl rfl, ⟨fun h => ⟨h, rfl⟩, fun h => h.1⟩⟩
  | some A =>
    have hnews : ∀ j u, ys[j]? = some u → w.cell? (A.add j) = some u := fun j u hu => by
      obtain ⟨b, off, e, hq⟩ := hc j u hu
      rw [Option.some.inj e, add_plain]
      exact hq
    obtain ⟨i0, hi, hz0, hz1, hz2⟩ := inf_parts hinf
    obtain ⟨v', w', hrun, r1, r2, r3⟩ := run_append_own (P := Try.prog) w base T ty _ i0 _ size bytes ht hi hz0 hz1 hz2 hzs hsz v k xs hown A m c ys hy hnews h1 (by unfold maxLen; omega) hbytes hb
    have r4 := append_blk (P := Try.prog) w base T ty _ i0 _ size bytes ht hi hz0 hz1 hz2 v k xs hown A m c ys hy hnews h1 (by unfold maxLen; omega) hbytes hrun
    exact ⟨v', w', hrun, r1, r2, r4, r3⟩
theorem append_opt {T E : TypeId} {z : Value} {size bytes : Nat} (ht : Try.prog.underlying T = some (.slice E)) (hinf : (Try.prog.info? E).map (fun i => (i.zero, i.size, i.bytes)) = some (some z, size, bytes)) (hzs : z.cells.size = size) (hsz : 0 < size)
    (w : World) {ops : Array Oper} {rest : List Oper} {o : Oper} {a : Act} {Q : Exit → Act → World → Prop}
    (hg : o.guard = none) (s x : Operand) (hop : o.op = Op.call { callee := Callee.builtin Builtin.append, args := #[s, x], argTypes := #[T, T] })
    (base : Nat) (v : Value) (k : Nat) (xs : List Value) (hs : a.eval s = v) (hown : w.ownsRow base E size v k xs) (ad : Option Addr) (m c : Nat) (ys : List Value) (hx : a.eval x = .slice ad m c)
    (hy : ys.length = m * size) (hc : ∀ j u, ys[j]? = some u → ∃ b off, ad = some ⟨b, off, none⟩ ∧ w.cell? ⟨b, off + j, none⟩ = some u) (h1 : ∀ u ∈ ys, u.oneCell' = true) (h63 : k + m ≤ 70368744177663) (hbytes : (k + m) * bytes ≤ 140737488355328) (hb : base ≤ w.heap.size)
    (hK : ∀ v' w', w'.ownsRow base E size v' (k + m) (xs ++ ys) → w.grownBy w' v.ownBlock → (v'.ownBlock = v.ownBlock ∨ v'.ownBlock = some w.heap.size) → (v' = .slice none 0 0 ↔ v = .slice none 0 0 ∧ m = 0) → wpList Try.prog ops Q rest (a.put o.dst v') w') :
    wpList Try.prog ops Q (o :: rest) a w := by
  obtain ⟨v', w', hrun, r1, r2, r4, r3⟩ := run_append_opt ht hinf hzs hsz w o.type base v k xs hown ad m c ys hy hc h1 h63 hbytes hb
  exact wpList_run v' hg (exec_app s x _ v _ hop hs hx hrun) (hK v' w' r1 r2 r4 r3)
theorem step_append_opt {T E : TypeId} {z : Value} {size bytes : Nat} (ht : Try.prog.underlying T = some (.slice E)) (hinf : (Try.prog.info? E).map (fun i => (i.zero, i.size, i.bytes)) = some (some z, size, bytes)) (hzs : z.cells.size = size) (hsz : 0 < size)
    {ops : Array Oper} {o : Oper} {a : Act} {w : World} {K : Act → World → Prop} {Q : Exit → Act → World → Prop} {Els : Prop}
    (hg : o.guard = none) (s x : Operand) (hop : o.op = Op.call { callee := Callee.builtin Builtin.append, args := #[s, x], argTypes := #[T, T] })
    (base : Nat) (v : Value) (k : Nat) (xs : List Value) (hs : a.eval s = v) (hown : w.ownsRow base E size v k xs) (ad : Option Addr) (m c : Nat) (ys : List Value) (hx : a.eval x = .slice ad m c)
    (hy : ys.length = m * size) (hc : ∀ j u, ys[j]? = some u → ∃ b off, ad = some ⟨b, off, none⟩ ∧ w.cell? ⟨b, off + j, none⟩ = some u) (h1 : ∀ u ∈ ys, u.oneCell' = true) (h63 : k + m ≤ 70368744177663) (hbytes : (k + m) * bytes ≤ 140737488355328) (hb : base ≤ w.heap.size)
    (hK : ∀ v' w', w'.ownsRow base E size v' (k + m) (xs ++ ys) → w.grownBy w' v.ownBlock → (v'.ownBlock = v.ownBlock ∨ v'.ownBlock = some w.heap.size) → (v' = .slice none 0 0 ↔ v = .slice none 0 0 ∧ m = 0) → K (a.put o.dst v') w') :
    if Region.wanted o (yielded ops a.tmps) = true then Oper.wp Try.prog o a w K Q else Els := by
  have hw : Region.wanted o (yielded ops a.tmps) = true := by simp [Region.wanted, hg]
  rw [if_pos hw]
  obtain ⟨v', w', hrun, r1, r2, r4, r3⟩ := run_append_opt ht hinf hzs hsz w o.type base v k xs hown ad m c ys hy hc h1 h63 hbytes hb
  unfold Oper.wp
  simp [execOp, hop, resolve, invoke, builtin, hs, hx, hrun, Result.andThen]
  exact hK _ _ r1 r2 r4 r3

end Go.Proofs.Ytighhcdlgjaacaa

namespace Go.Proofs.Ytighhcdlgjaacaa
open Go.RowKit

theorem FilesAt.cells {w : World} {a : Option Addr} {F : List FI} (h : FilesAt w a F) : ∀ j u, (rowF F)[j]? = some u → ∃ b off, a = some ⟨b, off, none⟩ ∧ w.cell? ⟨b, off + j, none⟩ = some u := by
  intro j u hu
  have hj : j < F.length * 2 := by
    rcases Nat.lt_or_ge j (F.length * 2) with h | h
    · exact h
    · rw [List.getElem?_eq_none (by rw [rowF_len]; exact h)] at hu; cases hu
  obtain ⟨b, off, e, c1, c2⟩ := h (j / 2) (by omega)
  obtain ⟨r1, r2⟩ := rowF_at F (j / 2) (by omega)
  refine ⟨b, off, e, ?_⟩
  rcases Nat.mod_two_eq_zero_or_one j with hm | hm
  · have ej : j / 2 * 2 = j := by omega
    rw [ej] at r1 c1
    rw [c1, ← r1, hu]
  · have ej : j / 2 * 2 + 1 = j := by omega
    rw [ej] at r2
    rw [Nat.add_assoc, ej] at c2
    rw [c2, ← r2, hu]

set_option maxHeartbeats 2000000 in
theorem l12Do_any (a : Option Addr) (c : Nat) (F : List FI) (o : OP) (w : World) (hF : FilesAt w a F) (hn : F.length ≤ 1048576) (hr : RisF F) (ht : totL F ≤ 1000000000) (hd : o.d.size ≤ 1000000000) :
    Calls Try.prog 34 #[.slice a F.length c, .agg #[.int .i64 o.k, .string o.n, .string o.t, .string o.d]] w fun e w' => ∃ v, e = .returned (.tuple #[v, .bool (okF F o)]) ∧ Below w.heap.size w w' ∧ w'.ownsRow w.heap.size 72 2 v (doF F o).length (rowF (doF F o)) := by
  obtain ⟨k, nm, t, d⟩ := o
  simp only at hd ⊢
  have B0 : Hid (Below w.heap.size w (w.alloc (.cells #[.int .i64 k, .string nm, .string t, .string d] 40))) := (Below.refl _ _).alloc (Nat.le_refl _) _
  have hrow : (w.alloc (.cells #[.int .i64 k, .string nm, .string t, .string d] 40)).heap[w.heap.size]? = some (.cells #[.int .i64 k, .string nm, .string t, .string d] 40 (0, 0)) := heap_alloc_new _ _
  obtain ⟨c0, c1, c2, c3⟩ := cells4 hrow
  have HRW : Hid ((w.alloc (.cells #[.int .i64 k, .string nm, .string t, .string d] 40)).heap[w.heap.size]? = some (.cells #[.int .i64 k, .string nm, .string t, .string d] 40 (0, 0))) := hrow
  have HF : Hid (FilesAt (w.alloc (.cells #[.int .i64 k, .string nm, .string t, .string d] 40)) a F) := hF.below B0.out
  have HR : Hid (RisF F) := hr
  clear hrow hF hr
  obtain ⟨n, HN⟩ : ∃ n, Hid (F.length = n) := ⟨_, rfl⟩
  have LA : Hid (∀ W, FilesAt W a F → Calls Try.prog 53 #[.slice a n c, .string nm] W fun e w' => e = .returned (.int .i64 (atF F nm)) ∧ w' = W) := fun W h => by
    have := l12At_any a c F nm W h hn
    rw [HN.out] at this
    exact this
  have LP : Hid (∀ W nm d, FilesAt W a F → Calls Try.prog 59 #[.slice a n c, .string nm, .string d] W fun e w' => ∃ v, e = .returned v ∧ Below W.heap.size W w' ∧ w'.ownsRow W.heap.size 72 2 v (putF F nm d).length (rowF (putF F nm d))) := fun W nm d h => by
    have := l12Put_any a c F nm d W h hn HR.out
    rw [HN.out] at this
    exact this
  have LC : Hid (∀ W, FilesAt W a F → Calls Try.prog 60 #[.slice a n c, .string nm] W fun e w' => ∃ v, e = .returned v ∧ Below W.heap.size W w' ∧ w'.ownsRow W.heap.size 72 2 v (cutF F nm).length (rowF (cutF F nm))) := fun W h => by
    have := l12Cut_any a c F nm W h hn
    rw [HN.out] at this
    exact this
  rw [HN.out] at hn ⊢
  have hdat := datF_le F nm
  by_cases k1 : k = 1
  · subst k1
    have HDO : Hid (doF F ⟨1, nm, t, d⟩ = putF F nm (datF F nm ++ d)) := by show _ = _; unfold doF; rw [if_pos rfl]
    have HOK : Hid (okF F ⟨1, nm, t, d⟩ = true) := by show _ = _; unfold okF; rfl
    rw [HDO.out, HOK.out]
    rcases atF_or F nm with ⟨h1, h2, h3⟩ | ⟨i, hi, h1, h2, h3⟩
    · have hdd : datF F nm ++ d = d := by
        rw [h3]
        apply ByteArray.ext
        simp
      rw [hdd]
      go_enter Try.func34, Try.ntmps34
      go_wp2_with fail
      refine (LA.out _ HF.out).mono ?_
      rintro e w1 ⟨rfl, hw⟩
      subst hw
      rw [h1]
      go_wp2_with fail
      refine (LP.out _ nm d HF.out).mono ?_
      rintro e w2 ⟨v, rfl, hb, ho⟩
      have B2 : Hid (Below w.heap.size w w2) := B0.out.trans (hb.mono B0.out.size)
      have O2 : Hid (w2.ownsRow w.heap.size 72 2 v (putF F nm d).length (rowF (putF F nm d))) := own_bse ho B0.out.size
      clear hb ho
      go_wp2
      go_ret2
      exact ⟨v, rfl, B2.out, O2.out⟩
    · have hi' : (i : Int) < n := by rw [HN.out] at hi; omega
      obtain ⟨b, off, e, p1, p2⟩ := HF.out i hi
      subst e
      rw [h3] at hdat ⊢
      rw [HN.out] at hi
      clear p1 h2 h3
      generalize (F.getD i fi0).2 = y at *
      have hyd : (y.size : Int) + d.size ≤ 9223372036854775807 := by omega
      go_enter Try.func34, Try.ntmps34
      go_wp2_with fail
      refine (LA.out _ HF.out).mono ?_
      rintro e w1 ⟨rfl, hw⟩
      subst hw
      rw [h1]
      go_wp2_with fail
      refine (LP.out _ nm (y ++ d) HF.out).mono ?_
      rintro e w2 ⟨v, rfl, hb, ho⟩
      have B2 : Hid (Below w.heap.size w w2) := B0.out.trans (hb.mono B0.out.size)
      have O2 : Hid (w2.ownsRow w.heap.size 72 2 v (putF F nm (y ++ d)).length (rowF (putF F nm (y ++ d)))) := own_bse ho B0.out.size
      clear hb ho
      go_wp2
      go_ret2
      exact ⟨v, rfl, B2.out, O2.out⟩
  · have hk1b : (k == 1) = false := by simp [k1]
    rcases atF_or F nm with ⟨h1, h2, h3⟩ | ⟨i, hi, h1, h2, h3⟩
    · have HDO : Hid (doF F ⟨k, nm, t, d⟩ = F) := by show _ = _; unfold doF; simp only; rw [if_neg k1, h2]; rfl
      have HOK : Hid (okF F ⟨k, nm, t, d⟩ = false) := by show _ = _; unfold okF; simp only; rw [h2, decide_eq_false k1]; rfl
      rw [HDO.out, HOK.out]
      clear k1 h2 h3
      have HC : Hid (∀ W, Below w.heap.size w W → FilesAt (w.alloc (.cells #[.int .i64 k, .string nm, .string t, .string d] 40)) a F) := fun W _ => HF.out
      have BN : Hid (Below w.heap.size w ((w.alloc (.cells #[.int .i64 k, .string nm, .string t, .string d] 40)).alloc (.cells #[] 72))) := B0.out.alloc B0.out.size _
      have ON : Hid (((w.alloc (.cells #[.int .i64 k, .string nm, .string t, .string d] 40)).alloc (.cells #[] 72)).ownsRow w.heap.size 72 2 (.slice (some ⟨(w.alloc (.cells #[.int .i64 k, .string nm, .string t, .string d] 40)).heap.size, 0, none⟩) 0 0) 0 ([] : List Value)) := own_bse (own_newF _) B0.out.size
      have HFC : Hid (∀ j u, (rowF F)[j]? = some u → ∃ b off, a = some ⟨b, off, none⟩ ∧ ((w.alloc (.cells #[.int .i64 k, .string nm, .string t, .string d] 40)).alloc (.cells #[] 72)).cell? ⟨b, off + j, none⟩ = some u) := (HF.out.below ((Below.refl _ _).alloc (Nat.le_refl _) _)).cells
      go_enter Try.func34, Try.ntmps34
      go_wp2_with fail
      refine (LA.out _ HF.out).mono ?_
      rintro e w1 ⟨rfl, hw⟩
      subst hw
      rw [h1]
      generalize w.alloc (.cells #[.int .i64 k, .string nm, .string t, .string d] 40) = W0 at *
      go_wp2_with (
        at_builtin
        refine append_opt Try.underlying28 infF32 rfl (by decide) _ rfl _ _ rfl w.heap.size _ 0 [] rfl ON.out a n c (rowF F) rfl (by rw [rowF_len, HN.out]) HFC.out (rowF_one F) (by omega) (by omega) BN.out.size ?_
        intro v' w4 hown hg hbk hnl
        have O4 : Hid (w4.ownsRow w.heap.size 72 2 v' n (rowF F)) := by show World.ownsRow _ _ _ _ _ _ _; rw [List.nil_append, Nat.zero_add] at hown; exact hown
        have B4 : Hid (Below w.heap.size w w4) := BN.out.grown hg BN.out.size (fun k e => (ON.out.lt k e).1)
        clear hown hg hbk hnl)
      go_ret2
      exact ⟨_, rfl, B4.out, by rw [HN.out]; exact O4.out⟩
    · have HOK : Hid (okF F ⟨k, nm, t, d⟩ = true) := by show _ = _; unfold okF; simp only; rw [h2, Bool.or_true]
      have hi' : (i : Int) < n := by rw [HN.out] at hi; omega
      obtain ⟨b, off, e, p1, p2⟩ := HF.out i hi
      have HPC : Hid (∀ W, Below (w.alloc (.cells #[.int .i64 k, .string nm, .string t, .string d] 40)).heap.size (w.alloc (.cells #[.int .i64 k, .string nm, .string t, .string d] 40)) W → W.cell? ⟨b, off + i * 2 + 1, none⟩ = some (.string (F.getD i fi0).2) ∧ W.cell? ⟨w.heap.size, 0, none⟩ = some (.int .i64 k) ∧ W.cell? ⟨w.heap.size, 2, none⟩ = some (.string t)) := fun W hW => ⟨(hW.cell (p := ⟨b, off + i * 2 + 1, none⟩) (block_lt_of_cell p2)).trans p2, (hW.cell (p := ⟨w.heap.size, 0, none⟩) (block_lt_of_cell c0)).trans c0, (hW.cell (p := ⟨w.heap.size, 2, none⟩) (block_lt_of_cell c2)).trans c2⟩
      subst e
      have hdf := h3
      rw [HN.out] at hi
      clear p1 h3
      by_cases k2 : k = 2
      · subst k2
        have HDO : Hid (doF F ⟨2, nm, t, d⟩ = putF (cutF F nm) t (F.getD i fi0).2) := by show _ = _; unfold doF; simp only; rw [if_neg k1, h2, if_pos rfl, if_pos trivial, hdf]
        rw [HDO.out, HOK.out]
        clear k1 h2 hdf
        have hcl : (cutF F nm).length ≤ 1048576 := Nat.le_trans (cutF_len _ _) (by rw [HN.out]; exact hn)
        have hcr : Hid (RisF (cutF F nm)) := risF_cut HR.out nm
        generalize (F.getD i fi0).2 = y at *
        go_enter Try.func34, Try.ntmps34
        go_wp2_with fail
        refine (LA.out _ HF.out).mono ?_
        rintro e w1 ⟨rfl, hw⟩
        subst hw
        rw [h1]
        go_wp2_with fail
        refine (LC.out _ HF.out).mono ?_
        rintro e w2 ⟨v, rfl, hb, ho⟩
        obtain ⟨d2, d0, dt⟩ := HPC.out w2 hb
        have B2 : Hid (Below w.heap.size w w2) := B0.out.trans (hb.mono B0.out.size)
        clear hb
        obtain ⟨va, vc, rfl, hvf⟩ := own_files ho rfl
        have HVF : Hid (FilesAt w2 va (cutF F nm)) := hvf
        clear ho hvf
        have LP2 : Hid (∀ W, FilesAt W va (cutF F nm) → Calls Try.prog 59 #[.slice va (cutF F nm).length vc, .string t, .string y] W fun e w' => ∃ v, e = .returned v ∧ Below W.heap.size W w' ∧ w'.ownsRow W.heap.size 72 2 v (putF (cutF F nm) t y).length (rowF (putF (cutF F nm) t y))) := fun W h => l12Put_any va vc (cutF F nm) t y W h hcl hcr.out
        obtain ⟨P, HPF⟩ : ∃ P, Hid (putF (cutF F nm) t y = P) := ⟨_, rfl⟩
        obtain ⟨cl, HCL⟩ : ∃ cl, Hid ((cutF F nm).length = cl) := ⟨_, rfl⟩
        rw [HPF.out, HCL.out] at LP2
        rw [HCL.out]
        go_wp2_with fail
        go_region_with (first
          | (go_at_call 59
             with_reducible refine (LP2.out _ (HVF.out.below (Below.refl _ _).drew)).mono ?_
             rintro e w3 ⟨v3, rfl, hb3, ho3⟩
             have B3 : Hid (Below w.heap.size w w3) := B2.out.drew.trans (hb3.mono (Nat.le_trans B2.out.size (Nat.le_refl _)))
             have O3 : Hid (w3.ownsRow w.heap.size 72 2 v3 P.length (rowF P)) := own_bse ho3 B2.out.size
             clear hb3 ho3))
        all_goals
          go_wp2
          go_ret2
          exact ⟨_, rfl, B3.out, by rw [HPF.out]; exact O3.out⟩
      · have hk2b : (k == 2) = false := by simp [k2]
        have HDO : Hid (doF F ⟨k, nm, t, d⟩ = cutF F nm) := by show _ = _; unfold doF; simp only; rw [if_neg k1, h2, if_pos rfl, if_neg k2]
        rw [HDO.out, HOK.out]
        clear k1 k2 h2 hdf
        go_enter Try.func34, Try.ntmps34
        go_wp2_with fail
        refine (LA.out _ HF.out).mono ?_
        rintro e w1 ⟨rfl, hw⟩
        subst hw
        rw [h1]
        go_wp2_with fail
        refine (LC.out _ HF.out).mono ?_
        rintro e w2 ⟨v, rfl, hb, ho⟩
        obtain ⟨d2, d0, dt⟩ := HPC.out w2 hb
        have B2 : Hid (Below w.heap.size w w2) := B0.out.trans (hb.mono B0.out.size)
        have O2 : Hid (w2.ownsRow w.heap.size 72 2 v (cutF F nm).length (rowF (cutF F nm))) := own_bse ho B0.out.size
        clear hb ho
        go_wp2
        go_ret2
        exact ⟨v, rfl, B2.out, O2.out⟩

end Go.Proofs.Ytighhcdlgjaacaa
