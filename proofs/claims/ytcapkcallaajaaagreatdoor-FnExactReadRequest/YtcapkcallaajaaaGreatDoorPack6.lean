import Derived.Test.YtcapkcallaajaaaGreatDoorPack1
import Derived.WalkKit
import Derived.Deep.RegionLaw
namespace Go.Proofs.YtcapkcallaajaaaGreatDoor
open Go.RowKit
theorem grown_row {w w' : World} {row : Option Nat} {k : Nat} {o : Obj} (hg : w.grownBy w' row) (h : w.heap[k]? = some o) (hne : some k ≠ row) : w'.heap[k]? = some o := (hg.block k (row_lt h) hne).trans h
theorem owns_ints {w : World} {base size g n cap : Nat} {e : TypeId} {zs : List Int} (h : w.ownsRow base e size (.slice (some ⟨g, 0, none⟩) n cap) n (zs.map (Value.int .i64))) : IntsAt w (some ⟨g, 0, none⟩) zs := by
 intro j hj
 refine ⟨g, 0, rfl, ?_⟩
 have := h.cells (g := g) rfl j (.int .i64 (zs.getD j 0)) (by simp [List.getD, hj])
 have hadd : (⟨g, 0, none⟩ : Addr).add j = ⟨g, 0 + j, none⟩ := by unfold Addr.add; split <;> simp_all
 rw [hadd] at this
 exact this
theorem owns_below {w w' : World} {base size n : Nat} {e : TypeId} {v : Value} {xs : List Value} (h : w.ownsRow base e size v n xs) (hb : Below w.heap.size w w') : w'.ownsRow base e size v n xs := by
 obtain ⟨h1, h2 | ⟨g, cap, cur, h2, h3, h4, h5⟩⟩ := h
 · exact ⟨h1, .inl h2⟩
 · exact ⟨h1, .inr ⟨g, cap, cur, h2, h3, below_row hb (row_lt h4) h4, h5⟩⟩
theorem owns_base {w : World} {base b0 k : Nat} {v : Value} {e : TypeId} {size : Nat} {xs : List Value} (h : w.ownsRow base e size v k xs) (hb : b0 <= base) : w.ownsRow b0 e size v k xs := by
 obtain ⟨h0, h1 | ⟨g, cap, cur, h2, h3, h4⟩⟩ := h
 · exact ⟨h0, .inl h1⟩
 · exact ⟨h0, .inr ⟨g, cap, cur, h2, Nat.le_trans hb h3, h4⟩⟩
theorem owns_set {w : World} {base k b i : Nat} {v u : Value} {e : TypeId} {size : Nat} {xs : List Value} (h : w.ownsRow base e size v k xs) (hb : b < base) : (w.setCell ⟨b, i, none⟩ u).ownsRow base e size v k xs := ownsRow_setCell_below h hb u
theorem owns_at1 {w : World} {base n : Nat} {e : TypeId} {sl : Value} {xs : List Int} (h : w.ownsRow base e 1 sl n (xs.map (Value.int .i64))) : ∃ a c, sl = .slice a xs.length c /\ xs.length = n /\ IntsAt w a xs := by
 obtain ⟨h1, ⟨rfl, h2⟩ | ⟨g, cap, cur, rfl, h3, h4, h5⟩⟩ := id h
 · subst h2
   have : xs = [] := by simpa using h1
   subst this
   exact ⟨none, 0, rfl, rfl, fun j hj => by simp at hj⟩
 · have hl : xs.length = n := by simpa using h1
   exact ⟨_, _, by rw [hl], hl, owns_ints h⟩
theorem cell_new1 (W : World) (v : Value) (T : TypeId) (g : Nat) (hg : W.heap.size = g) : (W.alloc (.cells #[v] T)).cell? ⟨g, 0, none⟩ = some v := by
 subst hg
 rw [cell_of_row _ _ 0 _ _ _ (heap_alloc_new W (.cells #[v] T))]
 simp
theorem one_cell {w : World} {ad : Addr} {x0 : Value} (hc : w.cell? ad = some x0) : ∀ j u, [x0][j]? = some u -> w.cell? (ad.add j) = some u := by
 intro j u hu
 have hj : j = 0 := by
  rcases j with _ | j
  · rfl
  · simp at hu
 subst hj
 have : ad.add 0 = ad := by unfold Addr.add; split <;> simp_all
 rw [this, hc]
 simpa using hu
theorem append_int (w : World) {ops : Array Oper} {rest : List Oper} {o : Oper} {a : Act} {Q : Exit -> Act -> World -> Prop}
 (hg : o.guard = none) (s x : Operand) (hop : o.op = Op.call { callee := Callee.builtin Builtin.append, args := #[s, x], argTypes := #[22, 22] })
 (base : Nat) (v : Value) (k : Nat) (xs : List Value) (hs : a.eval s = v) (hown : w.ownsRow base 2 1 v k xs) (ad : Addr) (c : Nat) (x0 : Value) (hx : a.eval x = .slice (some ad) 1 c)
 (hc : w.cell? ad = some x0) (h1c : x0.oneCell' = true) (b1 : k <= 1000) (hb : base <= w.heap.size)
 (hK : ∀ v' w', w'.ownsRow base 2 1 v' (k + 1) (xs ++ [x0]) -> w.grownBy w' v.ownBlock -> wpList Tryz.prog ops Q rest (a.put o.dst v') w') :
 wpList Tryz.prog ops Q (o :: rest) a w := by
 obtain ⟨i0, hi, hz0, hz1, hz2⟩ := info_parts Tryz.info2
 exact wpList_append_own w hg s x _ hop base _ i0 _ 1 8 Tryz.underlying22 hi hz0 hz1 hz2 rfl (by decide) v k xs hs hown ad 1 c [x0] hx rfl (one_cell hc) (by simpa using h1c) (by unfold maxLen; omega) (by omega) hb (fun v' w' h1 h2 _ => hK v' w' h1 h2)
theorem inf_parts {E : TypeId} {z : Value} {size bytes : Nat} (h : (Tryz.prog.info? E).map (fun i => (i.zero, i.size, i.bytes)) = some (some z, size, bytes)) : ∃ i0, Tryz.prog.info? E = some i0 /\ i0.zero = some z /\ i0.size = size /\ i0.bytes = bytes := by
 cases hq : Tryz.prog.info? E with
 | none => rw [hq] at h; simp at h
 | some i0 =>
   rw [hq] at h
   simp only [Option.map_some, Option.some.injEq, Prod.mk.injEq] at h
   exact ⟨i0, rfl, h.1, h.2.1, h.2.2⟩
theorem add_plain (b off j : Nat) : (⟨b, off, none⟩ : Addr).add j = ⟨b, off + j, none⟩ := by unfold Addr.add; split <;> simp_all
theorem append_vals {T E : TypeId} {z : Value} {size bytes : Nat} (ht : Tryz.prog.underlying T = some (.slice E)) (hinf : (Tryz.prog.info? E).map (fun i => (i.zero, i.size, i.bytes)) = some (some z, size, bytes)) (hzs : z.cells.size = size) (hsz : 0 < size)
 (w : World) {ops : Array Oper} {rest : List Oper} {o : Oper} {a : Act} {Q : Exit -> Act -> World -> Prop}
 (hg : o.guard = none) (s x : Operand) (hop : o.op = Op.call { callee := Callee.builtin Builtin.append, args := #[s, x], argTypes := #[T, T] })
 (base : Nat) (v : Value) (k : Nat) (xs : List Value) (hs : a.eval s = v) (hown : w.ownsRow base E size v k xs) (b off m c : Nat) (ys : List Value) (hx : a.eval x = .slice (some ⟨b, off, none⟩) m c)
 (hy : ys.length = m * size) (hc : ∀ j u, ys[j]? = some u -> w.cell? ⟨b, off + j, none⟩ = some u) (h1 : ∀ u ∈ ys, u.oneCell' = true) (h63 : k + m <= 70368744177663) (hbytes : (k + m) * bytes <= 140737488355328) (hb : base <= w.heap.size)
 (hK : ∀ v' w', w'.ownsRow base E size v' (k + m) (xs ++ ys) -> w.grownBy w' v.ownBlock -> (v'.ownBlock = v.ownBlock ∨ v'.ownBlock = some w.heap.size) -> (v' = .slice none 0 0 ↔ v = .slice none 0 0 /\ m = 0) -> wpList Tryz.prog ops Q rest (a.put o.dst v') w') :
 wpList Tryz.prog ops Q (o :: rest) a w := by
 obtain ⟨i0, hi, hz0, hz1, hz2⟩ := inf_parts hinf
 have hnews : ∀ j u, ys[j]? = some u -> w.cell? ((⟨b, off, none⟩ : Addr).add j) = some u := fun j u hu => by rw [add_plain]; exact hc j u hu
 obtain ⟨v', w', hrun, r1, r2, r3⟩ := run_append_own (P := Tryz.prog) w base T o.type _ i0 _ size bytes ht hi hz0 hz1 hz2 hzs hsz v k xs hown ⟨b, off, none⟩ m c ys hy hnews h1 (by unfold maxLen; omega) hbytes hb
 have r4 := append_blk (P := Tryz.prog) w base T o.type _ i0 _ size bytes ht hi hz0 hz1 hz2 v k xs hown ⟨b, off, none⟩ m c ys hy hnews h1 (by unfold maxLen; omega) hbytes hrun
 exact wpList_run v' hg (exec_app s x _ v _ hop hs hx hrun) (hK v' w' r1 r2 r4 r3)
theorem step_append_vals {T E : TypeId} {z : Value} {size bytes : Nat} (ht : Tryz.prog.underlying T = some (.slice E)) (hinf : (Tryz.prog.info? E).map (fun i => (i.zero, i.size, i.bytes)) = some (some z, size, bytes)) (hzs : z.cells.size = size) (hsz : 0 < size)
 {ops : Array Oper} {o : Oper} {a : Act} {w : World} {K : Act -> World -> Prop} {Q : Exit -> Act -> World -> Prop} {Els : Prop}
 (hg : o.guard = none) (s x : Operand) (hop : o.op = Op.call { callee := Callee.builtin Builtin.append, args := #[s, x], argTypes := #[T, T] })
 (base : Nat) (v : Value) (k : Nat) (xs : List Value) (hs : a.eval s = v) (hown : w.ownsRow base E size v k xs) (b off m c : Nat) (ys : List Value) (hx : a.eval x = .slice (some ⟨b, off, none⟩) m c)
 (hy : ys.length = m * size) (hc : ∀ j u, ys[j]? = some u -> w.cell? ⟨b, off + j, none⟩ = some u) (h1 : ∀ u ∈ ys, u.oneCell' = true) (h63 : k + m <= 70368744177663) (hbytes : (k + m) * bytes <= 140737488355328) (hb : base <= w.heap.size)
 (hK : ∀ v' w', w'.ownsRow base E size v' (k + m) (xs ++ ys) -> w.grownBy w' v.ownBlock -> (v'.ownBlock = v.ownBlock ∨ v'.ownBlock = some w.heap.size) -> (v' = .slice none 0 0 ↔ v = .slice none 0 0 /\ m = 0) -> K (a.put o.dst v') w') :
 if Region.wanted o (yielded ops a.tmps) = true then Oper.wp Tryz.prog o a w K Q else Els := by
 have hw : Region.wanted o (yielded ops a.tmps) = true := by simp [Region.wanted, hg]
 rw [if_pos hw]
 obtain ⟨i0, hi, hz0, hz1, hz2⟩ := inf_parts hinf
 have hnews : ∀ j u, ys[j]? = some u -> w.cell? ((⟨b, off, none⟩ : Addr).add j) = some u := fun j u hu => by rw [add_plain]; exact hc j u hu
 obtain ⟨v', w', hrun, r1, r2, r3⟩ := run_append_own (P := Tryz.prog) w base T o.type _ i0 _ size bytes ht hi hz0 hz1 hz2 hzs hsz v k xs hown ⟨b, off, none⟩ m c ys hy hnews h1 (by unfold maxLen; omega) hbytes hb
 have r4 := append_blk (P := Tryz.prog) w base T o.type _ i0 _ size bytes ht hi hz0 hz1 hz2 v k xs hown ⟨b, off, none⟩ m c ys hy hnews h1 (by unfold maxLen; omega) hbytes hrun
 unfold Oper.wp
 simp [execOp, hop, resolve, invoke, builtin, hs, hx, hrun, Result.andThen]
 exact hK _ _ r1 r2 r4 r3
theorem infoI8 : (Tryz.prog.info? 2).map (fun i => (i.zero, i.size, i.bytes)) = some (some (Value.int .i64 0), 1, 8) := by kernel_rfl
theorem infoI8_parts : ∃ i0, Tryz.prog.info? 2 = some i0 /\ i0.zero = some (Value.int .i64 0) /\ i0.size = 1 /\ i0.bytes = 8 := by
 have h := infoI8
 cases hq : Tryz.prog.info? 2 with
 | none => rw [hq] at h; simp at h
 | some i0 =>
   rw [hq] at h
   simp only [Option.map_some, Option.some.injEq, Prod.mk.injEq] at h
   exact ⟨i0, rfl, h.1, h.2.1, h.2.2⟩
theorem ints_news {W : World} {b off : Nat} {ys : List Int} (h : IntsAt W (some ⟨b, off, none⟩) ys) : ∀ j u, (ys.map (Value.int .i64))[j]? = some u -> W.cell? ((⟨b, off, none⟩ : Addr).add j) = some u := by
 intro j u hu
 have hj : j < ys.length := by
  rcases Nat.lt_or_ge j ys.length with h' | h'
  · exact h'
  · simp [List.getElem?_eq_none (by simpa using h' : (ys.map (Value.int .i64)).length <= j)] at hu
 obtain ⟨b', off', e, hc⟩ := h j hj
 simp at e
 obtain ⟨rfl, rfl⟩ := e
 have hadd : (⟨b, off, none⟩ : Addr).add j = ⟨b, off + j, none⟩ := by unfold Addr.add; split <;> simp_all
 rw [hadd, hc, <- hu]
 simp [List.getD, hj]
theorem step_append_ints {ops : Array Oper} {o : Oper} {a : Act} {w : World} {K : Act -> World -> Prop} {Q : Exit -> Act -> World -> Prop} {E : Prop}
 (hg : o.guard = none) (s x : Operand) (hop : o.op = Op.call { callee := Callee.builtin Builtin.append, args := #[s, x], argTypes := #[22, 22] })
 (base : Nat) (v : Value) (xs : List Int) (k : Nat) (hs : a.eval s = v) (hown : w.ownsRow base 2 1 v k (xs.map (Value.int .i64))) (b off m c : Nat) (ys : List Int) (hx : a.eval x = .slice (some ⟨b, off, none⟩) m c)
 (hy : ys.length = m) (hc : IntsAt w (some ⟨b, off, none⟩) ys) (b1 : k <= 1000) (b2 : m <= 1000) (hb : base <= w.heap.size)
 (hK : ∀ v' w', w'.ownsRow base 2 1 v' (k + m) ((xs ++ ys).map (Value.int .i64)) -> w.grownBy w' v.ownBlock -> (v' = .slice none 0 0 ↔ v = .slice none 0 0 /\ m = 0) -> K (a.put o.dst v') w') :
 if Region.wanted o (yielded ops a.tmps) = true then Oper.wp Tryz.prog o a w K Q else E := by
 have hw : Region.wanted o (yielded ops a.tmps) = true := by simp [Region.wanted, hg]
 rw [if_pos hw]
 obtain ⟨i0, hi, hz0, hz1, hz2⟩ := infoI8_parts
 obtain ⟨v', w', hrun, r1, r2, r3⟩ := run_append_own (P := Tryz.prog) w base 22 o.type _ i0 _ 1 8 Tryz.underlying22 hi hz0 hz1 hz2 rfl (by decide) v k (xs.map (Value.int .i64)) hown ⟨b, off, none⟩ m c (ys.map (Value.int .i64)) (by simp [hy]) (ints_news hc) (by simp [Value.oneCell']) (by unfold maxLen; omega) (by omega) hb
 unfold Oper.wp
 simp [execOp, hop, resolve, invoke, builtin, hs, hx, hrun, Result.andThen]
 exact hK _ _ (by rw [List.map_append]; exact r1) r2 r3
structure GrownBut (S : Nat -> Prop) (w w' : World) : Prop where
 os : w'.os = w.os
 tape : w'.tape = w.tape
 output : w'.output = w.output
 size : w.heap.size <= w'.heap.size
 block : ∀ b, b < w.heap.size -> ¬ S b -> w'.heap[b]? = w.heap[b]?
theorem GrownBut.of_below {S : Nat -> Prop} {w w' : World} (h : Below w.heap.size w w') : GrownBut S w w' := ⟨h.os, h.tape, h.output, h.size, fun b hb _ => h.block b hb⟩
theorem GrownBut.of_grown {S : Nat -> Prop} {w w' : World} {g : Nat} (h : w.grownBy w' (some g)) (hs : S g) : GrownBut S w w' := ⟨h.os, h.tape, h.output, h.size, fun b hb hn => h.block b hb (fun e => by cases e; exact hn hs)⟩
theorem GrownBut.trans {S : Nat -> Prop} {w w1 w2 : World} (h : GrownBut S w w1) (k : GrownBut S w1 w2) : GrownBut S w w2 :=
 ⟨k.os.trans h.os, k.tape.trans h.tape, k.output.trans h.output, Nat.le_trans h.size k.size, fun b hb hn => (k.block b (Nat.lt_of_lt_of_le hb h.size) hn).trans (h.block b hb hn)⟩
theorem GrownBut.mono {S S' : Nat -> Prop} {w w' : World} (h : GrownBut S w w') (hs : ∀ b, S b -> S' b) : GrownBut S' w w' := ⟨h.os, h.tape, h.output, h.size, fun b hb hn => h.block b hb (fun x => hn (hs b x))⟩
theorem GrownBut.below {S : Nat -> Prop} {w w' : World} {B : Nat} (h : GrownBut S w w') (hB : B <= w.heap.size) (hs : ∀ b, S b -> B <= b) : Below B w w' :=
 ⟨h.os, h.tape, h.output, h.size, fun b hb => h.block b (by omega) (fun x => by have := hs b x; omega)⟩
theorem GrownBut.row {S : Nat -> Prop} {w w' : World} {k : Nat} {o : Obj} (h : GrownBut S w w') (hr : w.heap[k]? = some o) (hn : ¬ S k) : w'.heap[k]? = some o := (h.block k (row_lt hr) hn).trans hr
theorem GrownBut.owns {S : Nat -> Prop} {w w' : World} {base size k : Nat} {e : TypeId} {v : Value} {xs : List Value} (h : GrownBut S w w') (ho : w.ownsRow base e size v k xs) (hs : ∀ b, S b -> b < base) : w'.ownsRow base e size v k xs := by
 obtain ⟨h1, h2 | ⟨g, cap, cur, h2, h3, h4, h5⟩⟩ := ho
 · exact ⟨h1, .inl h2⟩
 · exact ⟨h1, .inr ⟨g, cap, cur, h2, h3, h.row h4 (fun x => by have := hs g x; omega), h5⟩⟩
theorem but_own {S : Nat -> Prop} {w w' : World} {base size n : Nat} {e : TypeId} {v : Value} {xs : List Value} (h : GrownBut S w w') (ho : w.ownsRow base e size v n xs) (hs : ∀ b, v.ownBlock = some b -> ¬ S b) : w'.ownsRow base e size v n xs := by
 obtain ⟨h1, h2 | ⟨g, cap, cur, h2, h3, h4, h5⟩⟩ := ho
 · exact ⟨h1, .inl h2⟩
 · exact ⟨h1, .inr ⟨g, cap, cur, h2, h3, h.row h4 (hs g (by rw [h2]; rfl)), h5⟩⟩
def caseBl (zl ol vl : Value) (b : Nat) : Prop := zl.ownBlock = some b ∨ ol.ownBlock = some b ∨ vl.ownBlock = some b
def markA (cur : Array Value) (k0 : Int) : Nat -> Array Value
 | 0 => cur
 | m + 1 => (markA cur k0 m).setIfInBounds m (.int .i64 (k0 + (m : Nat)))
theorem markA_size (cur : Array Value) (k0 : Int) : ∀ m, (markA cur k0 m).size = cur.size
 | 0 => rfl
 | m + 1 => by simp [markA, markA_size cur k0 m]
theorem markA_get (cur : Array Value) (k0 : Int) : ∀ m, m <= cur.size -> ∀ j, j < m -> (markA cur k0 m)[j]? = some (.int .i64 (k0 + (j : Nat)))
 | 0, _, j, hj => by omega
 | m + 1, hm, j, hj => by
   unfold markA
   by_cases e : j = m
   · subst e
     rw [Array.getElem?_setIfInBounds_self_of_lt (by rw [markA_size]; omega)]
   · rw [Array.getElem?_setIfInBounds_ne (by omega)]
     exact markA_get cur k0 m (by omega) j (by omega)
theorem row_some {w : World} {g : Nat} {cur : Array Value} {T : TypeId} (h : w.heap[g]? = some (.cells cur T (0, 0))) {j : Nat} (hj : j < cur.size) : ∃ v, w.cell? ⟨g, j, none⟩ = some v := by
 rw [cell_of_row _ _ j _ _ _ h]
 exact ⟨cur[j], by simp [hj]⟩
theorem mark_step {w : World} {g m : Nat} {cur : Array Value} {T : TypeId} {k0 v : Int} (h : w.heap[g]? = some (.cells (markA cur k0 m) T (0, 0))) (hv : v = k0 + (m : Nat)) : (w.setCell ⟨g, m, none⟩ (.int .i64 v)).heap[g]? = some (.cells (markA cur k0 (m + 1)) T (0, 0)) := by
 rw [heap_setCell_same _ _ _ _ _ _ h, hv]
 rfl
def seqL (k : Int) (n : Nat) : List Int := (List.range n).map (fun i : Nat => k + (i : Int))
theorem seqL_len (k : Int) (n : Nat) : (seqL k n).length = n := by simp [seqL]
theorem seqL_at {k : Int} {n j : Nat} (h : j < n) : (seqL k n)[j]? = some (k + (j : Int)) := by simp [seqL, h]
theorem own_row_of {w : World} {base size n rc g : Nat} {e : TypeId} {xs : List Value} (h : w.ownsRow base e size (.slice (some ⟨g, 0, none⟩) n rc) n xs) : ∃ cur, w.heap[g]? = some (.cells cur e (0, 0)) /\ cur.size = rc * size /\ n <= rc /\ rc <= maxLen /\ base <= g := by
 obtain ⟨_, ⟨h1, _⟩ | ⟨g', cap, cur, h2, h3, h4, h5, h6, h7, _⟩⟩ := h
 · cases h1
 · simp only [Value.slice.injEq, Option.some.injEq, Addr.mk.injEq, and_true, true_and] at h2
   obtain ⟨rfl, rfl⟩ := h2
   exact ⟨cur, h4, h7, h5, h6, h3⟩
theorem mark_row {w w' : World} {base size n c g : Nat} {K : Int} {T : TypeId} {cur : Array Value} {xs : List Value} (h : w.ownsRow base T size (.slice (some ⟨g, 0, none⟩) n c) n xs) (hrow : w.heap[g]? = some (.cells cur T (0, 0))) (hr : w'.heap[g]? = some (.cells (markA cur K (n * size)) T (0, 0))) : w'.ownsRow base T size (.slice (some ⟨g, 0, none⟩) n c) n ((seqL K (n * size)).map (Value.int .i64)) := by
 obtain ⟨cur2, k1, k2, k3, k4, k5⟩ := own_row_of h
 rw [hrow] at k1
 simp only [Option.some.injEq, Obj.cells.injEq, and_true] at k1
 subst k1
 have hle : n * size <= cur.size := by rw [k2]; exact Nat.mul_le_mul_right _ k3
 refine ownV_of_cells hr (by rw [markA_size, k2]) k3 k4 k5 (by rw [List.length_map, seqL_len]) (fun j hj => ?_)
 rw [cell_of_row _ _ j _ _ _ hr, markA_get cur K (n * size) hle j hj, List.getElem?_map, seqL_at hj]
 rfl
set_option maxHeartbeats 1000000 in
theorem markInt64S_any (g n cap : Nat) (k0 : Int) (cur : Array Value) (T : TypeId) (w : World) (hrow0 : w.heap[g]? = some (.cells cur T (0, 0))) (hn : n <= cur.size) (h0 : 0 <= k0) (h1 : k0 <= 1000000000000) (hn1 : n <= 10000000) :
 Calls Tryz.prog 45 #[.slice (some ⟨g, 0, none⟩) n cap, .int .i64 k0] w fun e w' => e = .returned (.int .i64 (k0 + ((n : Nat) : Int))) /\ w.grownBy w' (some g) /\ w'.heap[g]? = some (.cells (markA cur k0 (n)) T (0, 0)) := by
 have HR0 : Hid (w.heap[g]? = some (.cells cur T (0, 0))) := hrow0
 clear hrow0
 go_enter Tryz.func45, Tryz.ntmps45
 go_wp2_with fail
 go_loopw [1, 5] (fun kk t wr => ∃ k : Nat, k <= n /\ t = .int .i64 k /\ kk = .int .i64 (k0 + ((k : Nat) : Int)) /\ w.grownBy wr (some g) /\ wr.heap[g]? = some (.cells (markA cur k0 (k)) T (0, 0))) (fun _ t _ => n - (intOf t).toNat)
 case atStart => exact ⟨0, Nat.zero_le _, rfl, by simp, grown_refl _ _, HR0.out⟩
 case round =>
  obtain ⟨k, hk, rfl, rfl, hg, hrow⟩ := hrel
  have HG : Hid (w.grownBy wr (some g)) := hg
  clear hg
  obtain ⟨K, HK⟩ := nmd (k0 + ((k : Nat) : Int))
  have hkb : 0 <= K /\ K <= 1000100000000 := by
   have := HK.out
   omega
  rw [HK.out]
  by_cases hlt : k < n
  · have fz := fun i => frozen_of_row _ _ i _ _ hrow
    obtain ⟨z0, y0⟩ := row_some hrow (j := k) (by rw [markA_size]; omega)
    have HROW : Hid ((World.heap (World.setCell wr ⟨g, k, none⟩ (Value.int .i64 K)))[g]? = some (.cells (markA cur k0 ((k + 1))) T (0, 0))) := by
     show _ = _
     exact (mark_step hrow (by have := HK.out; omega))
    have HGR : Hid (w.grownBy (World.setCell wr ⟨g, k, none⟩ (Value.int .i64 K)) (some g)) := (grown_trans HG.out (grown_set _ _ _ _))
    have HK1 : Hid (k0 + (((k + 1) : Nat) : Int) = K + 1) := by
     show _ = _
     have := HK.out
     omega
    clear hrow
    go_wp2
    go_roundw
    case rel => exact ⟨k + 1, by omega, by go_num, by first | (rw [HK1.out]; go_num) | rw [HK1.out], HGR.out, HROW.out⟩
    case measure => simp [intOf]; omega
  · have hkl : k = n := by omega
    subst hkl
    have HROW : Hid (wr.heap[g]? = _) := hrow
    clear hrow
    go_wp2
    go_ret
    exact ⟨ret_int HK.out.symm, HG.out, HROW.out⟩
set_option maxHeartbeats 400000 in
theorem markInt64S_nil (a : Option Addr) (cap : Nat) (k0 : Int) (w : World) :
 Calls Tryz.prog 45 #[.slice a 0 cap, .int .i64 k0] w fun e w' => e = .returned (.int .i64 k0) /\ w' = w := by
 go_enter Tryz.func45, Tryz.ntmps45
 go_wp2_with fail
 go_loop [1, 5] (fun kk t => t = .int .i64 0 /\ kk = .int .i64 k0) (fun _ _ => 0)
 case atStart => exact ⟨rfl, rfl⟩
 case round =>
  obtain ⟨rfl, rfl⟩ := hrel
  go_wp2
  go_ret
  exact ⟨rfl, rfl⟩
set_option maxHeartbeats 1000000 in
theorem heldInt64S_any (g n cap : Nat) (k0 : Int) (w : World) (hc : ∀ j, j < n -> w.cell? ⟨g, j, none⟩ = some (.int .i64 (k0 + (j : Nat)))) (h0 : 0 <= k0) (h1 : k0 <= 1000000000000) (hn1 : n <= 10000000) :
 Calls Tryz.prog 50 #[.slice (some ⟨g, 0, none⟩) n cap, .int .i64 k0] w fun e w' => e = .returned (.int .i64 (k0 + ((n : Nat) : Int))) /\ w' = w := by
 have HC : Hid (∀ j, j < n -> w.cell? ⟨g, j, none⟩ = some (.int .i64 (k0 + (j : Nat)))) := hc
 clear hc
 go_enter Tryz.func50, Tryz.ntmps50
 go_wp2_with fail
 go_loop [1, 5] (fun kk t => ∃ k : Nat, k <= n /\ t = .int .i64 k /\ kk = .int .i64 (k0 + ((k : Nat) : Int))) (fun _ t => n - (intOf t).toNat)
 case atStart => exact ⟨0, Nat.zero_le _, rfl, by simp⟩
 case round =>
  obtain ⟨k, hk, rfl, rfl⟩ := hrel
  obtain ⟨K, HK⟩ := nmd (k0 + ((k : Nat) : Int))
  have hkb : 0 <= K /\ K <= 1000100000000 := by
   have := HK.out
   omega
  rw [HK.out]
  by_cases hlt : k < n
  · have HK1 : Hid (k0 + (((k + 1) : Nat) : Int) = K + 1) := by
     show _ = _
     have := HK.out
     omega
    have y0 := HC.out (k) (by omega)
    rw [show k0 + (((k : Nat)) : Int) = K by have := HK.out; omega] at y0
    go_wp2
    go_round
    case rel => exact ⟨k + 1, by omega, by go_num, by first | (rw [HK1.out]; go_num) | rw [HK1.out]⟩
    case measure => simp [intOf]; omega
  · have hkl : k = n := by omega
    subst hkl
    go_wp2
    go_ret
    exact ⟨ret_int HK.out.symm, rfl⟩
set_option maxHeartbeats 400000 in
theorem heldInt64S_nil (a : Option Addr) (cap : Nat) (k0 : Int) (w : World) :
 Calls Tryz.prog 50 #[.slice a 0 cap, .int .i64 k0] w fun e w' => e = .returned (.int .i64 k0) /\ w' = w := by
 go_enter Tryz.func50, Tryz.ntmps50
 go_wp2_with fail
 go_loop [1, 5] (fun kk t => t = .int .i64 0 /\ kk = .int .i64 k0) (fun _ _ => 0)
 case atStart => exact ⟨rfl, rfl⟩
 case round =>
  obtain ⟨rfl, rfl⟩ := hrel
  go_wp2
  go_ret
  exact ⟨rfl, rfl⟩
set_option maxHeartbeats 1000000 in
theorem markOrderS_any (g n cap : Nat) (k0 : Int) (cur : Array Value) (T : TypeId) (w : World) (hrow0 : w.heap[g]? = some (.cells cur T (0, 0))) (hn : n * 6 <= cur.size) (h0 : 0 <= k0) (h1 : k0 <= 1000000000000) (hn1 : n <= 10000000) :
 Calls Tryz.prog 42 #[.slice (some ⟨g, 0, none⟩) n cap, .int .i64 k0] w fun e w' => e = .returned (.int .i64 (k0 + ((n * 6 : Nat) : Int))) /\ w.grownBy w' (some g) /\ w'.heap[g]? = some (.cells (markA cur k0 (n * 6)) T (0, 0)) := by
 have HR0 : Hid (w.heap[g]? = some (.cells cur T (0, 0))) := hrow0
 clear hrow0
 go_enter Tryz.func42, Tryz.ntmps42
 go_wp2_with fail
 go_loopw [1, 5] (fun kk t wr => ∃ k : Nat, k <= n /\ t = .int .i64 k /\ kk = .int .i64 (k0 + ((k * 6 : Nat) : Int)) /\ w.grownBy wr (some g) /\ wr.heap[g]? = some (.cells (markA cur k0 (k * 6)) T (0, 0))) (fun _ t _ => n - (intOf t).toNat)
 case atStart => exact ⟨0, Nat.zero_le _, rfl, by simp, grown_refl _ _, HR0.out⟩
 case round =>
  obtain ⟨k, hk, rfl, rfl, hg, hrow⟩ := hrel
  have HG : Hid (w.grownBy wr (some g)) := hg
  clear hg
  obtain ⟨K, HK⟩ := nmd (k0 + ((k * 6 : Nat) : Int))
  have hkb : 0 <= K /\ K <= 1000100000000 := by
   have := HK.out
   omega
  rw [HK.out]
  by_cases hlt : k < n
  · have fz := fun i => frozen_of_row _ _ i _ _ hrow
    obtain ⟨z0, y0⟩ := row_some hrow (j := k * 6) (by rw [markA_size]; omega)
    obtain ⟨z1, y1⟩ := row_some hrow (j := k * 6 + 1) (by rw [markA_size]; omega)
    obtain ⟨z2, y2⟩ := row_some hrow (j := k * 6 + 2) (by rw [markA_size]; omega)
    obtain ⟨z3, y3⟩ := row_some hrow (j := k * 6 + 3) (by rw [markA_size]; omega)
    obtain ⟨z4, y4⟩ := row_some hrow (j := k * 6 + 4) (by rw [markA_size]; omega)
    obtain ⟨z5, y5⟩ := row_some hrow (j := k * 6 + 5) (by rw [markA_size]; omega)
    have HROW : Hid ((World.heap (World.setCell (World.setCell (World.setCell (World.setCell (World.setCell (World.setCell wr ⟨g, k * 6, none⟩ (Value.int .i64 K)) ⟨g, k * 6 + 1, none⟩ (Value.int .i64 (K + 1))) ⟨g, k * 6 + 2, none⟩ (Value.int .i64 (K + 1 + 1))) ⟨g, k * 6 + 3, none⟩ (Value.int .i64 (K + 1 + 1 + 1))) ⟨g, k * 6 + 4, none⟩ (Value.int .i64 (K + 1 + 1 + 1 + 1))) ⟨g, k * 6 + 5, none⟩ (Value.int .i64 (K + 1 + 1 + 1 + 1 + 1))))[g]? = some (.cells (markA cur k0 (((k + 1) * 6))) T (0, 0))) := by
     show _ = _
     rw [show (k + 1) * 6 = k * 6 + 1 + 1 + 1 + 1 + 1 + 1 by omega]
     exact (mark_step (mark_step (mark_step (mark_step (mark_step (mark_step hrow (by have := HK.out; omega)) (by have := HK.out; omega)) (by have := HK.out; omega)) (by have := HK.out; omega)) (by have := HK.out; omega)) (by have := HK.out; omega))
    have HGR : Hid (w.grownBy (World.setCell (World.setCell (World.setCell (World.setCell (World.setCell (World.setCell wr ⟨g, k * 6, none⟩ (Value.int .i64 K)) ⟨g, k * 6 + 1, none⟩ (Value.int .i64 (K + 1))) ⟨g, k * 6 + 2, none⟩ (Value.int .i64 (K + 1 + 1))) ⟨g, k * 6 + 3, none⟩ (Value.int .i64 (K + 1 + 1 + 1))) ⟨g, k * 6 + 4, none⟩ (Value.int .i64 (K + 1 + 1 + 1 + 1))) ⟨g, k * 6 + 5, none⟩ (Value.int .i64 (K + 1 + 1 + 1 + 1 + 1))) (some g)) := (grown_trans (grown_trans (grown_trans (grown_trans (grown_trans (grown_trans HG.out (grown_set _ _ _ _)) (grown_set _ _ _ _)) (grown_set _ _ _ _)) (grown_set _ _ _ _)) (grown_set _ _ _ _)) (grown_set _ _ _ _))
    have HK1 : Hid (k0 + ((((k + 1) * 6) : Nat) : Int) = K + 6) := by
     show _ = _
     have := HK.out
     omega
    clear hrow
    go_wp2
    go_roundw
    case rel => exact ⟨k + 1, by omega, by go_num, by first | (rw [HK1.out]; go_num) | rw [HK1.out], HGR.out, HROW.out⟩
    case measure => simp [intOf]; omega
  · have hkl : k = n := by omega
    subst hkl
    have HROW : Hid (wr.heap[g]? = _) := hrow
    clear hrow
    go_wp2
    go_ret
    exact ⟨ret_int HK.out.symm, HG.out, HROW.out⟩
set_option maxHeartbeats 400000 in
theorem markOrderS_nil (a : Option Addr) (cap : Nat) (k0 : Int) (w : World) :
 Calls Tryz.prog 42 #[.slice a 0 cap, .int .i64 k0] w fun e w' => e = .returned (.int .i64 k0) /\ w' = w := by
 go_enter Tryz.func42, Tryz.ntmps42
 go_wp2_with fail
 go_loop [1, 5] (fun kk t => t = .int .i64 0 /\ kk = .int .i64 k0) (fun _ _ => 0)
 case atStart => exact ⟨rfl, rfl⟩
 case round =>
  obtain ⟨rfl, rfl⟩ := hrel
  go_wp2
  go_ret
  exact ⟨rfl, rfl⟩
set_option maxHeartbeats 1000000 in
theorem markVehicleS_any (g n cap : Nat) (k0 : Int) (cur : Array Value) (T : TypeId) (w : World) (hrow0 : w.heap[g]? = some (.cells cur T (0, 0))) (hn : n * 5 <= cur.size) (h0 : 0 <= k0) (h1 : k0 <= 1000000000000) (hn1 : n <= 10000000) :
 Calls Tryz.prog 43 #[.slice (some ⟨g, 0, none⟩) n cap, .int .i64 k0] w fun e w' => e = .returned (.int .i64 (k0 + ((n * 5 : Nat) : Int))) /\ w.grownBy w' (some g) /\ w'.heap[g]? = some (.cells (markA cur k0 (n * 5)) T (0, 0)) := by
 have HR0 : Hid (w.heap[g]? = some (.cells cur T (0, 0))) := hrow0
 clear hrow0
 go_enter Tryz.func43, Tryz.ntmps43
 go_wp2_with fail
 go_loopw [1, 5] (fun kk t wr => ∃ k : Nat, k <= n /\ t = .int .i64 k /\ kk = .int .i64 (k0 + ((k * 5 : Nat) : Int)) /\ w.grownBy wr (some g) /\ wr.heap[g]? = some (.cells (markA cur k0 (k * 5)) T (0, 0))) (fun _ t _ => n - (intOf t).toNat)
 case atStart => exact ⟨0, Nat.zero_le _, rfl, by simp, grown_refl _ _, HR0.out⟩
 case round =>
  obtain ⟨k, hk, rfl, rfl, hg, hrow⟩ := hrel
  have HG : Hid (w.grownBy wr (some g)) := hg
  clear hg
  obtain ⟨K, HK⟩ := nmd (k0 + ((k * 5 : Nat) : Int))
  have hkb : 0 <= K /\ K <= 1000100000000 := by
   have := HK.out
   omega
  rw [HK.out]
  by_cases hlt : k < n
  · have fz := fun i => frozen_of_row _ _ i _ _ hrow
    obtain ⟨z0, y0⟩ := row_some hrow (j := k * 5) (by rw [markA_size]; omega)
    obtain ⟨z1, y1⟩ := row_some hrow (j := k * 5 + 1) (by rw [markA_size]; omega)
    obtain ⟨z2, y2⟩ := row_some hrow (j := k * 5 + 2) (by rw [markA_size]; omega)
    obtain ⟨z3, y3⟩ := row_some hrow (j := k * 5 + 3) (by rw [markA_size]; omega)
    obtain ⟨z4, y4⟩ := row_some hrow (j := k * 5 + 4) (by rw [markA_size]; omega)
    have HROW : Hid ((World.heap (World.setCell (World.setCell (World.setCell (World.setCell (World.setCell wr ⟨g, k * 5, none⟩ (Value.int .i64 K)) ⟨g, k * 5 + 1, none⟩ (Value.int .i64 (K + 1))) ⟨g, k * 5 + 2, none⟩ (Value.int .i64 (K + 1 + 1))) ⟨g, k * 5 + 3, none⟩ (Value.int .i64 (K + 1 + 1 + 1))) ⟨g, k * 5 + 4, none⟩ (Value.int .i64 (K + 1 + 1 + 1 + 1))))[g]? = some (.cells (markA cur k0 (((k + 1) * 5))) T (0, 0))) := by
     show _ = _
     rw [show (k + 1) * 5 = k * 5 + 1 + 1 + 1 + 1 + 1 by omega]
     exact (mark_step (mark_step (mark_step (mark_step (mark_step hrow (by have := HK.out; omega)) (by have := HK.out; omega)) (by have := HK.out; omega)) (by have := HK.out; omega)) (by have := HK.out; omega))
    have HGR : Hid (w.grownBy (World.setCell (World.setCell (World.setCell (World.setCell (World.setCell wr ⟨g, k * 5, none⟩ (Value.int .i64 K)) ⟨g, k * 5 + 1, none⟩ (Value.int .i64 (K + 1))) ⟨g, k * 5 + 2, none⟩ (Value.int .i64 (K + 1 + 1))) ⟨g, k * 5 + 3, none⟩ (Value.int .i64 (K + 1 + 1 + 1))) ⟨g, k * 5 + 4, none⟩ (Value.int .i64 (K + 1 + 1 + 1 + 1))) (some g)) := (grown_trans (grown_trans (grown_trans (grown_trans (grown_trans HG.out (grown_set _ _ _ _)) (grown_set _ _ _ _)) (grown_set _ _ _ _)) (grown_set _ _ _ _)) (grown_set _ _ _ _))
    have HK1 : Hid (k0 + ((((k + 1) * 5) : Nat) : Int) = K + 5) := by
     show _ = _
     have := HK.out
     omega
    clear hrow
    go_wp2
    go_roundw
    case rel => exact ⟨k + 1, by omega, by go_num, by first | (rw [HK1.out]; go_num) | rw [HK1.out], HGR.out, HROW.out⟩
    case measure => simp [intOf]; omega
  · have hkl : k = n := by omega
    subst hkl
    have HROW : Hid (wr.heap[g]? = _) := hrow
    clear hrow
    go_wp2
    go_ret
    exact ⟨ret_int HK.out.symm, HG.out, HROW.out⟩
set_option maxHeartbeats 400000 in
theorem markVehicleS_nil (a : Option Addr) (cap : Nat) (k0 : Int) (w : World) :
 Calls Tryz.prog 43 #[.slice a 0 cap, .int .i64 k0] w fun e w' => e = .returned (.int .i64 k0) /\ w' = w := by
 go_enter Tryz.func43, Tryz.ntmps43
 go_wp2_with fail
 go_loop [1, 5] (fun kk t => t = .int .i64 0 /\ kk = .int .i64 k0) (fun _ _ => 0)
 case atStart => exact ⟨rfl, rfl⟩
 case round =>
  obtain ⟨rfl, rfl⟩ := hrel
  go_wp2
  go_ret
  exact ⟨rfl, rfl⟩
set_option maxHeartbeats 1000000 in
theorem heldOrderS_any (g n cap : Nat) (k0 : Int) (w : World) (hc : ∀ j, j < n * 6 -> w.cell? ⟨g, j, none⟩ = some (.int .i64 (k0 + (j : Nat)))) (h0 : 0 <= k0) (h1 : k0 <= 1000000000000) (hn1 : n <= 10000000) :
 Calls Tryz.prog 47 #[.slice (some ⟨g, 0, none⟩) n cap, .int .i64 k0] w fun e w' => e = .returned (.int .i64 (k0 + ((n * 6 : Nat) : Int))) /\ w' = w := by
 have HC : Hid (∀ j, j < n * 6 -> w.cell? ⟨g, j, none⟩ = some (.int .i64 (k0 + (j : Nat)))) := hc
 clear hc
 go_enter Tryz.func47, Tryz.ntmps47
 go_wp2_with fail
 go_loop [1, 5] (fun kk t => ∃ k : Nat, k <= n /\ t = .int .i64 k /\ kk = .int .i64 (k0 + ((k * 6 : Nat) : Int))) (fun _ t => n - (intOf t).toNat)
 case atStart => exact ⟨0, Nat.zero_le _, rfl, by simp⟩
 case round =>
  obtain ⟨k, hk, rfl, rfl⟩ := hrel
  obtain ⟨K, HK⟩ : ∃ t, Hid (k0 + ((k * 6 : Nat) : Int) = t) := ⟨_, rfl⟩
  have hkb : 0 <= K /\ K <= 1000100000000 := by
   have := HK.out
   omega
  rw [HK.out]
  by_cases hlt : k < n
  · have HK1 : Hid (k0 + ((((k + 1) * 6) : Nat) : Int) = K + 6) := by
     show _ = _
     have := HK.out
     omega
    have y0 := HC.out (k * 6) (by omega)
    have y1 := HC.out (k * 6 + 1) (by omega)
    have y2 := HC.out (k * 6 + 2) (by omega)
    have y3 := HC.out (k * 6 + 3) (by omega)
    have y4 := HC.out (k * 6 + 4) (by omega)
    have y5 := HC.out (k * 6 + 5) (by omega)
    rw [show k0 + (((k * 6 : Nat)) : Int) = K by have := HK.out; omega] at y0
    rw [show k0 + (((k * 6 + 1 : Nat)) : Int) = K + 1 by have := HK.out; omega] at y1
    rw [show k0 + (((k * 6 + 2 : Nat)) : Int) = K + 1 + 1 by have := HK.out; omega] at y2
    rw [show k0 + (((k * 6 + 3 : Nat)) : Int) = K + 1 + 1 + 1 by have := HK.out; omega] at y3
    rw [show k0 + (((k * 6 + 4 : Nat)) : Int) = K + 1 + 1 + 1 + 1 by have := HK.out; omega] at y4
    rw [show k0 + (((k * 6 + 5 : Nat)) : Int) = K + 1 + 1 + 1 + 1 + 1 by have := HK.out; omega] at y5
    go_wp2
    go_round
    case rel => exact ⟨k + 1, by omega, by go_num, by first | (rw [HK1.out]; go_num) | rw [HK1.out]⟩
    case measure => simp [intOf]; omega
  · have hkl : k = n := by omega
    subst hkl
    go_wp2
    go_ret
    exact ⟨ret_int HK.out.symm, rfl⟩
set_option maxHeartbeats 400000 in
theorem heldOrderS_nil (a : Option Addr) (cap : Nat) (k0 : Int) (w : World) :
 Calls Tryz.prog 47 #[.slice a 0 cap, .int .i64 k0] w fun e w' => e = .returned (.int .i64 k0) /\ w' = w := by
 go_enter Tryz.func47, Tryz.ntmps47
 go_wp2_with fail
 go_loop [1, 5] (fun kk t => t = .int .i64 0 /\ kk = .int .i64 k0) (fun _ _ => 0)
 case atStart => exact ⟨rfl, rfl⟩
 case round =>
  obtain ⟨rfl, rfl⟩ := hrel
  go_wp2
  go_ret
  exact ⟨rfl, rfl⟩
set_option maxHeartbeats 1000000 in
theorem heldVehicleS_any (g n cap : Nat) (k0 : Int) (w : World) (hc : ∀ j, j < n * 5 -> w.cell? ⟨g, j, none⟩ = some (.int .i64 (k0 + (j : Nat)))) (h0 : 0 <= k0) (h1 : k0 <= 1000000000000) (hn1 : n <= 10000000) :
 Calls Tryz.prog 48 #[.slice (some ⟨g, 0, none⟩) n cap, .int .i64 k0] w fun e w' => e = .returned (.int .i64 (k0 + ((n * 5 : Nat) : Int))) /\ w' = w := by
 have HC : Hid (∀ j, j < n * 5 -> w.cell? ⟨g, j, none⟩ = some (.int .i64 (k0 + (j : Nat)))) := hc
 clear hc
 go_enter Tryz.func48, Tryz.ntmps48
 go_wp2_with fail
 go_loop [1, 5] (fun kk t => ∃ k : Nat, k <= n /\ t = .int .i64 k /\ kk = .int .i64 (k0 + ((k * 5 : Nat) : Int))) (fun _ t => n - (intOf t).toNat)
 case atStart => exact ⟨0, Nat.zero_le _, rfl, by simp⟩
 case round =>
  obtain ⟨k, hk, rfl, rfl⟩ := hrel
  obtain ⟨K, HK⟩ : ∃ t, Hid (k0 + ((k * 5 : Nat) : Int) = t) := ⟨_, rfl⟩
  have hkb : 0 <= K /\ K <= 1000100000000 := by
   have := HK.out
   omega
  rw [HK.out]
  by_cases hlt : k < n
  · have HK1 : Hid (k0 + ((((k + 1) * 5) : Nat) : Int) = K + 5) := by
     show _ = _
     have := HK.out
     omega
    have y0 := HC.out (k * 5) (by omega)
    have y1 := HC.out (k * 5 + 1) (by omega)
    have y2 := HC.out (k * 5 + 2) (by omega)
    have y3 := HC.out (k * 5 + 3) (by omega)
    have y4 := HC.out (k * 5 + 4) (by omega)
    rw [show k0 + (((k * 5 : Nat)) : Int) = K by have := HK.out; omega] at y0
    rw [show k0 + (((k * 5 + 1 : Nat)) : Int) = K + 1 by have := HK.out; omega] at y1
    rw [show k0 + (((k * 5 + 2 : Nat)) : Int) = K + 1 + 1 by have := HK.out; omega] at y2
    rw [show k0 + (((k * 5 + 3 : Nat)) : Int) = K + 1 + 1 + 1 by have := HK.out; omega] at y3
    rw [show k0 + (((k * 5 + 4 : Nat)) : Int) = K + 1 + 1 + 1 + 1 by have := HK.out; omega] at y4
    go_wp2
    go_round
    case rel => exact ⟨k + 1, by omega, by go_num, by first | (rw [HK1.out]; go_num) | rw [HK1.out]⟩
    case measure => simp [intOf]; omega
  · have hkl : k = n := by omega
    subst hkl
    go_wp2
    go_ret
    exact ⟨ret_int HK.out.symm, rfl⟩
set_option maxHeartbeats 400000 in
theorem heldVehicleS_nil (a : Option Addr) (cap : Nat) (k0 : Int) (w : World) :
 Calls Tryz.prog 48 #[.slice a 0 cap, .int .i64 k0] w fun e w' => e = .returned (.int .i64 k0) /\ w' = w := by
 go_enter Tryz.func48, Tryz.ntmps48
 go_wp2_with fail
 go_loop [1, 5] (fun kk t => t = .int .i64 0 /\ kk = .int .i64 k0) (fun _ _ => 0)
 case atStart => exact ⟨rfl, rfl⟩
 case round =>
  obtain ⟨rfl, rfl⟩ := hrel
  go_wp2
  go_ret
  exact ⟨rfl, rfl⟩
end Go.Proofs.YtcapkcallaajaaaGreatDoor
