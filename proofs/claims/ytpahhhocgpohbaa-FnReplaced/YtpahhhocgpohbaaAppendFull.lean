import Derived.Test.YtpahhhocgpohbaaPack2
import Derived.ArgAppend
namespace Go.Proofs.Ytpahhhocgpohbaa
open Go.RowKit

/-- 'append' onto a full slice wherever it lies, nil too: a new row, all else as it was. -/
theorem run_append_full {T E : TypeId} {z : Value} {size bytes : Nat} (ht : Try.prog.underlying T = some (.slice E)) (hinf : (Try.prog.info? E).map (fun i => (i.zero, i.size, i.bytes)) = some (some z, size, bytes)) (hzs : z.cells.size = size) (hsz : 0 < size)
    (w : World) (ty : TypeId) (ao : Option Addr) (n : Nat) (olds : List Value) (hnone : ao = none → n = 0) (hlo : olds.length = n * size) (hc0 : ∀ j u, olds[j]? = some u → ∃ b off, ao = some ⟨b, off, none⟩ ∧ w.cell? ⟨b, off + j, none⟩ = some u)
    (g m c : Nat) (news : List Value) (hm : 0 < m) (hl : news.length = m * size) (hnews : ∀ j u, news[j]? = some u → w.cell? ⟨g, 0 + j, none⟩ = some u) (h1 : ∀ u ∈ news, u.oneCell' = true) (h63 : n + m ≤ 70368744177663) (hbytes : (n + m) * bytes ≤ 140737488355328) :
    ∃ v' w', (Builtin.append_ #[T, T] ty #[.slice ao n n, .slice (some ⟨g, 0, none⟩) m c]).run Try.prog w = .ok v' w' ∧ w'.ownsRow w.heap.size E size v' (n + m) (olds ++ news) ∧ w.grownBy w' none := by
  obtain ⟨i0, hi, hz0, hz1, hz2⟩ := inf_parts hinf
  have hnews' : ∀ j u, news[j]? = some u → w.cell? (Addr.add ⟨g, 0, none⟩ j) = some u := fun j u hu => by
    rw [add_plain]
    exact hnews j u hu
  cases ao with
  | some b =>
    exact run_append_arg_grows (P := Try.prog) w T ty E i0 z size bytes ht hi hz0 hz1 hz2 hzs hsz b n n olds hlo (fun j u hu => by
      obtain ⟨b', off, e, hq⟩ := hc0 j u hu
      rw [Option.some.inj e, add_plain]
      exact hq) ⟨g, 0, none⟩ m c news hl hnews' (by omega) (by unfold maxLen; omega) hbytes
  | none =>
    have hn := hnone rfl
    subst hn
    obtain rfl : olds = [] := List.eq_nil_of_length_eq_zero (by simpa using hlo)
    obtain ⟨v', w', hrun, r1, r2, _⟩ := run_append_own (P := Try.prog) w w.heap.size T ty E i0 z size bytes ht hi hz0 hz1 hz2 hzs hsz (.slice none 0 0) 0 [] (World.ownsRow_nil w _ E size) ⟨g, 0, none⟩ m c news hl hnews' h1 (by unfold maxLen; omega) hbytes (Nat.le_refl _)
    exact ⟨v', w', hrun, r1, r2⟩
theorem step_append_full {T E : TypeId} {z : Value} {size bytes : Nat} (ht : Try.prog.underlying T = some (.slice E)) (hinf : (Try.prog.info? E).map (fun i => (i.zero, i.size, i.bytes)) = some (some z, size, bytes)) (hzs : z.cells.size = size) (hsz : 0 < size)
    {ops : Array Oper} {o : Oper} {a : Act} {w : World} {K : Act → World → Prop} {Q : Exit → Act → World → Prop} {Els : Prop}
    (hg : o.guard = none) (s x : Operand) (hop : o.op = Op.call { callee := Callee.builtin Builtin.append, args := #[s, x], argTypes := #[T, T] })
    (ao : Option Addr) (n : Nat) (olds : List Value) (hs : a.eval s = .slice ao n n) (hnone : ao = none → n = 0) (hlo : olds.length = n * size) (hc0 : ∀ j u, olds[j]? = some u → ∃ b off, ao = some ⟨b, off, none⟩ ∧ w.cell? ⟨b, off + j, none⟩ = some u)
    (g m c : Nat) (news : List Value) (hx : a.eval x = .slice (some ⟨g, 0, none⟩) m c) (hm : 0 < m) (hl : news.length = m * size) (hnews : ∀ j u, news[j]? = some u → w.cell? ⟨g, 0 + j, none⟩ = some u) (h1 : ∀ u ∈ news, u.oneCell' = true) (h63 : n + m ≤ 70368744177663) (hbytes : (n + m) * bytes ≤ 140737488355328)
    (hK : ∀ v' w', w'.ownsRow w.heap.size E size v' (n + m) (olds ++ news) → w.grownBy w' none → K (a.put o.dst v') w') :
    if Region.wanted o (yielded ops a.tmps) = true then Oper.wp Try.prog o a w K Q else Els := by
  have hw : Region.wanted o (yielded ops a.tmps) = true := by simp [Region.wanted, hg]
  rw [if_pos hw]
  obtain ⟨v', w', hrun, r1, r2⟩ := run_append_full ht hinf hzs hsz w o.type ao n olds hnone hlo hc0 g m c news hm hl hnews h1 h63 hbytes
  unfold Oper.wp
  simp [execOp, hop, resolve, invoke, builtin, hs, hx, hrun, Result.andThen]
  exact hK _ _ r1 r2
theorem grown_none {w w' : World} (h : w.grownBy w' none) : Below w.heap.size w w' := ⟨h.os, h.tape, h.output, h.size, fun k hk => h.block k hk (fun e => by cases e)⟩

end Go.Proofs.Ytpahhhocgpohbaa
