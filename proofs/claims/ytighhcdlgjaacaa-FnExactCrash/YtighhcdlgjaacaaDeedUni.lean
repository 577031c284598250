import Derived.Test.YtighhcdlgjaacaaPack14
import Derived.Test.YtighhcdlgjaacaaPack15
namespace Go.Proofs.Ytighhcdlgjaacaa
open Go.RowKit

theorem entAF (args : Array Value) (W : World) : (callFunc 104 args).run Try.prog W = .ok (.enter 104 args) W := by kernel_rfl
theorem entAM (args : Array Value) (W : World) : (callFunc 105 args).run Try.prog W = .ok (.enter 105 args) W := by kernel_rfl
theorem entNF (args : Array Value) (W : World) : (callFunc 120 args).run Try.prog W = .ok (.enter 120 args) W := by kernel_rfl
theorem entNM (args : Array Value) (W : World) : (callFunc 121 args).run Try.prog W = .ok (.enter 121 args) W := by kernel_rfl
theorem entRF (args : Array Value) (W : World) : (callFunc 123 args).run Try.prog W = .ok (.enter 123 args) W := by kernel_rfl
theorem entRM (args : Array Value) (W : World) : (callFunc 124 args).run Try.prog W = .ok (.enter 124 args) W := by kernel_rfl
/-- An op of its form, whatever its kind: what it finds, what it makes. -/
theorem deed_uni (o : OP) (hf : frmB o = true) (z3 : o.d.size ≤ 1048576) : ∃ (T : TypeId) (dv : Value) (fF fM : Nat), deedV o = .iface T dv ∧
    (∀ (q : Nat) (W : World), (method (q + 1) T dv "loop.example/g00265/impl.finds").run Try.prog W = .ok (fF, dv) W) ∧
    (∀ (q : Nat) (W : World), (method (q + 1) T dv "loop.example/g00265/impl.makeOn").run Try.prog W = .ok (fM, dv) W) ∧
    (∀ (args : Array Value) (W : World), (callFunc fF args).run Try.prog W = .ok (.enter fF args) W) ∧
    (∀ (args : Array Value) (W : World), (callFunc fM args).run Try.prog W = .ok (.enter fM args) W) ∧
    (∀ (s base : Nat) (fv : Value) (S : List GR) (w : World), SH w base s fv S → S.length ≤ 500 → RisG S → Calls Try.prog fF #[dv, .pointer (some ⟨s, 0, none⟩)] w fun e w' => e = .returned (.bool (okF (keysG S) o)) ∧ Below w.heap.size w w') ∧
    (∀ (s base N : Nat) (fv : Value) (S : List GR) (w : World), SH w base s fv S → base ≤ w.heap.size → S.length ≤ 500 → RisG S → (∀ g ∈ S, g.ps.length ≤ N) → N ≤ 1000000 → totL (keysG S) ≤ 1000000000 → okF (keysG S) o = true → Calls Try.prog fM #[dv, .pointer (some ⟨s, 0, none⟩)] w fun e w' => e = .returned (.tuple #[]) ∧ MadeOn w w' base s (doF (keysG S) o) (N + 1)) := by
  obtain ⟨-, hk3, -⟩ := frm_names hf
  obtain ⟨k, n, t, d⟩ := o
  simp only at hk3 z3
  rcases hk3 with hk | hk | hk
  · subst hk
    refine ⟨_, .agg #[.string n, .string d], _, _, rfl, fun q W => methAF q _ W, fun q W => methAM q _ W, entAF, entAM, fun s base fv S w _ _ _ => ?_, fun s base N fv S w h hb hn hr hl hN ht hok => ?_⟩
    · exact appFinds_any n d s w
    · exact appMake_any n d s base N fv S w h hb (by omega) hr hl hN ht (by omega)
  · subst hk
    refine ⟨_, .agg #[.string n, .string t], _, _, rfl, fun q W => methNF q _ W, fun q W => methNM q _ W, entNF, entNM, fun s base fv S w h hn hr => ?_, fun s base N fv S w h hb hn hr hl hN ht hok => ?_⟩
    · exact renFinds_any n t s base fv S w h (by omega) hr
    · have e : doF (keysG S) ⟨2, n, t, d⟩ = putF (cutF (keysG S) n) t (datF (keysG S) n) := by
        have hh : hasF (keysG S) n = true := by unfold okF at hok; simpa using hok
        unfold doF
        simp only
        rw [if_neg (by omega), hh, if_pos rfl, if_pos trivial]
      rw [e]
      exact renMake_any n t s base N fv S w h hb (by omega) hr hl
  · subst hk
    refine ⟨_, .agg #[.string n], _, _, rfl, fun q W => methRF q _ W, fun q W => methRM q _ W, entRF, entRM, fun s base fv S w h hn hr => ?_, fun s base N fv S w h hb hn hr hl hN ht hok => ?_⟩
    · exact remFinds_any n s base fv S w h (by omega) hr
    · have e : doF (keysG S) ⟨3, n, t, d⟩ = cutF (keysG S) n := by
        have hh : hasF (keysG S) n = true := by unfold okF at hok; simpa using hok
        unfold doF
        simp only
        rw [if_neg (by omega), hh, if_pos rfl, if_neg (by omega)]
      rw [e]
      exact remMake_any n s base N fv S w h hb (by omega) hr hl

set_option maxHeartbeats 1000000 in
theorem clipOps_any (oa : Option Addr) (on oc : Nat) (w : World) (hc : on ≤ oc) (h0 : oa = none → on = 0 ∧ oc = 0) :
    Calls Try.prog 70 #[.slice oa on oc] w fun e w' => e = .returned (.slice oa on on) ∧ w' = w := by
  have hci : (on : Int) ≤ oc := by omega
  have hcn : ¬ ((oc : Int) < on) := by omega
  have h00 : (0 : Int) ≤ on := by omega
  cases oa with
  | none =>
    obtain ⟨rfl, rfl⟩ := h0 rfl
    go_enter Try.func70, Try.ntmps70
    go_wp2
    go_ret
    exact ⟨rfl, rfl⟩
  | some A =>
    clear h0
    obtain ⟨b, off, spot⟩ := A
    go_enter Try.func70, Try.ntmps70
    go_wp2
    go_ret
    exact ⟨by simp, rfl⟩

end Go.Proofs.Ytighhcdlgjaacaa
