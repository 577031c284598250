import Derived.Test.YtaofpbmdloihgaaDoorPack21
import Derived.Test.YtaofpbmdloihgaaDoorSpecReadCase
namespace Go.Proofs.YtaofpbmdloihgaaDoor
open Go.RowKit

/-- What is read: a case. -/
def rdC (s : List UInt8) : CV := match readC s with | some c => c | none => cv0
def rdCB (s : List UInt8) : Bool := (readC s).isSome
theorem rdC_small (s : List UInt8) : (rdC s).zs.length ≤ 256 ∧ (rdC s).ko ≤ 12 ∧ (rdC s).kv ≤ 5 ∧ (rdC s).os.length = (rdC s).ko * 6 ∧ (rdC s).vs.length = (rdC s).kv * 5 := by
  unfold rdC
  cases h : readC s with
  | none => simp [cv0]
  | some c =>
    obtain ⟨h1, h2, -⟩ := readC_is h
    obtain ⟨n, f, zs, os, vs, ko, kv⟩ := c
    have hc : caseB n zs os vs ko kv f = true := h1
    obtain ⟨k1, k2, k3, -⟩ := caseB_four hc
    obtain ⟨m1, m2, m3, -⟩ := matB_true k1
    have e1 := (ordsB_true k2).1
    have e2 := (vehsB_true k3).1
    have m4 : n * n ≤ 16 * 16 := Int.mul_le_mul m2 m2 (by omega) (by omega)
    exact ⟨by simp only; omega, by simp only; omega, by simp only; omega, h2.1, h2.2⟩
theorem CO.nil0 (w : World) (base : Nat) : CO w base (.slice none 0 0) (.slice none 0 0) (.slice none 0 0) cv0 := ⟨⟨by simp [cv0], .inl ⟨rfl, rfl⟩⟩, ⟨by simp [cv0], .inl ⟨rfl, rfl⟩⟩, ⟨by simp [cv0], .inl ⟨rfl, rfl⟩⟩⟩
/-- What impl.ReadCase answers, found or not. -/
theorem implReadC_is {w w' : World} {s : List UInt8} {e : Ending} (h : ReadOkC w s e w') : ∃ za zc oa oc va vc, e = .returned (.tuple #[.agg #[.int .i64 (rdC s).n, .slice za (rdC s).zs.length zc, .slice oa (rdC s).ko oc, .slice va (rdC s).kv vc, .int .i64 (rdC s).f], .bool (rdCB s)]) ∧ Below w.heap.size w w' ∧ CO w' (w.heap.size + 3) (.slice za (rdC s).zs.length zc) (.slice oa (rdC s).ko oc) (.slice va (rdC s).kv vc) (rdC s) := by
  rcases h with ⟨c, zl, ol, vl, hr, rfl, hb, ho⟩ | ⟨hr, rfl, hb⟩
  · obtain ⟨za, zc, e1, -⟩ := own_sl ho.z
    obtain ⟨oa, oc, e2, -⟩ := own_sl ho.o
    obtain ⟨va, vc, e3, -⟩ := own_sl ho.v
    subst e1 e2 e3
    have e1 : rdC s = c := by unfold rdC; rw [hr]
    have e2 : rdCB s = true := by unfold rdCB; rw [hr]; rfl
    rw [e1, e2]
    exact ⟨za, zc, oa, oc, va, vc, rfl, hb, ho⟩
  · have e1 : rdC s = cv0 := by unfold rdC; rw [hr]
    have e2 : rdCB s = false := by unfold rdCB; rw [hr]; rfl
    rw [e1, e2]
    exact ⟨none, 0, none, 0, none, 0, rfl, hb, CO.nil0 _ _⟩
theorem specReadC_is {w w' : World} {s : List UInt8} {e : Ending} (h : SReadOkC w s e w') : ∃ za zc oa oc va vc, e = .returned (.tuple #[.agg #[.int .i64 (rdC s).n, .slice za (rdC s).zs.length zc, .slice oa (rdC s).ko oc, .slice va (rdC s).kv vc, .int .i64 (rdC s).f], .bool (rdCB s)]) ∧ Below w.heap.size w w' ∧ CO w' (w.heap.size + 1) (.slice za (rdC s).zs.length zc) (.slice oa (rdC s).ko oc) (.slice va (rdC s).kv vc) (rdC s) := by
  unfold SReadOkC at h
  rw [specC_is] at h
  rcases h with ⟨c, zl, ol, vl, hr, rfl, hb, hz, ho, hv⟩ | ⟨hr, rfl, hb⟩
  · obtain ⟨za, zc, e1, -⟩ := own_sl hz
    obtain ⟨oa, oc, e2, -⟩ := own_sl ho
    obtain ⟨va, vc, e3, -⟩ := own_sl hv
    subst e1 e2 e3
    have e1 : rdC s = c := by unfold rdC; rw [hr]
    have e2 : rdCB s = true := by unfold rdCB; rw [hr]; rfl
    rw [e1, e2]
    exact ⟨za, zc, oa, oc, va, vc, rfl, hb, ⟨hz, ho, hv⟩⟩
  · have e1 : rdC s = cv0 := by unfold rdC; rw [hr]
    have e2 : rdCB s = false := by unfold rdCB; rw [hr]; rfl
    rw [e1, e2]
    exact ⟨none, 0, none, 0, none, 0, rfl, hb, CO.nil0 _ _⟩

/-- A case of the call's own with its lengths as letters. -/
structure CK (w : World) (base : Nat) (za : Option Addr) (nz zc : Nat) (oa : Option Addr) (no oc : Nat) (va : Option Addr) (nv vc : Nat) (zs os vs : List Int) : Prop where
  z : w.ownsRow base 2 1 (.slice za nz zc) nz (zs.map (Value.int .i64))
  o : w.ownsRow base 45 6 (.slice oa no oc) no (os.map (Value.int .i64))
  v : w.ownsRow base 47 5 (.slice va nv vc) nv (vs.map (Value.int .i64))
theorem CK.below {w w' : World} {base nz zc no oc nv vc : Nat} {za oa va : Option Addr} {zs os vs : List Int} (h : CK w base za nz zc oa no oc va nv vc zs os vs) (hb : Below w.heap.size w w') : CK w' base za nz zc oa no oc va nv vc zs os vs := ⟨owns_below h.z hb, owns_below h.o hb, owns_below h.v hb⟩
theorem CK.tops {w : World} {base nz zc no oc nv vc : Nat} {za oa va : Option Addr} {zs os vs : List Int} (h : CK w base za nz zc oa no oc va nv vc zs os vs) : ∀ b, caseBl (.slice za nz zc) (.slice oa no oc) (.slice va nv vc) b → base ≤ b ∧ b < w.heap.size := fun b hb => by
  rcases hb with e | e | e
  · exact h.z.lt b e
  · exact h.o.lt b e
  · exact h.v.lt b e
/-- What is kept where only blocks of others are written. -/
theorem CK.but {S : Nat → Prop} {w w' : World} {base nz zc no oc nv vc : Nat} {za oa va : Option Addr} {zs os vs : List Int} (h : CK w base za nz zc oa no oc va nv vc zs os vs) (hg : GrownBut S w w') (hs : ∀ b, caseBl (.slice za nz zc) (.slice oa no oc) (.slice va nv vc) b → ¬ S b) : CK w' base za nz zc oa no oc va nv vc zs os vs := ⟨but_own hg h.z (fun b e => hs b (.inl e)), but_own hg h.o (fun b e => hs b (.inr (.inl e))), but_own hg h.v (fun b e => hs b (.inr (.inr e)))⟩

end Go.Proofs.YtaofpbmdloihgaaDoor
