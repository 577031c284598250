import Derived.Test.YtaofpbmdloihgaaDoorPack5
import Derived.Test.YtaofpbmdloihgaaDoorSpecCaseText
import Derived.Test.YtaofpbmdloihgaaDoorReadIsC
namespace Go.Proofs.YtaofpbmdloihgaaDoor
open Go.RowKit

/-- What is written of a case. -/
def csTx (n f : Int) (zs os vs : List Int) (ko kv : Nat) : List UInt8 := if caseB n zs os vs ko kv f = true then caseL n f zs os vs ko kv else []
theorem csTx_is (n f : Int) (zs os vs : List Int) (ko kv : Nat) : (if caseB n zs os vs ko kv f = true then txt (caseL n f zs os vs ko kv) else txt []) = txt (csTx n f zs os vs ko kv) := by unfold csTx; split <;> rfl
theorem csTx_len (n f : Int) (zs os vs : List Int) (ko kv : Nat) : (csTx n f zs os vs ko kv).length ≤ 20000 := by
  unfold csTx
  split
  · rename_i h
    exact tx_len (c := ⟨n, f, zs, os, vs, ko, kv⟩) h
  · simp
theorem readC_nil : readC [] = none := by
  rw [← specC_is]
  unfold specC
  cases specFC [] <;> simp
theorem rdC_of (n f : Int) (zs os vs : List Int) (ko kv : Nat) (h1 : os.length = ko * 6) (h2 : vs.length = kv * 5) : rdCB (csTx n f zs os vs ko kv) = caseB n zs os vs ko kv f ∧ (caseB n zs os vs ko kv f = true → rdC (csTx n f zs os vs ko kv) = ⟨n, f, zs, os, vs, ko, kv⟩) := by
  unfold rdCB rdC csTx
  by_cases h : caseB n zs os vs ko kv f = true
  · rw [if_pos h]
    have hr : readC (caseL n f zs os vs ko kv) = some ⟨n, f, zs, os, vs, ko, kv⟩ := readC_of (c := ⟨n, f, zs, os, vs, ko, kv⟩) h ⟨h1, h2⟩
    rw [hr, h]
    exact ⟨rfl, fun _ => rfl⟩
  · rw [if_neg h, readC_nil]
    exact ⟨by simpa using h, fun h2 => absurd h2 h⟩
theorem rdC_back {s : List UInt8} (h : rdCB s = true) : csTx (rdC s).n (rdC s).f (rdC s).zs (rdC s).os (rdC s).vs (rdC s).ko (rdC s).kv = s := by
  unfold rdCB at h
  unfold rdC
  cases hr : readC s with
  | none => rw [hr] at h; cases h
  | some c =>
    obtain ⟨h1, _, h3⟩ := readC_is hr
    simp only
    unfold csTx
    have h1' : caseB c.n c.zs c.os c.vs c.ko c.kv c.f = true := h1
    rw [if_pos h1']
    exact h3.symm
theorem implTextCK {w : World} {base nz zc no oc nv vc : Nat} {za oa va : Option Addr} {zs os vs : List Int} (n f : Int) (h : CK w base za nz zc oa no oc va nv vc zs os vs) (hz : zs.length = nz) (ho : os.length = no * 6) (hv : vs.length = nv * 5) (bo : no ≤ 1000) (bv : nv ≤ 1000) (hT : PW w) :
    Calls Tryd.prog 6 #[.agg #[.int .i64 n, .slice za nz zc, .slice oa no oc, .slice va nv vc, .int .i64 f]] w fun e w' => e = .returned (.string (txt (csTx n f zs os vs no nv))) ∧ Below w.heap.size w w' := by
  subst hz
  have := implCaseText_cap n f za oa va zc no oc nv vc zs os vs w (own_intsC h.z) (own_intsC h.o) (own_intsC h.v) ho hv (by omega) (by omega) (own_capC h.z).1 hT
  rw [csTx_is] at this
  exact this
/-- What the readers answer, at any text. -/
theorem implReadCK (s : List UInt8) (W : World) (hs : s.length ≤ 1000000) : Calls Tryd.prog 7 #[.string (txt s)] W fun e w' => ∃ za zc oa oc va vc, e = .returned (.tuple #[.agg #[.int .i64 (rdC s).n, .slice za (rdC s).zs.length zc, .slice oa (rdC s).ko oc, .slice va (rdC s).kv vc, .int .i64 (rdC s).f], .bool (rdCB s)]) ∧ Below W.heap.size W w' ∧ CK w' (W.heap.size + 3) za (rdC s).zs.length zc oa (rdC s).ko oc va (rdC s).kv vc (rdC s).zs (rdC s).os (rdC s).vs := (implReadCase_any s W (by omega)).mono fun e w' h => by
  obtain ⟨za, zc, oa, oc, va, vc, h1, h2, h3⟩ := implReadC_is h
  exact ⟨za, zc, oa, oc, va, vc, h1, h2, ⟨h3.z, h3.o, h3.v⟩⟩
theorem specReadCK (s : List UInt8) (W : World) (hs : s.length ≤ 1000000) : Calls Tryd.prog 11 #[.string (txt s)] W fun e w' => ∃ n nz za zc no oa oc nv va vc f, e = .returned (.tuple #[.agg #[.int .i64 n, .slice za nz zc, .slice oa no oc, .slice va nv vc, .int .i64 f], .bool (rdCB s)]) ∧ Below W.heap.size W w' := (specReadCase_any s W (by omega)).mono fun e w' h => by
  obtain ⟨za, zc, oa, oc, va, vc, h1, h2, h3⟩ := specReadC_is h
  exact ⟨_, _, za, zc, _, oa, oc, _, va, vc, _, h1, h2⟩

end Go.Proofs.YtaofpbmdloihgaaDoor
