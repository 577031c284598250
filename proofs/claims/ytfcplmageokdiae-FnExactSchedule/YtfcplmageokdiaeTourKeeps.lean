import Derived.Test.YtfcplmageokdiaeLoaded
import Derived.Test.YtfcplmageokdiaeDrive
import Derived.Test.YtfcplmageokdiaeWithin
namespace Go.Proofs.Ytfcplmageokdiae
open Go.RowKit

theorem keptAt_mk {n : Int} {zs ros starts : List Int} {home frm : Int} {k : Nat} {t f p o1 o3 o4 d : Int} (ht : starts.getD k 0 = t) (hf : freeK ros starts frm k = f) (hp : plc ros home k = p) (h1 : og6 ros k 1 = o1) (h3 : og6 ros k 3 = o3) (h4 : og6 ros k 4 = o4) (hd : tmI n zs p o1 = d) :
    keptAt n zs ros starts home frm k = inB t (max o3 (f + d)) o4 := by
  unfold keptAt
  rw [ht, hf, hp, h1, h3, h4, hd]

theorem max_if (x y : Int) : (if x < y then y else x) = max x y := by
  split <;> omega

theorem drive_is (n x y : Int) (v0 v1 v2 v3 v4 : Int) (a ar : Option Addr) (cap kr cr : Nat) (zs : List Int) (w : World) (d : Int) (hd : tmI n zs x y = d) (hm : matB n zs = true) (hx : 0 ≤ x ∧ x < n) (hy : 0 ≤ y ∧ y < n) (hA : IntsAt w a zs) :
    Calls Try.prog 64 #[.agg #[.int .i64 n, .slice a zs.length cap, .int .i64 v0, .int .i64 v1, .int .i64 v2, .int .i64 v3, .int .i64 v4, .slice ar kr cr], .int .i64 x, .int .i64 y] w fun e w' => e = .returned (.int .i64 d) ∧ Below w.heap.size w w' := hd ▸ drive_I n x y v0 v1 v2 v3 v4 a ar cap kr cr zs w hm hx hy hA
theorem within_is (n lo hi : Int) (w : World) (v : Bool) (hv : inB n lo hi = v) :
    Calls Try.prog 85 #[.int .i64 n, .int .i64 lo, .int .i64 hi] w fun e w' => e = .returned (.bool v) ∧ w' = w := hv ▸ within_any n lo hi w

set_option maxHeartbeats 1000000 in
theorem tourKeeps_any (n v0 home v2 frm to : Int) (a ar : Option Addr) (cap m cr : Nat) (zs ros : List Int) (bs : Option Addr) (cs : Nat) (starts : List Int) (w : World) (hm : matB n zs = true) (hA : IntsAt w a zs) (hR : IntsAt w ar ros) (hl : ros.length = m * 6) (hbd : RosBd n ros m) (hh : 0 ≤ home ∧ home < n) (hf : 0 ≤ frm ∧ frm ≤ 1000000) (hm12 : m ≤ 12) (hS : IntsAt w bs starts) (hsl : starts.length = m) :
    Calls Try.prog 68 #[.agg #[.int .i64 n, .slice a zs.length cap, .int .i64 v0, .int .i64 home, .int .i64 v2, .int .i64 frm, .int .i64 to, .slice ar m cr], .slice bs starts.length cs] w fun e w' => e = .returned (.bool (keptB n zs ros m starts home frm to)) ∧ Below w.heap.size w w' := by
  have HM : Hid (matB n zs = true) := hm
  have HA : Hid (IntsAt w a zs) := hA
  have HR : Hid (IntsAt w ar ros) := hR
  have HS : Hid (IntsAt w bs starts) := hS
  have HL : Hid (ros.length = m * 6) := hl
  have HSL : Hid (starts.length = m) := hsl
  have HBD : Hid (RosBd n ros m) := hbd
  have HH : Hid (0 ≤ home ∧ home < n) := hh
  have HF : Hid (0 ≤ frm ∧ frm ≤ 1000000) := hf
  clear hm hA hR hS hl hbd hh hf
  subst hsl
  obtain ⟨r, HV⟩ : ∃ r, Hid (keptB n zs ros starts.length starts home frm to = r) := ⟨_, rfl⟩
  rw [HV.out]
  have HB0 : Hid (Below w.heap.size w (w.alloc (Obj.cells #[Value.int IntKind.i64 n, Value.slice a zs.length cap, Value.int IntKind.i64 v0, Value.int IntKind.i64 home, Value.int IntKind.i64 v2, Value.int IntKind.i64 frm, Value.int IntKind.i64 to, Value.slice ar starts.length cr] 88))) := (Below.refl _ _).alloc (Nat.le_refl _) _
  have HP0 : Hid ((w.alloc (Obj.cells #[Value.int IntKind.i64 n, Value.slice a zs.length cap, Value.int IntKind.i64 v0, Value.int IntKind.i64 home, Value.int IntKind.i64 v2, Value.int IntKind.i64 frm, Value.int IntKind.i64 to, Value.slice ar starts.length cr] 88)).heap[w.heap.size]? = _) := heap_alloc_new _ _
  go_enter Try.func68, Try.ntmps68
  go_wp2_with fail
  generalize w.alloc (Obj.cells #[Value.int IntKind.i64 n, Value.slice a zs.length cap, Value.int IntKind.i64 v0, Value.int IntKind.i64 home, Value.int IntKind.i64 v2, Value.int IntKind.i64 frm, Value.int IntKind.i64 to, Value.slice ar starts.length cr] 88) = W0 at *
  obtain ⟨t0, t1, t2, t3, t4, t5, t6, t7⟩ := cells8 HP0.out
  have u3 := fun s : Kin W0 => s.cell t3
  have u5 := fun s : Kin W0 => s.cell t5
  have hkin := Kin.there W0
  refine wp_region_kin (by kernel_rfl) (by kernel_rfl) ?_
  repeat (go_big_quiet_step ((fail)))
  refine wpQuiet_nil ?_
  rintro _ ⟨s, rfl⟩
  have HB1 : Hid (Below w.heap.size w s.w) := HB0.out.trans (s.below.mono HB0.out.size)
  have HP1 : Hid (s.w.heap[w.heap.size]? = _) := below_row s.below (row_lt HP0.out) HP0.out
  clear t0 t1 t2 t3 t4 t5 t6 t7 u3 u5 HB0 HP0 hkin
  generalize s.w = W1 at *
  obtain ⟨t0, t1, t2, t3, t4, t5, t6, t7⟩ := cells8 HP1.out
  go_wp2_with fail
  clear t0 t1 t2 t3 t4 t5 t6 t7
  go_loopw [5, 6, 18] (fun pl fr t wr => ∃ k : Nat, k ≤ starts.length ∧ t = .int .i64 k ∧ pl = .int .i64 (plc ros home k) ∧ fr = .int .i64 (freeK ros starts frm k) ∧ keptTo n zs ros starts home frm k ∧ Below w.heap.size w wr ∧ wr.heap[w.heap.size]? = some (.cells #[Value.int IntKind.i64 n, Value.slice a zs.length cap, Value.int IntKind.i64 v0, Value.int IntKind.i64 home, Value.int IntKind.i64 v2, Value.int IntKind.i64 frm, Value.int IntKind.i64 to, Value.slice ar starts.length cr] 88 (0, 0))) (fun _ _ t _ => starts.length - (intOf t).toNat)
  case atStart => exact ⟨0, Nat.zero_le _, rfl, rfl, rfl, fun j hj => by omega, HB1.out, HP1.out⟩
  case round =>
    clear HB1 HP1
    obtain ⟨k, hk, rfl, rfl, rfl, hkt, hb, hp⟩ := hrel
    have hpl := plc_bd HBD.out HH.out.1 HH.out.2 k hk
    have hfr := freeK_bd HBD.out HF.out k hk hkt
    have HKT : Hid (keptTo n zs ros starts home frm k) := hkt
    have HB : Hid (Below w.heap.size w wr) := hb
    have HP : Hid (wr.heap[w.heap.size]? = _) := hp
    obtain ⟨t0, t1, t2, t3, t4, t5, t6, t7⟩ := cells8 hp
    obtain ⟨p, HPL⟩ : ∃ t, Hid (plc ros home k = t) := ⟨_, rfl⟩
    obtain ⟨f, HFR⟩ : ∃ t, Hid (freeK ros starts frm k = t) := ⟨_, rfl⟩
    rw [HPL.out] at hpl
    rw [HFR.out] at hfr
    rw [HPL.out, HFR.out]
    have HPB : Hid (0 ≤ p ∧ p < n) := hpl
    clear hkt hb hp hpl
    by_cases hlt : k < starts.length
    · obtain ⟨b, off, rfl, hcs⟩ := IntsAt.some (IntsAt.below HR.out HB.out) (j := k * 6) (by rw [HL.out]; omega)
      obtain ⟨r0, r1, r2, r3, r4, r5⟩ := row6_at hcs HL.out k hlt
      clear hcs
      obtain ⟨bb, boff, rfl, hcs⟩ := IntsAt.some (IntsAt.below HS.out HB.out) hlt
      have ct := hcs k hlt
      clear hcs
      obtain ⟨h1b, h2b, h3b, h4b, h5b⟩ := HBD.out k hlt
      have HO1 : Hid (0 ≤ og6 ros k 1 ∧ og6 ros k 1 < n) := h1b
      clear h1b h2b
      obtain ⟨o0, H0⟩ : ∃ t, Hid (og6 ros k 0 = t) := ⟨_, rfl⟩
      obtain ⟨o1, H1⟩ : ∃ t, Hid (og6 ros k 1 = t) := ⟨_, rfl⟩
      obtain ⟨o2, H2⟩ : ∃ t, Hid (og6 ros k 2 = t) := ⟨_, rfl⟩
      obtain ⟨o3, H3⟩ : ∃ t, Hid (og6 ros k 3 = t) := ⟨_, rfl⟩
      obtain ⟨o4, H4⟩ : ∃ t, Hid (og6 ros k 4 = t) := ⟨_, rfl⟩
      obtain ⟨o5, H5⟩ : ∃ t, Hid (og6 ros k 5 = t) := ⟨_, rfl⟩
      obtain ⟨st, HST⟩ : ∃ t, Hid (starts.getD k 0 = t) := ⟨_, rfl⟩
      rw [HST.out] at ct
      rw [H3.out] at h3b
      rw [H4.out] at h4b
      rw [H5.out] at h5b
      rw [H1.out] at HO1
      rw [H0.out] at r0
      rw [H1.out] at r1
      rw [H2.out] at r2
      rw [H3.out] at r3
      rw [H4.out] at r4
      rw [H5.out] at r5
      obtain ⟨d, HD⟩ : ∃ t, Hid (tmI n zs p o1 = t) := ⟨_, rfl⟩
      have hdb := tmI_bd HM.out p o1
      rw [HD.out] at hdb
      have HNX : Hid (freeK ros starts frm (k + 1) = st + o5) := by
        show _ = _
        rw [freeK_succ, HST.out, H5.out]
      have HKA : Hid (keptAt n zs ros starts home frm k = inB st (max o3 (f + d)) o4) := keptAt_mk HST.out HFR.out HPL.out H1.out H3.out H4.out HD.out
      have HBA : Hid (Below w.heap.size w (wr.alloc (Obj.cells #[Value.int IntKind.i64 o0, Value.int IntKind.i64 o1, Value.int IntKind.i64 o2, Value.int IntKind.i64 o3, Value.int IntKind.i64 o4, Value.int IntKind.i64 o5] 78))) := HB.out.alloc HB.out.size _
      have HPA : Hid ((wr.alloc (Obj.cells #[Value.int IntKind.i64 o0, Value.int IntKind.i64 o1, Value.int IntKind.i64 o2, Value.int IntKind.i64 o3, Value.int IntKind.i64 o4, Value.int IntKind.i64 o5] 78)).heap[w.heap.size]? = _) := (heap_alloc_old _ _ (row_lt HP.out)).trans HP.out
      have HRO : Hid ((wr.alloc (Obj.cells #[Value.int IntKind.i64 o0, Value.int IntKind.i64 o1, Value.int IntKind.i64 o2, Value.int IntKind.i64 o3, Value.int IntKind.i64 o4, Value.int IntKind.i64 o5] 78)).heap[wr.heap.size]? = _) := heap_alloc_new _ _
      have HCA : Hid ((wr.alloc (Obj.cells #[Value.int IntKind.i64 o0, Value.int IntKind.i64 o1, Value.int IntKind.i64 o2, Value.int IntKind.i64 o3, Value.int IntKind.i64 o4, Value.int IntKind.i64 o5] 78)).cell? ⟨bb, boff + k, none⟩ = _) := (((Below.refl wr.heap.size wr).alloc (Nat.le_refl _) _).cell (p := ⟨bb, boff + k, none⟩) (block_lt_of_cell ct)).trans ct
      go_wp2_with fail
      clear r0 r1 r2 r3 r4 r5 t0 t1 t2 t3 t4 t5 t6 t7 ct
      generalize wr.alloc (Obj.cells #[Value.int IntKind.i64 o0, Value.int IntKind.i64 o1, Value.int IntKind.i64 o2, Value.int IntKind.i64 o3, Value.int IntKind.i64 o4, Value.int IntKind.i64 o5] 78) = W at *
      generalize wr.heap.size = g at *
      obtain ⟨t0, t1, t2, t3, t4, t5, t6, t7⟩ := cells8 HPA.out
      obtain ⟨r0, r1, r2, r3, r4, r5⟩ := cells6 HRO.out
      have e0 := fun s : Kin W => s.cell t0
      have e1 := fun s : Kin W => s.cell t1
      have e2 := fun s : Kin W => s.cell t2
      have e3 := fun s : Kin W => s.cell t3
      have e4 := fun s : Kin W => s.cell t4
      have e5 := fun s : Kin W => s.cell t5
      have e6 := fun s : Kin W => s.cell t6
      have e7 := fun s : Kin W => s.cell t7
      have i1 := fun s : Kin W => s.cell r1
      have i3 := fun s : Kin W => s.cell r3
      have i4 := fun s : Kin W => s.cell r4
      have i5 := fun s : Kin W => s.cell r5
      have ic := fun s : Kin W => s.cell HCA.out
      have hkin := Kin.there W
      obtain ⟨bo, HBO⟩ : ∃ t, Hid (inB st (max o3 (f + d)) o4 = t) := ⟨_, rfl⟩
      refine wp_region_kin (by kernel_rfl) (by kernel_rfl) ?_
      repeat (go_big_quiet_step ((first
        | (go_at_call 64; exact Kin.call (drive_is n p o1 v0 home v2 frm to _ _ _ _ _ zs _ d HD.out HM.out HPB.out HO1.out ((HA.out.below HBA.out).below (Kin.below _))))
        | (go_at_call 85; exact Kin.call_same (within_is st _ o4 _ bo ((congrArg (fun x => inB st x o4) (max_if _ _)).trans HBO.out))))))
      refine wpQuiet_nil ?_
      rintro _ ⟨s, rfl⟩
      have HB2 : Hid (Below w.heap.size w s.w) := HBA.out.trans (s.below.mono HBA.out.size)
      have HP2 : Hid (s.w.heap[w.heap.size]? = _) := below_row s.below (row_lt HPA.out) HPA.out
      have HRO2 : Hid (s.w.heap[g]? = _) := below_row s.below (row_lt HRO.out) HRO.out
      have ct := s.cell HCA.out
      clear t0 t1 t2 t3 t4 t5 t6 t7 r0 r1 r2 r3 r4 r5 e0 e1 e2 e3 e4 e5 e6 e7 i1 i3 i4 i5 ic hkin HBA HPA HRO HCA
      generalize s.w = W2 at *
      generalize (if o3 < f + d then f + d else o3) = mx
      cases bo
      · have HN : Hid (r = false) := HV.out.symm.trans (keptB_bad hlt (HKA.out.trans HBO.out))
        go_wp2
        go_ret
        exact ⟨ret_bool HN.out.symm, HB2.out⟩
      · have HK1 : Hid (keptTo n zs ros starts home frm (k + 1)) := keptTo_step HKT.out (HKA.out.trans HBO.out)
        have hst : o3 ≤ st ∧ st ≤ o4 := by
          have := inB_true HBO.out
          omega
        obtain ⟨r0, r1, r2, r3, r4, r5⟩ := cells6 HRO2.out
        go_wp2_with fail
        have i1 := fun s : Kin W2 => s.cell r1
        have i5 := fun s : Kin W2 => s.cell r5
        have ic := fun s : Kin W2 => s.cell ct
        have hkin := Kin.there W2
        refine wp_region_kin (by kernel_rfl) (by kernel_rfl) ?_
        repeat (go_big_quiet_step ((fail)))
        refine wpQuiet_nil ?_
        rintro _ ⟨s2, rfl⟩
        have HB3 : Hid (Below w.heap.size w s2.w) := HB2.out.trans (s2.below.mono HB2.out.size)
        have HP3 : Hid (s2.w.heap[w.heap.size]? = _) := below_row s2.below (row_lt HP2.out) HP2.out
        clear r0 r1 r2 r3 r4 r5 i1 i5 ic hkin ct
        generalize s2.w = W3 at *
        go_wp2
        exact ⟨⟨k + 1, by omega, by go_num, by rw [← H1.out]; rfl, by rw [HNX.out], HK1.out, HB3.out, HP3.out⟩, by simp [intOf]; omega⟩
    · have hkl : k = starts.length := by omega
      have HE : Hid (r = decide (f + tmI n zs p home ≤ to)) := by
        have := keptB_end (to := to) (hkl ▸ HKT.out : keptTo n zs ros starts home frm starts.length)
        rw [← hkl, HFR.out, HPL.out, hkl, HV.out] at this
        exact this
      clear hkl
      obtain ⟨d, HD⟩ : ∃ t, Hid (tmI n zs p home = t) := ⟨_, rfl⟩
      have hdb := tmI_bd HM.out p home
      rw [HD.out] at hdb HE
      go_wp2_with fail
      have e0 := fun s : Kin wr => s.cell t0
      have e1 := fun s : Kin wr => s.cell t1
      have e2 := fun s : Kin wr => s.cell t2
      have e3 := fun s : Kin wr => s.cell t3
      have e4 := fun s : Kin wr => s.cell t4
      have e5 := fun s : Kin wr => s.cell t5
      have e6 := fun s : Kin wr => s.cell t6
      have e7 := fun s : Kin wr => s.cell t7
      have hkin := Kin.there wr
      refine wp_region_kin (by kernel_rfl) (by kernel_rfl) ?_
      repeat (go_big_quiet_step ((first
        | (go_at_call 64; exact Kin.call (drive_is n p home v0 home v2 frm to _ _ _ _ _ zs _ d HD.out HM.out HPB.out HH.out ((HA.out.below HB.out).below (Kin.below _)))))))
      refine wpQuiet_nil ?_
      rintro _ ⟨s, rfl⟩
      have HB2 : Hid (Below w.heap.size w s.w) := HB.out.trans (s.below.mono HB.out.size)
      clear e0 e1 e2 e3 e4 e5 e6 e7 hkin
      generalize s.w = W2 at *
      go_wp2
      go_ret
      exact ⟨ret_bool HE.out.symm, HB2.out⟩

end Go.Proofs.Ytfcplmageokdiae
