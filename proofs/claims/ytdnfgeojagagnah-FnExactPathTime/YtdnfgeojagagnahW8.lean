import Derived.Test.YtdnfgeojagagnahW7
import Derived.Deep.RegionWith
namespace Go.Proofs.Ytdnfgeojagagnah
open Go.RowKit

/-- The times of the first k places of a path. -/
def pathTo (n : Nat) (zs ps : List Int) : Nat → Int
  | 0 => 0
  | k + 1 => pathTo n zs ps k + if k = 0 then 0 else zs.getD ((ps.getD (k - 1) 0).toNat * n + (ps.getD k 0).toNat) 0
def placesTo (n : Int) (ps : List Int) (k : Nat) : Prop := ∀ j, j < k → inB (ps.getD j 0) 0 (n - 1) = true
/-- What PathTime answers. -/
def pathV (n : Int) (zs ps : List Int) : Int :=
  if matB n zs = true ∧ ps.length ≤ 100 ∧ (∀ j, j < ps.length → inB (ps.getD j 0) 0 (n - 1) = true) then pathTo n.toNat zs ps ps.length else -1
theorem pathV_no {n : Int} {zs ps : List Int} (h : ¬ (matB n zs = true ∧ ps.length ≤ 100 ∧ (∀ j, j < ps.length → inB (ps.getD j 0) 0 (n - 1) = true))) : pathV n zs ps = -1 := by
  unfold pathV; rw [if_neg h]
theorem pathV_yes {n : Nat} {zs ps : List Int} (h1 : matB n zs = true) (h2 : ps.length ≤ 100) (h3 : placesTo n ps ps.length) : pathV n zs ps = pathTo n zs ps ps.length := by
  unfold pathV; rw [if_pos ⟨h1, h2, h3⟩]; simp

theorem mat_cell_bd {n : Nat} {zs : List Int} (hm : matB n zs = true) (x y : Nat) (hx : x < n) (hy : y < n) : 0 ≤ zs.getD (x * n + y) 0 ∧ zs.getD (x * n + y) 0 ≤ 10000 := by
  obtain ⟨h1, h2, hl, h⟩ := matB_true hm
  have hl' : zs.length = n * n := by rw [← Int.natCast_mul] at hl; omega
  have hxy : x * n + y < n * n := by
    have := Nat.mul_le_mul_right n (show x + 1 ≤ n by omega)
    rw [Nat.add_mul] at this
    omega
  have := h (x * n + y) (by omega)
  exact ⟨this.1, this.2.1⟩
theorem place_nat {n : Nat} {p : Int} (h : inB p 0 (n - 1) = true) : p = (p.toNat : Int) ∧ p.toNat < n := by
  have := inB_true h
  omega
theorem pathTo_bd {n : Nat} {zs ps : List Int} (hm : matB n zs = true) : ∀ k, placesTo n ps k → 0 ≤ pathTo n zs ps k ∧ pathTo n zs ps k ≤ 10000 * k
  | 0, _ => by simp [pathTo]
  | k + 1, h => by
    have ih := pathTo_bd (n := n) (zs := zs) (ps := ps) hm k (fun j hj => h j (by omega))
    unfold pathTo
    by_cases hk : k = 0
    · rw [if_pos hk]; omega
    · rw [if_neg hk]
      have p1 := place_nat (h (k - 1) (by omega))
      have p2 := place_nat (h k (by omega))
      have := mat_cell_bd hm _ _ p1.2 p2.2
      omega

set_option maxHeartbeats 1000000 in
theorem specPath_no (n : Int) (a b : Option Addr) (cap c2 len : Nat) (zs : List Int) (w : World) (hA : IntsAt w a zs) (h : ¬ (matB n zs = true ∧ len ≤ 100)) (hlen : len ≤ 9223372036854775807) :
    Calls Try.prog 13 #[.agg #[.int .i64 n, .slice a zs.length cap], .slice b len c2] w fun e w' => e = .returned (.int .i64 (-1)) ∧ Below w.heap.size w w' := by
  have HA0 : Hid (IntsAt (w.alloc (Obj.cells #[Value.int IntKind.i64 n, Value.slice a zs.length cap] 27)) a zs) := hA.below ((Below.refl _ _).alloc (Nat.le_refl _) _)
  clear hA
  cases hm : matB n zs
  · have HM : Hid _ := hm
    clear hm h
    go_enter Try.func13, Try.ntmps13
    go_wp2_with fail
    refine (specMat_any n a cap zs _ HA0.out).mono ?_
    rintro e w1 ⟨rfl, hb⟩
    rw [HM.out]
    obtain ⟨b1, r1, c0, c1⟩ := box2 hb
    clear hb r1
    go_wp2
    go_ret
    exact ⟨rfl, b1⟩
  · have HM : Hid _ := hm
    have hgt : 100 < len := Nat.lt_of_not_le fun k => h ⟨hm, k⟩
    clear hm h
    go_enter Try.func13, Try.ntmps13
    go_wp2_with fail
    refine (specMat_any n a cap zs _ HA0.out).mono ?_
    rintro e w1 ⟨rfl, hb⟩
    rw [HM.out]
    obtain ⟨b1, r1, c0, c1⟩ := box2 hb
    clear hb r1
    go_wp2
    go_ret
    exact ⟨rfl, b1⟩

set_option maxHeartbeats 1000000 in
theorem specPath_loop (n : Nat) (a b : Option Addr) (cap c2 : Nat) (zs ps : List Int) (w : World) (hA : IntsAt w a zs) (hB : IntsAt w b ps) (hm : matB n zs = true) (hlen : ps.length ≤ 100) :
    Calls Try.prog 13 #[.agg #[.int .i64 n, .slice a zs.length cap], .slice b ps.length c2] w fun e w' => e = .returned (.int .i64 (pathV n zs ps)) ∧ Below w.heap.size w w' := by
  have HA0 : Hid (IntsAt (w.alloc (Obj.cells #[Value.int IntKind.i64 n, Value.slice a zs.length cap] 27)) a zs) := hA.below ((Below.refl _ _).alloc (Nat.le_refl _) _)
  have HA : Hid (IntsAt w a zs) := hA
  have HB : Hid (IntsAt w b ps) := hB
  obtain ⟨hn1, hn2, hl, _⟩ := matB_true hm
  have HL : Hid (zs.length = n * n) := by
    rw [← Int.natCast_mul] at hl
    show _ = _
    omega
  have HM : Hid _ := hm
  clear hA hB hm hl
  go_enter Try.func13, Try.ntmps13
  go_wp2_with fail
  refine (specMat_any n a cap zs _ HA0.out).mono ?_
  rintro e w1 ⟨rfl, hb⟩
  rw [HM.out]
  obtain ⟨b1, r1, c0, c1⟩ := box2 hb
  have BW : Hid _ := b1
  have RW : Hid _ := r1
  clear hb r1 b1
  go_wp2_with fail
  clear c0 c1
  go_loopw [5, 6] (fun sm t wr => ∃ k : Nat, k ≤ ps.length ∧ t = .int .i64 k ∧ sm = .int .i64 (pathTo n zs ps k) ∧ placesTo n ps k ∧ Below w.heap.size w wr ∧ wr.heap[w.heap.size]? = some (.cells #[.int .i64 n, .slice a zs.length cap] 27 (0, 0))) (fun _ t _ => ps.length - (intOf t).toNat)
  case atStart => exact ⟨0, Nat.zero_le _, rfl, rfl, fun j hj => by omega, BW.out, RW.out⟩
  case round =>
    clear BW RW
    obtain ⟨k, hk, rfl, rfl, hpl, hb, g3⟩ := hrel
    have c0 := cell_of_row _ _ 0 _ _ _ g3
    have c1 := cell_of_row _ _ 1 _ _ _ g3
    simp at c0 c1
    have hbd := pathTo_bd (zs := zs) HM.out k hpl
    have HP : Hid (placesTo n ps k) := hpl
    have G3 : Hid _ := g3
    have HBl : Hid _ := hb
    clear hpl
    by_cases hlt : k < ps.length
    · obtain ⟨b2, o2, rfl, hcs⟩ := IntsAt.some (IntsAt.below HB.out hb) hlt
      have ct := hcs k hlt
      have HCS : Hid _ := hcs
      clear hcs g3 hb
      obtain ⟨p, HPk⟩ : ∃ p, Hid (ps.getD k 0 = p) := ⟨_, rfl⟩
      rw [HPk.out] at ct
      cases hin : inB p 0 ((n : Int) - 1)
      · have HV : Hid (pathV n zs ps = -1) := pathV_no (by
          rintro ⟨_, _, h3⟩
          have := h3 k hlt
          rw [HPk.out, hin] at this
          cases this)
        obtain ⟨s0, HS0⟩ : ∃ s0, Hid (pathTo n zs ps k = s0) := ⟨_, rfl⟩
        rw [HS0.out] at hbd ⊢
        go_wp2
        go_quiet ((go_at_call 18; exact Calls.quiet_of_same (l1In_any _ _ _ _)))
        go_wp2
        go_ret
        exact ⟨ret_int HV.out.symm, below_drewN HBl.out _⟩
      · have HP1 : Hid (placesTo n ps (k + 1)) := by
          intro j hj
          by_cases e : j = k
          · rw [e, HPk.out]; exact hin
          · exact HP.out j (by omega)
        have hp := inB_true hin
        obtain ⟨p, rfl⟩ := Int.eq_ofNat_of_zero_le hp.1
        obtain ⟨s0, HS0⟩ : ∃ s0, Hid (pathTo n zs ps k = s0) := ⟨_, rfl⟩
        rw [HS0.out] at hbd ⊢
        by_cases hk0 : k = 0
        · have HS1 : Hid (pathTo n zs ps (k + 1) = s0) := by
            show _ = _
            unfold pathTo
            rw [if_pos hk0, HS0.out, Int.add_zero]
          have hk1 : k ≤ 0 := by omega
          clear hk0
          go_wp2
          go_quiet ((go_at_call 18; exact Calls.quiet_of_same (l1In_any _ _ _ _)))
          go_wp2
          refine ⟨⟨k + 1, by omega, by go_num, by rw [HS1.out], HP1.out, below_drewN HBl.out _, G3.out⟩, by simp [intOf]; omega⟩
        · have hk1 : 0 < k := by omega
          have ctm := HCS.out (k - 1) (by omega)
          obtain ⟨q, HQ⟩ : ∃ q, Hid (ps.getD (k - 1) 0 = q) := ⟨_, rfl⟩
          rw [HQ.out] at ctm
          have hq := inB_true (HQ.out ▸ HP.out (k - 1) (by omega))
          obtain ⟨q, rfl⟩ := Int.eq_ofNat_of_zero_le hq.1
          have htb := mat_cell_bd HM.out q p (by omega) (by omega)
          obtain ⟨t, HTT⟩ : ∃ t, Hid (zs.getD (q * n + p) 0 = t) := ⟨_, rfl⟩
          rw [HTT.out] at htb
          have HS1 : Hid (pathTo n zs ps (k + 1) = s0 + t) := by
            show _ = _
            unfold pathTo
            rw [if_neg (by omega), HS0.out, HQ.out, HPk.out, Int.toNat_natCast, Int.toNat_natCast, HTT.out]
          clear hk0
          go_wp2
          go_quiet ((go_at_call 18; exact Calls.quiet_of_same (l1In_any _ _ _ _)))
          go_wp2
          have hkm : k - 1 < ps.length := by omega
          have hw1 : IntKind.i64.wrap ((k : Int) - 1) = ((k - 1 : Nat) : Int) := by
            rw [IntKind.wrap_i64]; omega
          have hw2 : wrap64 ((k : Int) - 1) = ((k - 1 : Nat) : Int) := by
            unfold wrap64; omega
          go_region_with (go_at_call 20; refine (l1Time_any n q p a zs.length cap zs _ (by omega) (by omega) (by omega) HL.out HL.out (by exact HA.out.below (below_drewN HBl.out _).drew)).mono ?_; rintro e w2 ⟨rfl, hb2⟩; rw [HTT.out])
          all_goals
            go_wp2
            obtain ⟨B2, R2, _, _⟩ := box2_more hb2 (below_drewN HBl.out _).drew G3.out
            refine ⟨⟨k + 1, by omega, by go_num, by rw [HS1.out], HP1.out, B2, R2⟩, by simp [intOf]; omega⟩
    · have hkl : k = ps.length := by omega
      have HV : Hid (pathV n zs ps = pathTo n zs ps k) := by
        show _ = _
        rw [hkl]
        exact pathV_yes HM.out hlen (hkl ▸ HP.out)
      obtain ⟨s0, HS0⟩ : ∃ s0, Hid (pathTo n zs ps k = s0) := ⟨_, rfl⟩
      rw [HS0.out] at hbd ⊢
      clear hkl g3
      go_wp2
      go_ret
      exact ⟨ret_int (HV.out.trans HS0.out).symm, HBl.out⟩

theorem specPath_any (n : Int) (a b : Option Addr) (cap c2 : Nat) (zs ps : List Int) (w : World) (hA : IntsAt w a zs) (hB : IntsAt w b ps) (hlen : ps.length ≤ 9223372036854775807) :
    Calls Try.prog 13 #[.agg #[.int .i64 n, .slice a zs.length cap], .slice b ps.length c2] w fun e w' => e = .returned (.int .i64 (pathV n zs ps)) ∧ Below w.heap.size w w' := by
  by_cases h : matB n zs = true ∧ ps.length ≤ 100
  · obtain ⟨m, rfl⟩ := Int.eq_ofNat_of_zero_le (show 0 ≤ n by have := (matB_true h.1).1; omega)
    exact specPath_loop m a b cap c2 zs ps w hA hB h.1 h.2
  · rw [pathV_no fun k => h ⟨k.1, k.2.1⟩]
    exact specPath_no n a b cap c2 _ zs w hA h hlen

end Go.Proofs.Ytdnfgeojagagnah
