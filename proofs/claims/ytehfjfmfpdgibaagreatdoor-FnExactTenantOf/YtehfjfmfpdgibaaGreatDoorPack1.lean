import Derived.Test.YtehfjfmfpdgibaaGreatDoorPack0
import Derived.Test.YtehfjfmfpdgibaaGreatDoorRows
import Derived.WalkKit
import Derived.WalkSpells
import Derived.WalkLawsBesides
import Derived.Deep.QuietTactic
import Derived.BigQuiet
import Derived.Deep.RegionWith
import Derived.Deep.RegionHeld3
import Derived.Deep.WholeRow
namespace Go.Proofs.YtehfjfmfpdgibaaGreatDoor
end Go.Proofs.YtehfjfmfpdgibaaGreatDoor

namespace Go.Proofs.YtehfjfmfpdgibaaGreatDoor
open Go.RowKit
theorem cells2 {w : World} {k : Nat} {c0 c1 : Value} {T : TypeId} (r : w.heap[k]? = some (.cells #[c0, c1] T (0, 0))) :
 w.cell? ⟨k, 0, none⟩ = some c0 /\ w.cell? ⟨k, 1, none⟩ = some c1 := by
 refine ⟨?_, ?_⟩
 · rw [cell_of_row _ _ 0 _ _ _ r]; simp
 · rw [cell_of_row _ _ 1 _ _ _ r]; simp
def Kin (wr : World) : Type := { x : World // Below wr.heap.size wr x }
def Kin.w {wr : World} (s : Kin wr) : World := s.1
theorem Kin.there (wr : World) : Nonempty (Kin wr) := ⟨⟨wr, Below.refl _ _⟩⟩
theorem Kin.below {wr : World} (s : Kin wr) : Below wr.heap.size wr s.w := s.2
theorem Kin.cell {wr : World} (s : Kin wr) {b o : Nat} {v : Value} (h : wr.cell? ⟨b, o, none⟩ = some v) : s.w.cell? ⟨b, o, none⟩ = some v := by
 rw [s.below.cell (p := ⟨b, o, none⟩) (block_lt_of_cell h)]; exact h
theorem wp_region_kin {P : Program} {id : Nat} {Q : Exit -> Act -> World -> Prop} {a : Act} {w : World} {l : List Oper} (hm : P.follows .mixedOrders = true) (hB : Region.lexB .any l.toArray = true)
 (h : wpQuiet P l.toArray (fun w' => ∃ s : Kin w, w' = s.w) (fun a' => ∀ w', (∃ s : Kin w, w' = s.w) -> Q .normal a' w') l a) : (Code.region id l.toArray true).wp P Q a w :=
 wp_region_quiet (C := fun w' => ∃ s : Kin w, w' = s.w) hm hB ⟨⟨_, (Below.refl _ _).drew⟩, rfl⟩ (by simpa using h)
theorem Kin.call {P : Program} {f : FuncId} {args : Array Value} {wr : World} {s : Kin wr} {v : Value}
 (h : Calls P f args s.w fun e w' => e = .returned v /\ Below s.w.heap.size s.w w') : Calls P f args s.w fun e w'' => e = .returned v /\ ∃ s' : Kin wr, w'' = s'.w :=
 h.mono fun _ w' ⟨he, hb⟩ => ⟨he, ⟨w', s.below.trans (hb.mono s.below.size)⟩, rfl⟩
theorem Kin.call_same {P : Program} {f : FuncId} {args : Array Value} {wr : World} {s : Kin wr} {v : Value}
 (h : Calls P f args s.w fun e w' => e = .returned v /\ w' = s.w) : Calls P f args s.w fun e w'' => e = .returned v /\ ∃ s' : Kin wr, w'' = s'.w :=
 h.mono fun _ _ ⟨he, hb⟩ => ⟨he, s, hb⟩
theorem Tryz.info2 : (Tryz.prog.info? 2).map (fun i => (i.zero, i.size, i.bytes)) = some (some (.int .i64 0), 1, 8) := by kernel_rfl
theorem make_ints (W : World) (len : Nat) (hlen : len <= 1048576) :
 (Instr.makeSlice 44 (.int .i64 len) (.int .i64 len)).run Tryz.prog W = .ok (.slice (some ⟨W.heap.size, 0, none⟩) len len) (W.alloc (.cells (cellsOf (List.replicate len 0)) 2)) := by
 have h := Tryz.info2
 cases hq : Tryz.prog.info? 2 with
 | none => simp [hq] at h
 | some i =>
   simp [hq] at h
   obtain ⟨hz, hs, hb⟩ := h
   have := run_make (P := Tryz.prog) W 44 2 i (.int .i64 0) Tryz.underlying44 hq hz .i64 .i64 len len (by omega) (by omega) (by rw [hb]; omega) (by omega)
   rw [this, hs]
   simp only [Int.toNat_natCast, made_zero]
theorem hdn {p : Prop} (h : p) : Hid p := h
set_option maxHeartbeats 400000 in
theorem eqInts_any (a b : Option Addr) (c1 c2 : Nat) (xs ys : List Int) (w : World) (hA : IntsAt w a xs) (hB : IntsAt w b ys) (hl1 : xs.length <= 1125899906842624) :
 Calls Tryz.prog 52 #[.slice a xs.length c1, .slice b ys.length c2] w fun e w' => e = .returned (.bool (decide (xs = ys))) /\ Below w.heap.size w w' := by
 by_cases hl : xs.length = ys.length
 · have HA : Hid (IntsAt w a xs) := hA
   have HB : Hid (IntsAt w b ys) := hB
   have HL : Hid (xs.length = ys.length) := hl
   rw [hl] at hl1 ⊢
   clear hA hB hl
   go_enter Tryz.func52, Tryz.ntmps52
   go_wp2_with fail
   go_loopw [5] (fun t wr => ∃ k : Nat, k <= ys.length /\ t = .int .i64 k /\ Below w.heap.size w wr /\ xs.take k = ys.take k) (fun t _ => ys.length - (intOf t).toNat)
   case atStart => exact ⟨0, Nat.zero_le _, rfl, Below.refl _ _, by simp⟩
   case round =>
    obtain ⟨k, hk, rfl, hb, he⟩ := hrel
    have HE : Hid (xs.take k = ys.take k) := he
    clear he
    by_cases hlt : k < ys.length
    · have hxk : k < xs.length := by rw [HL.out]; exact hlt
      obtain ⟨b1, o1, rfl, hc1⟩ := IntsAt.some (IntsAt.below HA.out hb) hxk
      obtain ⟨b2, o2, rfl, hc2⟩ := IntsAt.some (IntsAt.below HB.out hb) hlt
      have ct1 := hc1 k hxk
      have ct2 := hc2 k hlt
      clear hc1 hc2
      generalize ht1 : xs.getD k 0 = t1 at ct1
      generalize ht2 : ys.getD k 0 = t2 at ct2
      have H1 : Hid (xs.getD k 0 = t1) := ht1
      have H2 : Hid (ys.getD k 0 = t2) := ht2
      clear ht1 ht2
      by_cases ht : t1 = t2
      · have htb : (t1 != t2) = false := by simp [ht]
        have HT : Hid (t1 = t2) := ht
        clear ht
        go_wp2
        go_quiet (fail)
        go_wp2
        refine ⟨⟨k + 1, by omega, by go_num, below_drewN hb _, ?_⟩, by simp [intOf]; omega⟩
        rw [take_snoc xs k hxk, take_snoc ys k hlt, HE.out, H1.out, H2.out, HT.out]
      · have htb : (t1 != t2) = true := by simp [ht]
        have HN : Hid (decide (xs = ys) = false) := by
         apply decide_eq_false
         intro e
         exact ht (by rw [<- H1.out, <- H2.out, e])
        clear ht
        go_wp2
        go_quiet (fail)
        go_wp2
        go_ret
        exact ⟨ret_bool HN.out.symm, below_drewN hb _⟩
    · have HN : Hid (decide (xs = ys) = true) := by
       apply decide_eq_true
       have h := HE.out
       rwa [List.take_of_length_le (by rw [HL.out]; omega), List.take_of_length_le (by omega)] at h
      go_wp2
      go_ret
      exact ⟨ret_bool HN.out.symm, hb⟩
 · have HN : Hid (decide (xs = ys) = false) := decide_eq_false fun e => hl (by rw [e])
   have hne : ((xs.length : Int) != (ys.length : Int)) = true := by rw [bne_iff_ne]; omega
   clear hA hB hl
   go_enter Tryz.func52, Tryz.ntmps52
   go_wp2
   go_ret
   exact ⟨ret_bool HN.out.symm, Below.refl _ _⟩
set_option maxHeartbeats 400000 in
theorem eqMat_same (n : Int) (a b : Option Addr) (c1 c2 : Nat) (xs : List Int) (w : World) (hA : IntsAt w a xs) (hB : IntsAt w b xs) (hl1 : xs.length <= 1125899906842624) :
 Calls Tryz.prog 168 #[.agg #[.int .i64 n, .slice a xs.length c1], .agg #[.int .i64 n, .slice b xs.length c2]] w fun e w' => e = .returned (.bool true) /\ Below w.heap.size w w' := by
 have HB0 : Hid (Below w.heap.size w ((w.alloc (Obj.cells #[Value.int .i64 n, Value.slice a xs.length c1] 74)).alloc (Obj.cells #[Value.int .i64 n, Value.slice b xs.length c2] 74))) :=
  ((Below.refl _ _).alloc (Nat.le_refl _) _).alloc (by simp) _
 have HA : Hid (IntsAt w a xs) := hA
 have HB : Hid (IntsAt w b xs) := hB
 clear hA hB
 have hnn : (n != n) = false := by simp
 go_enter Tryz.func168, Tryz.ntmps168
 go_wp2_with fail
 refine (eqInts_any a b c1 c2 xs xs _ (HA.out.below HB0.out) (HB.out.below HB0.out) hl1).mono ?_
 rintro e w1 ⟨rfl, hb⟩
 have HB1 : Hid _ := hb
 clear hb
 have hd : decide (xs = xs) = true := by simp
 rw [hd]
 clear hd
 go_wp2
 go_ret
 exact ⟨rfl, HB0.out.trans (HB1.out.mono (by simp <;> omega))⟩
theorem Tryz.infoOrder : (Tryz.prog.info? 146).map (fun i => (i.zero, i.size, i.bytes)) = some (some (.agg #[Value.int .i64 0, Value.int .i64 0, Value.int .i64 0, Value.int .i64 0, Value.int .i64 0, Value.int .i64 0]), 6, 48) := by kernel_rfl
theorem made_ord (n : Nat) : madeCells (Value.agg #[Value.int .i64 0, Value.int .i64 0, Value.int .i64 0, Value.int .i64 0, Value.int .i64 0, Value.int .i64 0]).cells (n * 6) = cellsOf (List.replicate (n * 6) 0) := by
 apply Array.ext
 · simp [madeCells, cellsOf]
 · intro i h1 h2
   have hm : i % 6 < 6 := Nat.mod_lt _ (by omega)
   simp only [madeCells, cellsOf, Value.cells, Array.getElem_map, Array.getElem_range, List.map_replicate, List.getElem_toArray, List.getElem_replicate]
   generalize i % 6 = j at hm
   have : j = 0 ∨ j = 1 ∨ j = 2 ∨ j = 3 ∨ j = 4 ∨ j = 5 := by omega
   rcases this with rfl | rfl | rfl | rfl | rfl | rfl <;> rfl
theorem make_ord (W : World) (len : Nat) (hlen : len <= 1048576) :
 (Instr.makeSlice 75 (.int .i64 len) (.int .i64 len)).run Tryz.prog W = .ok (.slice (some ⟨W.heap.size, 0, none⟩) len len) (W.alloc (.cells (cellsOf (List.replicate (len * 6) 0)) 146)) := by
 have h := Tryz.infoOrder
 cases hq : Tryz.prog.info? 146 with
 | none => simp [hq] at h
 | some i =>
   simp [hq] at h
   obtain ⟨hz, hs, hb⟩ := h
   have := run_make (P := Tryz.prog) W 75 146 i (.agg #[Value.int .i64 0, Value.int .i64 0, Value.int .i64 0, Value.int .i64 0, Value.int .i64 0, Value.int .i64 0]) Tryz.underlying75 hq hz .i64 .i64 len len (by omega) (by omega) (by rw [hb]; omega) (by omega)
   rw [this, hs]
   simp only [Int.toNat_natCast, made_ord]
set_option maxHeartbeats 400000 in
theorem eqOrder_same (o0 o1 o2 o3 o4 o5 : Int) (w : World) :
 Calls Tryz.prog 198 #[.agg #[.int .i64 o0, .int .i64 o1, .int .i64 o2, .int .i64 o3, .int .i64 o4, .int .i64 o5], .agg #[.int .i64 o0, .int .i64 o1, .int .i64 o2, .int .i64 o3, .int .i64 o4, .int .i64 o5]] w fun e w' => e = .returned (.bool true) /\ Below w.heap.size w w' := by
 have n0 : (o0 != o0) = false := by simp
 have n1 : (o1 != o1) = false := by simp
 have n2 : (o2 != o2) = false := by simp
 have n3 : (o3 != o3) = false := by simp
 have n4 : (o4 != o4) = false := by simp
 have n5 : (o5 != o5) = false := by simp
 go_enter Tryz.func198, Tryz.ntmps198
 go_wp2
 go_ret
 exact ⟨rfl, ((Below.refl _ _).alloc (Nat.le_refl _) _).alloc (by simp) _⟩
set_option maxHeartbeats 1000000 in
theorem eqOrderS_same (a a2 : Option Addr) (n c1 c2 : Nat) (zs : List Int) (w : World) (hA : IntsAt w a zs) (hB : IntsAt w a2 zs) (hl : zs.length = n * 6) (hlen : n <= 9223372036854775807) :
 Calls Tryz.prog 169 #[.slice a n c1, .slice a2 n c2] w fun e w' => e = .returned (.bool true) /\ Below w.heap.size w w' := by
 have HA : Hid (IntsAt w a zs) := hA
 have HA2 : Hid (IntsAt w a2 zs) := hB
 have HL : Hid (zs.length = n * 6) := hl
 have hnn : ((n : Int) != (n : Int)) = false := by simp
 clear hA hB hl
 go_enter Tryz.func169, Tryz.ntmps169
 go_wp2_with fail
 go_loopw [5] (fun t wr => ∃ k : Nat, k <= n /\ t = .int .i64 k /\ Below w.heap.size w wr) (fun t _ => n - (intOf t).toNat)
 case atStart => exact ⟨0, Nat.zero_le _, rfl, Below.refl _ _⟩
 case round =>
  obtain ⟨k, hk, rfl, hb⟩ := hrel
  have HB : Hid _ := hb
  by_cases hlt : k < n
  · obtain ⟨b, off, rfl, hcs⟩ := IntsAt.some (IntsAt.below HA.out hb) (j := k * 6) (by rw [HL.out]; omega)
    obtain ⟨r0, r1, r2, r3, r4, r5⟩ := row6_at hcs HL.out k hlt
    obtain ⟨b2, off2, rfl, hcs2⟩ := IntsAt.some (IntsAt.below HA2.out hb) (j := k * 6) (by rw [HL.out]; omega)
    obtain ⟨p0, p1, p2, p3, p4, p5⟩ := row6_at hcs2 HL.out k hlt
    clear hcs hcs2 hb
    obtain ⟨o0, H0⟩ := nmd (og6 zs k 0)
    obtain ⟨o1, H1⟩ := nmd (og6 zs k 1)
    obtain ⟨o2, H2⟩ := nmd (og6 zs k 2)
    obtain ⟨o3, H3⟩ := nmd (og6 zs k 3)
    obtain ⟨o4, H4⟩ := nmd (og6 zs k 4)
    obtain ⟨o5, H5⟩ := nmd (og6 zs k 5)
    rw [H0.out] at r0
    rw [H1.out] at r1
    rw [H2.out] at r2
    rw [H3.out] at r3
    rw [H4.out] at r4
    rw [H5.out] at r5
    rw [H0.out] at p0
    rw [H1.out] at p1
    rw [H2.out] at p2
    rw [H3.out] at p3
    rw [H4.out] at p4
    rw [H5.out] at p5
    have t0 := fun s : Kin wr => s.cell r0
    have u0 := fun s : Kin wr => s.cell p0
    have t1 := fun s : Kin wr => s.cell r1
    have u1 := fun s : Kin wr => s.cell p1
    have t2 := fun s : Kin wr => s.cell r2
    have u2 := fun s : Kin wr => s.cell p2
    have t3 := fun s : Kin wr => s.cell r3
    have u3 := fun s : Kin wr => s.cell p3
    have t4 := fun s : Kin wr => s.cell r4
    have u4 := fun s : Kin wr => s.cell p4
    have t5 := fun s : Kin wr => s.cell r5
    have u5 := fun s : Kin wr => s.cell p5
    have hkin := Kin.there wr
    go_wp2_with fail
    refine wp_region_kin (by kernel_rfl) (by kernel_rfl) ?_
    repeat (go_big_quiet_step ((go_at_call 198; exact Kin.call (eqOrder_same _ _ _ _ _ _ _))))
    refine wpQuiet_nil ?_
    rintro _ ⟨s, rfl⟩
    have HS2 := HB.out.trans (s.below.mono HB.out.size)
    generalize s.w = w2 at *
    go_wp2
    refine ⟨⟨k + 1, by omega, by go_num, HS2⟩, by simp [intOf]; omega⟩
  · go_wp2
    go_ret
    exact ⟨rfl, HB.out⟩
theorem Tryz.infoVehicle : (Tryz.prog.info? 137).map (fun i => (i.zero, i.size, i.bytes)) = some (some (.agg #[Value.int .i64 0, Value.int .i64 0, Value.int .i64 0, Value.int .i64 0, Value.int .i64 0]), 5, 40) := by kernel_rfl
theorem made_veh (n : Nat) : madeCells (Value.agg #[Value.int .i64 0, Value.int .i64 0, Value.int .i64 0, Value.int .i64 0, Value.int .i64 0]).cells (n * 5) = cellsOf (List.replicate (n * 5) 0) := by
 apply Array.ext
 · simp [madeCells, cellsOf]
 · intro i h1 h2
   have hm : i % 5 < 5 := Nat.mod_lt _ (by omega)
   simp only [madeCells, cellsOf, Value.cells, Array.getElem_map, Array.getElem_range, List.map_replicate, List.getElem_toArray, List.getElem_replicate]
   generalize i % 5 = j at hm
   have : j = 0 ∨ j = 1 ∨ j = 2 ∨ j = 3 ∨ j = 4 := by omega
   rcases this with rfl | rfl | rfl | rfl | rfl <;> rfl
theorem make_veh (W : World) (len : Nat) (hlen : len <= 1048576) :
 (Instr.makeSlice 76 (.int .i64 len) (.int .i64 len)).run Tryz.prog W = .ok (.slice (some ⟨W.heap.size, 0, none⟩) len len) (W.alloc (.cells (cellsOf (List.replicate (len * 5) 0)) 137)) := by
 have h := Tryz.infoVehicle
 cases hq : Tryz.prog.info? 137 with
 | none => simp [hq] at h
 | some i =>
   simp [hq] at h
   obtain ⟨hz, hs, hb⟩ := h
   have := run_make (P := Tryz.prog) W 76 137 i (.agg #[Value.int .i64 0, Value.int .i64 0, Value.int .i64 0, Value.int .i64 0, Value.int .i64 0]) Tryz.underlying76 hq hz .i64 .i64 len len (by omega) (by omega) (by rw [hb]; omega) (by omega)
   rw [this, hs]
   simp only [Int.toNat_natCast, made_veh]
set_option maxHeartbeats 400000 in
theorem eqVehicle_same (o0 o1 o2 o3 o4 : Int) (w : World) :
 Calls Tryz.prog 199 #[.agg #[.int .i64 o0, .int .i64 o1, .int .i64 o2, .int .i64 o3, .int .i64 o4], .agg #[.int .i64 o0, .int .i64 o1, .int .i64 o2, .int .i64 o3, .int .i64 o4]] w fun e w' => e = .returned (.bool true) /\ Below w.heap.size w w' := by
 have n0 : (o0 != o0) = false := by simp
 have n1 : (o1 != o1) = false := by simp
 have n2 : (o2 != o2) = false := by simp
 have n3 : (o3 != o3) = false := by simp
 have n4 : (o4 != o4) = false := by simp
 go_enter Tryz.func199, Tryz.ntmps199
 go_wp2
 go_ret
 exact ⟨rfl, ((Below.refl _ _).alloc (Nat.le_refl _) _).alloc (by simp) _⟩
set_option maxHeartbeats 1000000 in
theorem eqVehicleS_same (a a2 : Option Addr) (n c1 c2 : Nat) (zs : List Int) (w : World) (hA : IntsAt w a zs) (hB : IntsAt w a2 zs) (hl : zs.length = n * 5) (hlen : n <= 9223372036854775807) :
 Calls Tryz.prog 170 #[.slice a n c1, .slice a2 n c2] w fun e w' => e = .returned (.bool true) /\ Below w.heap.size w w' := by
 have HA : Hid (IntsAt w a zs) := hA
 have HA2 : Hid (IntsAt w a2 zs) := hB
 have HL : Hid (zs.length = n * 5) := hl
 have hnn : ((n : Int) != (n : Int)) = false := by simp
 clear hA hB hl
 go_enter Tryz.func170, Tryz.ntmps170
 go_wp2_with fail
 go_loopw [5] (fun t wr => ∃ k : Nat, k <= n /\ t = .int .i64 k /\ Below w.heap.size w wr) (fun t _ => n - (intOf t).toNat)
 case atStart => exact ⟨0, Nat.zero_le _, rfl, Below.refl _ _⟩
 case round =>
  obtain ⟨k, hk, rfl, hb⟩ := hrel
  have HB : Hid _ := hb
  by_cases hlt : k < n
  · obtain ⟨b, off, rfl, hcs⟩ := IntsAt.some (IntsAt.below HA.out hb) (j := k * 5) (by rw [HL.out]; omega)
    obtain ⟨r0, r1, r2, r3, r4⟩ := row5_at hcs HL.out k hlt
    obtain ⟨b2, off2, rfl, hcs2⟩ := IntsAt.some (IntsAt.below HA2.out hb) (j := k * 5) (by rw [HL.out]; omega)
    obtain ⟨p0, p1, p2, p3, p4⟩ := row5_at hcs2 HL.out k hlt
    clear hcs hcs2 hb
    obtain ⟨o0, H0⟩ := nmd (og5 zs k 0)
    obtain ⟨o1, H1⟩ := nmd (og5 zs k 1)
    obtain ⟨o2, H2⟩ := nmd (og5 zs k 2)
    obtain ⟨o3, H3⟩ := nmd (og5 zs k 3)
    obtain ⟨o4, H4⟩ := nmd (og5 zs k 4)
    rw [H0.out] at r0
    rw [H1.out] at r1
    rw [H2.out] at r2
    rw [H3.out] at r3
    rw [H4.out] at r4
    rw [H0.out] at p0
    rw [H1.out] at p1
    rw [H2.out] at p2
    rw [H3.out] at p3
    rw [H4.out] at p4
    have t0 := fun s : Kin wr => s.cell r0
    have u0 := fun s : Kin wr => s.cell p0
    have t1 := fun s : Kin wr => s.cell r1
    have u1 := fun s : Kin wr => s.cell p1
    have t2 := fun s : Kin wr => s.cell r2
    have u2 := fun s : Kin wr => s.cell p2
    have t3 := fun s : Kin wr => s.cell r3
    have u3 := fun s : Kin wr => s.cell p3
    have t4 := fun s : Kin wr => s.cell r4
    have u4 := fun s : Kin wr => s.cell p4
    have hkin := Kin.there wr
    go_wp2_with fail
    refine wp_region_kin (by kernel_rfl) (by kernel_rfl) ?_
    repeat (go_big_quiet_step ((go_at_call 199; exact Kin.call (eqVehicle_same _ _ _ _ _ _))))
    refine wpQuiet_nil ?_
    rintro _ ⟨s, rfl⟩
    have HS2 := HB.out.trans (s.below.mono HB.out.size)
    generalize s.w = w2 at *
    go_wp2
    refine ⟨⟨k + 1, by omega, by go_num, HS2⟩, by simp [intOf]; omega⟩
  · go_wp2
    go_ret
    exact ⟨rfl, HB.out⟩
def szV (left : Int) (lt ko kv : Nat) : Int := if left < lt then -1 else if left - lt < ko then -1 else if left - lt - ko < kv then -1 else left - lt - ko - kv
def CaseAt (w : World) (g go gv : Nat) (zs os vs : List Int) : Prop :=
 w.heap[g]? = some (.cells (cellsOf zs) 2 (0, 0)) /\ w.heap[go]? = some (.cells (cellsOf os) 146 (0, 0)) /\ w.heap[gv]? = some (.cells (cellsOf vs) 137 (0, 0))
theorem row_set {W : World} {g k i : Nat} {o : Obj} {v : Value} (h : W.heap[g]? = some o) (hne : g ≠ k) : (W.setCell ⟨k, i, none⟩ v).heap[g]? = some o := by
 rw [heap_setCell_other _ _ _ _ (by simpa using hne)]; exact h
set_option maxHeartbeats 1000000 in
theorem eqCase_same (n fine : Int) (a ao av a' ao' av' : Option Addr) (cap ko co kv cv cap' co' cv' : Nat) (zs os vs : List Int) (w : World) (hA : IntsAt w a zs) (hO : IntsAt w ao os) (hV : IntsAt w av vs) (hA' : IntsAt w a' zs) (hO' : IntsAt w ao' os) (hV' : IntsAt w av' vs) (hlo : os.length = ko * 6) (hlv : vs.length = kv * 5) (hlt : zs.length <= 1125899906842624) (hko : ko <= 9223372036854775807) (hkv : kv <= 9223372036854775807) :
 Calls Tryz.prog 138 #[.agg #[.int .i64 n, .slice a zs.length cap, .slice ao ko co, .slice av kv cv, .int .i64 fine], .agg #[.int .i64 n, .slice a' zs.length cap', .slice ao' ko co', .slice av' kv cv', .int .i64 fine]] w fun e w' => e = .returned (.bool true) /\ Below w.heap.size w w' := by
 have HA : Hid (IntsAt w a zs) := hA
 have HO : Hid (IntsAt w ao os) := hO
 have HV : Hid (IntsAt w av vs) := hV
 have HA' : Hid (IntsAt w a' zs) := hA'
 have HO' : Hid (IntsAt w ao' os) := hO'
 have HV' : Hid (IntsAt w av' vs) := hV'
 have HLO : Hid _ := hlo
 have HLV : Hid _ := hlv
 clear hA hO hV hA' hO' hV' hlo hlv
 have hff : (fine != fine) = false := by simp
 go_enter Tryz.func138, Tryz.ntmps138
 go_wp2_with fail
 have B0 : Hid (Below w.heap.size w ((w.alloc (Obj.cells #[Value.int .i64 n, Value.slice a zs.length cap, Value.slice ao ko co, Value.slice av kv cv, Value.int .i64 fine] 78)).alloc (Obj.cells #[Value.int .i64 n, Value.slice a' zs.length cap', Value.slice ao' ko co', Value.slice av' kv cv', Value.int .i64 fine] 78))) := ((Below.refl _ _).alloc (Nat.le_refl _) _).alloc (by simp) _
 have P0 : Hid (((w.alloc (Obj.cells #[Value.int .i64 n, Value.slice a zs.length cap, Value.slice ao ko co, Value.slice av kv cv, Value.int .i64 fine] 78)).alloc (Obj.cells #[Value.int .i64 n, Value.slice a' zs.length cap', Value.slice ao' ko co', Value.slice av' kv cv', Value.int .i64 fine] 78)).heap[w.heap.size]? = _) := heap_alloc2_old _ _ _
 have Q0 : Hid (((w.alloc (Obj.cells #[Value.int .i64 n, Value.slice a zs.length cap, Value.slice ao ko co, Value.slice av kv cv, Value.int .i64 fine] 78)).alloc (Obj.cells #[Value.int .i64 n, Value.slice a' zs.length cap', Value.slice ao' ko co', Value.slice av' kv cv', Value.int .i64 fine] 78)).heap[w.heap.size + 1]? = _) := heap_alloc2_new _ _ _
 generalize (w.alloc (Obj.cells #[Value.int .i64 n, Value.slice a zs.length cap, Value.slice ao ko co, Value.slice av kv cv, Value.int .i64 fine] 78)).alloc (Obj.cells #[Value.int .i64 n, Value.slice a' zs.length cap', Value.slice ao' ko co', Value.slice av' kv cv', Value.int .i64 fine] 78) = W0 at *
 refine (eqMat_same n a a' cap cap' zs _ (HA.out.below B0.out) (HA'.out.below B0.out) hlt).mono ?_
 rintro e w1 ⟨rfl, hb⟩
 have B1 : Hid (Below w.heap.size w w1) := B0.out.trans (hb.mono B0.out.size)
 have P1 : Hid _ := below_row hb (row_lt P0.out) P0.out
 have Q1 : Hid _ := below_row hb (row_lt Q0.out) Q0.out
 clear hb B0 P0 Q0
 obtain ⟨c0, c1, c2, c3, c4⟩ := cells5 P1.out
 obtain ⟨d0, d1, d2, d3, d4⟩ := cells5 Q1.out
 go_wp2_with fail
 refine (eqOrderS_same ao ao' ko co co' os _ (HO.out.below B1.out) (HO'.out.below B1.out) HLO.out hko).mono ?_
 rintro e w2 ⟨rfl, hb⟩
 have B2 : Hid (Below w.heap.size w w2) := B1.out.trans (hb.mono B1.out.size)
 have P2 : Hid _ := below_row hb (row_lt P1.out) P1.out
 have Q2 : Hid _ := below_row hb (row_lt Q1.out) Q1.out
 clear hb B1 P1 Q1 c0 c1 c2 c3 c4 d0 d1 d2 d3 d4
 obtain ⟨c0, c1, c2, c3, c4⟩ := cells5 P2.out
 obtain ⟨d0, d1, d2, d3, d4⟩ := cells5 Q2.out
 go_wp2_with fail
 refine (eqVehicleS_same av av' kv cv cv' vs _ (HV.out.below B2.out) (HV'.out.below B2.out) HLV.out hkv).mono ?_
 rintro e w3 ⟨rfl, hb⟩
 have B3 : Hid (Below w.heap.size w w3) := B2.out.trans (hb.mono B2.out.size)
 have P3 : Hid _ := below_row hb (row_lt P2.out) P2.out
 have Q3 : Hid _ := below_row hb (row_lt Q2.out) Q2.out
 clear hb B2 P2 Q2 c0 c1 c2 c3 c4 d0 d1 d2 d3 d4
 obtain ⟨c0, c1, c2, c3, c4⟩ := cells5 P3.out
 obtain ⟨d0, d1, d2, d3, d4⟩ := cells5 Q3.out
 go_wp2
 go_ret
 exact ⟨rfl, B3.out⟩
set_option maxHeartbeats 400000 in
theorem szInts_any (a : Option Addr) (len cap : Nat) (left : Int) (w : World) (h0 : 0 <= left) (h1 : left <= 1048576) (hlen : len <= 9223372036854775807) :
 Calls Tryz.prog 216 #[.slice a len cap, .int .i64 left] w fun e w' => e = .returned (.int .i64 (if left < len then -1 else left - len)) /\ w' = w := by
 by_cases hlt : left < len
 · rw [if_pos hlt]
   go_enter Tryz.func216, Tryz.ntmps216
   go_wp2
   go_ret
   exact ⟨by simp, rfl⟩
 · rw [if_neg hlt]
   go_enter Tryz.func216, Tryz.ntmps216
   go_wp2
   go_ret
   exact ⟨by simp, rfl⟩
set_option maxHeartbeats 400000 in
theorem szMat_any (n : Int) (a : Option Addr) (len cap : Nat) (left : Int) (w : World) (h0 : 0 <= left) (h1 : left <= 1048576) (hlen : len <= 9223372036854775807) :
 Calls Tryz.prog 212 #[.agg #[.int .i64 n, .slice a len cap], .int .i64 left] w fun e w' => e = .returned (.int .i64 (if left < len then -1 else left - len)) /\ Below w.heap.size w w' := by
 by_cases hlt : left < len
 · rw [if_pos hlt]
   go_enter Tryz.func212, Tryz.ntmps212
   go_wp2_with (go_at_call 216; refine (szInts_any _ _ _ _ _ h0 h1 hlen).mono ?_; rintro e w' ⟨rfl, rfl⟩)
   go_ret
   exact ⟨by simp, (Below.refl _ _).alloc (Nat.le_refl _) _⟩
 · rw [if_neg hlt]
   go_enter Tryz.func212, Tryz.ntmps212
   go_wp2_with (go_at_call 216; refine (szInts_any _ _ _ _ _ h0 h1 hlen).mono ?_; rintro e w' ⟨rfl, rfl⟩)
   go_ret
   exact ⟨by simp, (Below.refl _ _).alloc (Nat.le_refl _) _⟩
set_option maxHeartbeats 400000 in
theorem toInts_any (a : Option Addr) (cap : Nat) (zs : List Int) (w : World) (hA : IntsAt w a zs) (hlen : zs.length <= 1048576) :
 Calls Tryz.prog 221 #[.slice a zs.length cap] w fun e w' => e = .returned (.slice (some ⟨w.heap.size, 0, none⟩) zs.length zs.length) /\ Below w.heap.size w w' /\ w'.heap.size = w.heap.size + 1 /\ w'.heap[w.heap.size]? = some (.cells (cellsOf zs) 2 (0, 0)) := by
 have HA : Hid (IntsAt w a zs) := hA
 clear hA
 have hmk := fun W => make_ints W zs.length hlen
 go_enter Tryz.func221, Tryz.ntmps221
 go_wp2_with fail
 clear hmk
 go_loopw [4] (fun t wr => ∃ k : Nat, k <= zs.length /\ t = .int .i64 k /\ Below w.heap.size w wr /\ wr.heap.size = w.heap.size + 1 /\ wr.heap[w.heap.size]? = some (.cells (cellsOf (zs.take k ++ List.replicate (zs.length - k) 0)) 2 (0, 0))) (fun t _ => zs.length - (intOf t).toNat)
 case atStart =>
  refine ⟨0, Nat.zero_le _, rfl, (Below.refl _ _).alloc (Nat.le_refl _) _, by simp, ?_⟩
  simpa using heap_alloc_new w _
 case round =>
  obtain ⟨k, hk, rfl, hb, hsz, hg⟩ := hrel
  by_cases hlt : k < zs.length
  · obtain ⟨bb, off, rfl, hcs⟩ := IntsAt.some (IntsAt.below HA.out hb) hlt
    have ct := hcs k hlt
    clear hcs
    generalize htt : zs.getD k 0 = t at ct
    have HT : Hid (zs.getD k 0 = t) := htt
    clear htt
    have cg := cell_of_row _ _ k _ _ _ hg
    rw [cellsOf_get _ _ (by simp; omega)] at cg
    have fg := frozen_of_row _ _ k _ _ hg
    have HG : Hid _ := hg
    have HZ : Hid _ := hsz
    have HB : Hid _ := hb
    clear hg hsz hb
    go_wp2
    refine ⟨⟨k + 1, by omega, by go_num, HB.out.setCell (Nat.le_refl _) _, ?_, ?_⟩, by simp [intOf]; omega⟩
    · have := HZ.out
      simpa [World.setCell] using this
    · rw [heap_setCell_same _ _ _ _ _ _ HG.out, cellsOf_set, <- HT.out, copy_step zs k hlt]
  · have hkz : k = zs.length := by omega
    have HG : Hid (wr.heap[w.heap.size]? = some (.cells (cellsOf zs) 2 (0, 0))) := by
     show _ = _
     rw [hg, hkz]; simp
    have HZ : Hid _ := hsz
    clear hg hsz hkz
    go_wp2
    go_ret
    exact ⟨rfl, hb, HZ.out, HG.out⟩
set_option maxHeartbeats 400000 in
theorem toMat_any (n : Int) (a : Option Addr) (cap : Nat) (zs : List Int) (w : World) (hA : IntsAt w a zs) (hlen : zs.length <= 1048576) :
 Calls Tryz.prog 217 #[.agg #[.int .i64 n, .slice a zs.length cap]] w fun e w' => ∃ g, w.heap.size <= g /\ e = .returned (.agg #[.int .i64 n, .slice (some ⟨g, 0, none⟩) zs.length zs.length]) /\ Below w.heap.size w w' /\ w'.heap[g]? = some (.cells (cellsOf zs) 2 (0, 0)) := by
 have HA : Hid (IntsAt w a zs) := hA
 clear hA
 go_enter Tryz.func217, Tryz.ntmps217
 go_wp2_with fail
 have HB0 : Hid (Below w.heap.size w (((w.alloc (Obj.cells #[Value.int .i64 n, Value.slice a zs.length cap] 202)).alloc (Obj.cells #[Value.int .i64 0, Value.slice none 0 0] 74)).alloc (Obj.cells #[Value.int .i64 n, Value.slice none 0 0] 74))) :=
  (((Below.refl _ _).alloc (Nat.le_refl _) _).alloc (by simp) _).alloc (by simp; omega) _
 refine (toInts_any a cap zs _ (HA.out.below HB0.out) hlen).mono ?_
 rintro e w1 ⟨rfl, hb, hsz, hg⟩
 obtain ⟨hc, hf⟩ := bcell hb
 have HB1 : Hid _ := hb
 have HG : Hid _ := hg
 clear hb hg
 simp at hsz
 go_wp2
 refine bodyPost_ret (v := .agg #[.int .i64 n, .slice (some ⟨w.heap.size + 1 + 1 + 1, 0, none⟩) zs.length zs.length]) (by simp [results, Tryz.results217, go_sem, hc]) rfl ⟨w.heap.size + 1 + 1 + 1, by omega, rfl, ?_, ?_⟩
 · exact (((HB0.out.trans (HB1.out.mono (by simp; omega))).setCell (by simp; omega) _).setCell (by simp) _).setCell (by simp) _
 · rw [heap_setCell_other _ _ _ _ (by simp <;> omega), heap_setCell_other _ _ _ _ (by simp <;> omega), heap_setCell_other _ _ _ _ (by simp <;> omega)]
   simpa using HG.out
set_option maxHeartbeats 400000 in
theorem szOrder_any (a : Option Addr) (len cap : Nat) (left : Int) (w : World) (h0 : 0 <= left) (h1 : left <= 1048576) (hlen : len <= 9223372036854775807) :
 Calls Tryz.prog 213 #[.slice a len cap, .int .i64 left] w fun e w' => e = .returned (.int .i64 (if left < len then -1 else left - len)) /\ w' = w := by
 by_cases hlt : left < len
 · rw [if_pos hlt]
   go_enter Tryz.func213, Tryz.ntmps213
   go_wp2
   go_ret
   exact ⟨by simp, rfl⟩
 · rw [if_neg hlt]
   go_enter Tryz.func213, Tryz.ntmps213
   go_wp2
   go_ret
   exact ⟨by simp, rfl⟩
set_option maxHeartbeats 400000 in
theorem toOrder_any (o0 o1 o2 o3 o4 o5 : Int) (w : World) :
 Calls Tryz.prog 227 #[.agg #[.int .i64 o0, .int .i64 o1, .int .i64 o2, .int .i64 o3, .int .i64 o4, .int .i64 o5]] w fun e w' => e = .returned (.agg #[.int .i64 o0, .int .i64 o1, .int .i64 o2, .int .i64 o3, .int .i64 o4, .int .i64 o5]) /\ Below w.heap.size w w' := by
 go_enter Tryz.func227, Tryz.ntmps227
 go_wp2
 refine bodyPost_ret (v := .agg #[.int .i64 o0, .int .i64 o1, .int .i64 o2, .int .i64 o3, .int .i64 o4, .int .i64 o5]) (by simp [results, Tryz.results227, go_sem]) rfl ⟨rfl, ?_⟩
 exact (((Below.refl _ _).alloc (Nat.le_refl _) _).alloc (by simp) _).alloc (by simp <;> omega) _
set_option maxHeartbeats 1000000 in
theorem toOrderS_any (a : Option Addr) (n cap : Nat) (zs : List Int) (w : World) (hA : IntsAt w a zs) (hl : zs.length = n * 6) (hlen : n <= 1048576) :
 Calls Tryz.prog 218 #[.slice a n cap] w fun e w' => e = .returned (.slice (some ⟨w.heap.size, 0, none⟩) n n) /\ Below w.heap.size w w' /\ w'.heap[w.heap.size]? = some (.cells (cellsOf zs) 146 (0, 0)) := by
 have HA : Hid (IntsAt w a zs) := hA
 have HL : Hid (zs.length = n * 6) := hl
 clear hA hl
 have hmk := fun W => make_ord W n hlen
 go_enter Tryz.func218, Tryz.ntmps218
 go_wp2_with fail
 clear hmk
 go_loopw [4] (fun t wr => ∃ k : Nat, k <= n /\ t = .int .i64 k /\ Below w.heap.size w wr /\ wr.heap[w.heap.size]? = some (.cells (cellsOf (fillTo (n * 6) zs (k * 6))) 146 (0, 0))) (fun t _ => n - (intOf t).toNat)
 case atStart =>
  refine ⟨0, Nat.zero_le _, rfl, (Below.refl _ _).alloc (Nat.le_refl _) _, ?_⟩
  rw [Nat.zero_mul, fillTo_zero]
  exact heap_alloc_new w _
 case round =>
  obtain ⟨k, hk, rfl, hb, hg⟩ := hrel
  by_cases hlt : k < n
  · obtain ⟨b, off, rfl, hcs⟩ := IntsAt.some (IntsAt.below HA.out hb) (j := k * 6) (by rw [HL.out]; omega)
    obtain ⟨r0, r1, r2, r3, r4, r5⟩ := row6_at hcs HL.out k hlt
    clear hcs
    obtain ⟨o0, H0⟩ := nmd (og6 zs k 0)
    obtain ⟨o1, H1⟩ := nmd (og6 zs k 1)
    obtain ⟨o2, H2⟩ := nmd (og6 zs k 2)
    obtain ⟨o3, H3⟩ := nmd (og6 zs k 3)
    obtain ⟨o4, H4⟩ := nmd (og6 zs k 4)
    obtain ⟨o5, H5⟩ := nmd (og6 zs k 5)
    rw [H0.out] at r0
    rw [H1.out] at r1
    rw [H2.out] at r2
    rw [H3.out] at r3
    rw [H4.out] at r4
    rw [H5.out] at r5
    have HG : Hid _ := hg
    have HB : Hid _ := hb
    clear hg hb
    go_wp2_with fail
    refine (toOrder_any _ _ _ _ _ _ _).mono ?_
    rintro e w2 ⟨rfl, hb2⟩
    obtain ⟨B2, g2⟩ := box_more hb2 HB.out HG.out
    have HB2 : Hid _ := B2
    have x0 := cell_of_row _ _ (k * 6) _ _ _ g2
    rw [cellsOf_get _ _ (by rw [fillTo_length]; omega)] at x0
    have y0 := frozen_of_row _ _ (k * 6) _ _ g2
    have x1 := cell_of_row _ _ (k * 6 + 1) _ _ _ g2
    rw [cellsOf_get _ _ (by rw [fillTo_length]; omega)] at x1
    have y1 := frozen_of_row _ _ (k * 6 + 1) _ _ g2
    have x2 := cell_of_row _ _ (k * 6 + 2) _ _ _ g2
    rw [cellsOf_get _ _ (by rw [fillTo_length]; omega)] at x2
    have y2 := frozen_of_row _ _ (k * 6 + 2) _ _ g2
    have x3 := cell_of_row _ _ (k * 6 + 3) _ _ _ g2
    rw [cellsOf_get _ _ (by rw [fillTo_length]; omega)] at x3
    have y3 := frozen_of_row _ _ (k * 6 + 3) _ _ g2
    have x4 := cell_of_row _ _ (k * 6 + 4) _ _ _ g2
    rw [cellsOf_get _ _ (by rw [fillTo_length]; omega)] at x4
    have y4 := frozen_of_row _ _ (k * 6 + 4) _ _ g2
    have x5 := cell_of_row _ _ (k * 6 + 5) _ _ _ g2
    rw [cellsOf_get _ _ (by rw [fillTo_length]; omega)] at x5
    have y5 := frozen_of_row _ _ (k * 6 + 5) _ _ g2
    have HG2 : Hid _ := g2
    clear hb2 g2 B2
    go_wp2
    have q0 := row_fill HG2.out H0.out
    have q1 := row_fill q0 H1.out
    have q2 := row_fill q1 H2.out
    have q3 := row_fill q2 H3.out
    have q4 := row_fill q3 H4.out
    have q5 := row_fill q4 H5.out
    refine ⟨⟨k + 1, by omega, by go_num, ((((((HB2.out.setCell (Nat.le_refl _) _).setCell (Nat.le_refl _) _).setCell (Nat.le_refl _) _).setCell (Nat.le_refl _) _).setCell (Nat.le_refl _) _).setCell (Nat.le_refl _) _), ?_⟩, by simp [intOf]; omega⟩
    rw [show (k + 1) * 6 = k * 6 + 1 + 1 + 1 + 1 + 1 + 1 by omega]
    exact q5
  · have hkz : k = n := by omega
    have HG : Hid (wr.heap[w.heap.size]? = some (.cells (cellsOf zs) 146 (0, 0))) := by
     show _ = _
     rw [hg, hkz, <- HL.out, fillTo_full]
    have HB : Hid _ := hb
    clear hg hkz hb
    go_wp2
    go_ret
    exact ⟨rfl, HB.out, HG.out⟩
set_option maxHeartbeats 400000 in
theorem szVehicle_any (a : Option Addr) (len cap : Nat) (left : Int) (w : World) (h0 : 0 <= left) (h1 : left <= 1048576) (hlen : len <= 9223372036854775807) :
 Calls Tryz.prog 214 #[.slice a len cap, .int .i64 left] w fun e w' => e = .returned (.int .i64 (if left < len then -1 else left - len)) /\ w' = w := by
 by_cases hlt : left < len
 · rw [if_pos hlt]
   go_enter Tryz.func214, Tryz.ntmps214
   go_wp2
   go_ret
   exact ⟨by simp, rfl⟩
 · rw [if_neg hlt]
   go_enter Tryz.func214, Tryz.ntmps214
   go_wp2
   go_ret
   exact ⟨by simp, rfl⟩
set_option maxHeartbeats 400000 in
theorem toVehicle_any (o0 o1 o2 o3 o4 : Int) (w : World) :
 Calls Tryz.prog 228 #[.agg #[.int .i64 o0, .int .i64 o1, .int .i64 o2, .int .i64 o3, .int .i64 o4]] w fun e w' => e = .returned (.agg #[.int .i64 o0, .int .i64 o1, .int .i64 o2, .int .i64 o3, .int .i64 o4]) /\ Below w.heap.size w w' := by
 go_enter Tryz.func228, Tryz.ntmps228
 go_wp2
 refine bodyPost_ret (v := .agg #[.int .i64 o0, .int .i64 o1, .int .i64 o2, .int .i64 o3, .int .i64 o4]) (by simp [results, Tryz.results228, go_sem]) rfl ⟨rfl, ?_⟩
 exact (((Below.refl _ _).alloc (Nat.le_refl _) _).alloc (by simp) _).alloc (by simp <;> omega) _
set_option maxHeartbeats 1000000 in
theorem toVehicleS_any (a : Option Addr) (n cap : Nat) (zs : List Int) (w : World) (hA : IntsAt w a zs) (hl : zs.length = n * 5) (hlen : n <= 1048576) :
 Calls Tryz.prog 219 #[.slice a n cap] w fun e w' => e = .returned (.slice (some ⟨w.heap.size, 0, none⟩) n n) /\ Below w.heap.size w w' /\ w'.heap[w.heap.size]? = some (.cells (cellsOf zs) 137 (0, 0)) := by
 have HA : Hid (IntsAt w a zs) := hA
 have HL : Hid (zs.length = n * 5) := hl
 clear hA hl
 have hmk := fun W => make_veh W n hlen
 go_enter Tryz.func219, Tryz.ntmps219
 go_wp2_with fail
 clear hmk
 go_loopw [4] (fun t wr => ∃ k : Nat, k <= n /\ t = .int .i64 k /\ Below w.heap.size w wr /\ wr.heap[w.heap.size]? = some (.cells (cellsOf (fillTo (n * 5) zs (k * 5))) 137 (0, 0))) (fun t _ => n - (intOf t).toNat)
 case atStart =>
  refine ⟨0, Nat.zero_le _, rfl, (Below.refl _ _).alloc (Nat.le_refl _) _, ?_⟩
  rw [Nat.zero_mul, fillTo_zero]
  exact heap_alloc_new w _
 case round =>
  obtain ⟨k, hk, rfl, hb, hg⟩ := hrel
  by_cases hlt : k < n
  · obtain ⟨b, off, rfl, hcs⟩ := IntsAt.some (IntsAt.below HA.out hb) (j := k * 5) (by rw [HL.out]; omega)
    obtain ⟨r0, r1, r2, r3, r4⟩ := row5_at hcs HL.out k hlt
    clear hcs
    obtain ⟨o0, H0⟩ := nmd (og5 zs k 0)
    obtain ⟨o1, H1⟩ := nmd (og5 zs k 1)
    obtain ⟨o2, H2⟩ := nmd (og5 zs k 2)
    obtain ⟨o3, H3⟩ := nmd (og5 zs k 3)
    obtain ⟨o4, H4⟩ := nmd (og5 zs k 4)
    rw [H0.out] at r0
    rw [H1.out] at r1
    rw [H2.out] at r2
    rw [H3.out] at r3
    rw [H4.out] at r4
    have HG : Hid _ := hg
    have HB : Hid _ := hb
    clear hg hb
    go_wp2_with fail
    refine (toVehicle_any _ _ _ _ _ _).mono ?_
    rintro e w2 ⟨rfl, hb2⟩
    obtain ⟨B2, g2⟩ := box_more hb2 HB.out HG.out
    have HB2 : Hid _ := B2
    have x0 := cell_of_row _ _ (k * 5) _ _ _ g2
    rw [cellsOf_get _ _ (by rw [fillTo_length]; omega)] at x0
    have y0 := frozen_of_row _ _ (k * 5) _ _ g2
    have x1 := cell_of_row _ _ (k * 5 + 1) _ _ _ g2
    rw [cellsOf_get _ _ (by rw [fillTo_length]; omega)] at x1
    have y1 := frozen_of_row _ _ (k * 5 + 1) _ _ g2
    have x2 := cell_of_row _ _ (k * 5 + 2) _ _ _ g2
    rw [cellsOf_get _ _ (by rw [fillTo_length]; omega)] at x2
    have y2 := frozen_of_row _ _ (k * 5 + 2) _ _ g2
    have x3 := cell_of_row _ _ (k * 5 + 3) _ _ _ g2
    rw [cellsOf_get _ _ (by rw [fillTo_length]; omega)] at x3
    have y3 := frozen_of_row _ _ (k * 5 + 3) _ _ g2
    have x4 := cell_of_row _ _ (k * 5 + 4) _ _ _ g2
    rw [cellsOf_get _ _ (by rw [fillTo_length]; omega)] at x4
    have y4 := frozen_of_row _ _ (k * 5 + 4) _ _ g2
    have HG2 : Hid _ := g2
    clear hb2 g2 B2
    go_wp2
    have q0 := row_fill HG2.out H0.out
    have q1 := row_fill q0 H1.out
    have q2 := row_fill q1 H2.out
    have q3 := row_fill q2 H3.out
    have q4 := row_fill q3 H4.out
    refine ⟨⟨k + 1, by omega, by go_num, (((((HB2.out.setCell (Nat.le_refl _) _).setCell (Nat.le_refl _) _).setCell (Nat.le_refl _) _).setCell (Nat.le_refl _) _).setCell (Nat.le_refl _) _), ?_⟩, by simp [intOf]; omega⟩
    rw [show (k + 1) * 5 = k * 5 + 1 + 1 + 1 + 1 + 1 by omega]
    exact q4
  · have hkz : k = n := by omega
    have HG : Hid (wr.heap[w.heap.size]? = some (.cells (cellsOf zs) 137 (0, 0))) := by
     show _ = _
     rw [hg, hkz, <- HL.out, fillTo_full]
    have HB : Hid _ := hb
    clear hg hkz hb
    go_wp2
    go_ret
    exact ⟨rfl, HB.out, HG.out⟩
set_option maxHeartbeats 1000000 in
theorem szCase_any (n fine left : Int) (a ao av : Option Addr) (lt cap ko co kv cv : Nat) (w : World) (h0 : 0 <= left) (h1 : left <= 1048576) (hlt : lt <= 9223372036854775807) (hko : ko <= 9223372036854775807) (hkv : kv <= 9223372036854775807) :
 Calls Tryz.prog 189 #[.agg #[.int .i64 n, .slice a lt cap, .slice ao ko co, .slice av kv cv, .int .i64 fine], .int .i64 left] w fun e w' => e = .returned (.int .i64 (szV left lt ko kv)) /\ Below w.heap.size w w' := by
 obtain ⟨r, HR⟩ := nmd (szV left lt ko kv)
 rw [HR.out]
 go_enter Tryz.func189, Tryz.ntmps189
 go_wp2_with fail
 refine (szMat_any n a lt cap left _ h0 h1 hlt).mono ?_
 rintro e w1 ⟨rfl, hb⟩
 obtain ⟨b1, r1⟩ := box5 hb
 obtain ⟨c0, c1, c2, c3, c4⟩ := cells5 r1
 clear hb r1
 by_cases ha : left < lt
 · rw [if_pos ha]
   have HV : Hid (szV left lt ko kv = -1) := by
    show _ = _
    unfold szV; rw [if_pos ha]
   go_wp2
   go_ret
   exact ⟨ret_int (HV.out.symm.trans HR.out), b1⟩
 · rw [if_neg ha]
   have hl1 : (lt : Int) <= left := by omega
   by_cases hb : left - lt < ko
   · have HV : Hid (szV left lt ko kv = -1) := by
      show _ = _
      unfold szV; rw [if_neg ha, if_pos hb]
     go_wp2_with (go_at_call 213; refine (szOrder_any _ _ _ _ _ (by omega) (by omega) hko).mono ?_; rintro e w' ⟨rfl, rfl⟩; rw [if_pos (by omega)])
     go_ret
     exact ⟨ret_int (HV.out.symm.trans HR.out), b1⟩
   · have hl2 : (ko : Int) <= left - lt := by omega
     by_cases hc : left - lt - ko < kv
     · have HV : Hid (szV left lt ko kv = -1) := by
        show _ = _
        unfold szV; rw [if_neg ha, if_neg hb, if_pos hc]
       go_wp2_with (first
        | (go_at_call 213; refine (szOrder_any _ _ _ _ _ (by omega) (by omega) hko).mono ?_; rintro e w' ⟨rfl, rfl⟩; rw [if_neg (by omega)])
        | (go_at_call 214; refine (szVehicle_any _ _ _ _ _ (by omega) (by omega) hkv).mono ?_; rintro e w' ⟨rfl, rfl⟩; rw [if_pos (by omega)]))
       go_ret
       exact ⟨ret_int (HV.out.symm.trans HR.out), b1⟩
     · have hl3 : (kv : Int) <= left - lt - ko := by omega
       have HV : Hid (szV left lt ko kv = left - lt - ko - kv) := by
        show _ = _
        unfold szV; rw [if_neg ha, if_neg hb, if_neg hc]
       go_wp2_with (first
        | (go_at_call 213; refine (szOrder_any _ _ _ _ _ (by omega) (by omega) hko).mono ?_; rintro e w' ⟨rfl, rfl⟩; rw [if_neg (by omega)])
        | (go_at_call 214; refine (szVehicle_any _ _ _ _ _ (by omega) (by omega) hkv).mono ?_; rintro e w' ⟨rfl, rfl⟩; rw [if_neg (by omega)]))
       go_ret
       exact ⟨ret_int (HV.out.symm.trans HR.out), b1⟩
def TC (w W : World) (src z out : Array Value) : Prop :=
 Below w.heap.size w W /\ W.heap[w.heap.size]? = some (.cells src 206 (0, 0)) /\ W.heap[w.heap.size + 1]? = some (.cells z 78 (0, 0)) /\ W.heap[w.heap.size + 1 + 1]? = some (.cells out 78 (0, 0))
theorem TC.below {w W W' : World} {src z out : Array Value} (h : TC w W src z out) (hb : Below W.heap.size W W') : TC w W' src z out :=
 ⟨h.1.trans (hb.mono h.1.size), below_row hb (row_lt h.2.1) h.2.1, below_row hb (row_lt h.2.2.1) h.2.2.1, below_row hb (row_lt h.2.2.2) h.2.2.2⟩
theorem TC.set {w W : World} {src z out : Array Value} (h : TC w W src z out) (i : Nat) (v : Value) : TC w (W.setCell ⟨w.heap.size + 1 + 1, i, none⟩ v) src z (out.setIfInBounds i v) := by
 refine ⟨h.1.setCell (by simp <;> omega) _, ?_, ?_, heap_setCell_same _ _ _ _ _ _ h.2.2.2⟩
 · rw [heap_setCell_other _ _ _ _ (by simp <;> omega)]; exact h.2.1
 · rw [heap_setCell_other _ _ _ _ (by simp <;> omega)]; exact h.2.2.1
set_option maxHeartbeats 1000000 in
theorem toCase_any (n fine : Int) (a ao av : Option Addr) (cap ko co kv cv : Nat) (zs os vs : List Int) (w : World) (hA : IntsAt w a zs) (hO : IntsAt w ao os) (hV : IntsAt w av vs) (hlo : os.length = ko * 6) (hlv : vs.length = kv * 5) (hlt : zs.length <= 1048576) (hko : ko <= 1048576) (hkv : kv <= 1048576) :
 Calls Tryz.prog 192 #[.agg #[.int .i64 n, .slice a zs.length cap, .slice ao ko co, .slice av kv cv, .int .i64 fine]] w fun e w' => ∃ g go gv, w.heap.size <= g /\ w.heap.size <= go /\ w.heap.size <= gv /\ e = .returned (.agg #[.int .i64 n, .slice (some ⟨g, 0, none⟩) zs.length zs.length, .slice (some ⟨go, 0, none⟩) ko ko, .slice (some ⟨gv, 0, none⟩) kv kv, .int .i64 fine]) /\ Below w.heap.size w w' /\ CaseAt w' g go gv zs os vs := by
 have HA : Hid (IntsAt w a zs) := hA
 have HO : Hid (IntsAt w ao os) := hO
 have HV : Hid (IntsAt w av vs) := hV
 have HLO : Hid _ := hlo
 have HLV : Hid _ := hlv
 clear hA hO hV hlo hlv
 go_enter Tryz.func192, Tryz.ntmps192
 go_wp2_with fail
 have B0 : Hid (Below w.heap.size w (((w.alloc (Obj.cells #[Value.int .i64 n, Value.slice a zs.length cap, Value.slice ao ko co, Value.slice av kv cv, Value.int .i64 fine] 206)).alloc (Obj.cells #[Value.int .i64 0, Value.slice none 0 0, Value.slice none 0 0, Value.slice none 0 0, Value.int .i64 0] 78)).alloc (Obj.cells #[Value.int .i64 0, Value.slice none 0 0, Value.slice none 0 0, Value.slice none 0 0, Value.int .i64 0] 78))) :=
  (((Below.refl _ _).alloc (Nat.le_refl _) _).alloc (by simp) _).alloc (by simp <;> omega) _
 have R0 : Hid ((((w.alloc (Obj.cells #[Value.int .i64 n, Value.slice a zs.length cap, Value.slice ao ko co, Value.slice av kv cv, Value.int .i64 fine] 206)).alloc (Obj.cells #[Value.int .i64 0, Value.slice none 0 0, Value.slice none 0 0, Value.slice none 0 0, Value.int .i64 0] 78)).alloc (Obj.cells #[Value.int .i64 0, Value.slice none 0 0, Value.slice none 0 0, Value.slice none 0 0, Value.int .i64 0] 78)).heap[w.heap.size]? = some (.cells #[Value.int .i64 n, Value.slice a zs.length cap, Value.slice ao ko co, Value.slice av kv cv, Value.int .i64 fine] 206 (0, 0))) := by
  show _ = _
  rw [heap_alloc_old _ _ (by simp <;> omega)]
  exact heap_alloc2_old _ _ _
 have R1 : Hid ((((w.alloc (Obj.cells #[Value.int .i64 n, Value.slice a zs.length cap, Value.slice ao ko co, Value.slice av kv cv, Value.int .i64 fine] 206)).alloc (Obj.cells #[Value.int .i64 0, Value.slice none 0 0, Value.slice none 0 0, Value.slice none 0 0, Value.int .i64 0] 78)).alloc (Obj.cells #[Value.int .i64 0, Value.slice none 0 0, Value.slice none 0 0, Value.slice none 0 0, Value.int .i64 0] 78)).heap[w.heap.size + 1]? = some (.cells #[Value.int .i64 0, Value.slice none 0 0, Value.slice none 0 0, Value.slice none 0 0, Value.int .i64 0] 78 (0, 0))) := by
  show _ = _
  rw [heap_alloc_old _ _ (by simp <;> omega)]
  exact heap_alloc2_new _ _ _
 have R2 : Hid ((((w.alloc (Obj.cells #[Value.int .i64 n, Value.slice a zs.length cap, Value.slice ao ko co, Value.slice av kv cv, Value.int .i64 fine] 206)).alloc (Obj.cells #[Value.int .i64 0, Value.slice none 0 0, Value.slice none 0 0, Value.slice none 0 0, Value.int .i64 0] 78)).alloc (Obj.cells #[Value.int .i64 0, Value.slice none 0 0, Value.slice none 0 0, Value.slice none 0 0, Value.int .i64 0] 78)).heap[w.heap.size + 1 + 1]? = some (.cells #[Value.int .i64 0, Value.slice none 0 0, Value.slice none 0 0, Value.slice none 0 0, Value.int .i64 0] 78 (0, 0))) := by
  have := heap_alloc_new ((w.alloc (Obj.cells #[Value.int .i64 n, Value.slice a zs.length cap, Value.slice ao ko co, Value.slice av kv cv, Value.int .i64 fine] 206)).alloc (Obj.cells #[Value.int .i64 0, Value.slice none 0 0, Value.slice none 0 0, Value.slice none 0 0, Value.int .i64 0] 78)) (Obj.cells #[Value.int .i64 0, Value.slice none 0 0, Value.slice none 0 0, Value.slice none 0 0, Value.int .i64 0] 78)
  show _ = _
  simpa using this
 have T0 : Hid (TC w (((w.alloc (Obj.cells #[Value.int .i64 n, Value.slice a zs.length cap, Value.slice ao ko co, Value.slice av kv cv, Value.int .i64 fine] 206)).alloc (Obj.cells #[Value.int .i64 0, Value.slice none 0 0, Value.slice none 0 0, Value.slice none 0 0, Value.int .i64 0] 78)).alloc (Obj.cells #[Value.int .i64 0, Value.slice none 0 0, Value.slice none 0 0, Value.slice none 0 0, Value.int .i64 0] 78)) #[Value.int .i64 n, Value.slice a zs.length cap, Value.slice ao ko co, Value.slice av kv cv, Value.int .i64 fine] #[Value.int .i64 0, Value.slice none 0 0, Value.slice none 0 0, Value.slice none 0 0, Value.int .i64 0] #[Value.int .i64 0, Value.slice none 0 0, Value.slice none 0 0, Value.slice none 0 0, Value.int .i64 0]) := ⟨B0.out, R0.out, R1.out, R2.out⟩
 clear B0 R0 R1 R2
 generalize ((w.alloc (Obj.cells #[Value.int .i64 n, Value.slice a zs.length cap, Value.slice ao ko co, Value.slice av kv cv, Value.int .i64 fine] 206)).alloc (Obj.cells #[Value.int .i64 0, Value.slice none 0 0, Value.slice none 0 0, Value.slice none 0 0, Value.int .i64 0] 78)).alloc (Obj.cells #[Value.int .i64 0, Value.slice none 0 0, Value.slice none 0 0, Value.slice none 0 0, Value.int .i64 0] 78) = W0 at *
 have hW0 := row_lt T0.out.2.2.2
 -- the times
 refine (toMat_any n a cap zs _ (HA.out.below T0.out.1) hlt).mono ?_
 rintro e w1 ⟨g, hg0, rfl, hb, hg⟩
 have T1 : Hid _ := T0.out.below hb
 have hg1 : w.heap.size + 1 + 1 < g := by omega
 have G1 : Hid _ := hg
 clear T0 hb hg hg0 hW0 W0
 obtain ⟨c0, c1, c2, c3, c4⟩ := cells5 T1.out.2.1
 obtain ⟨x0, x1, x2, x3, x4⟩ := cells5 T1.out.2.2.2
 have f0 := fun i => frozen_of_row _ _ i _ _ T1.out.2.2.2
 go_wp2_with fail
 have T2 : Hid (TC w ((w1.setCell ⟨w.heap.size + 1 + 1, 0, none⟩ (.int .i64 n)).setCell ⟨w.heap.size + 1 + 1, 1, none⟩ (.slice (some ⟨g, 0, none⟩) zs.length zs.length)) #[Value.int .i64 n, Value.slice a zs.length cap, Value.slice ao ko co, Value.slice av kv cv, Value.int .i64 fine] #[Value.int .i64 0, Value.slice none 0 0, Value.slice none 0 0, Value.slice none 0 0, Value.int .i64 0] #[Value.int .i64 n, Value.slice (some ⟨g, 0, none⟩) zs.length zs.length, Value.slice none 0 0, Value.slice none 0 0, Value.int .i64 0]) := by
  have := TC.set (TC.set T1.out 0 (.int .i64 n)) 1 (.slice (some ⟨g, 0, none⟩) zs.length zs.length)
  change TC w _ _ _ _
  simpa using this
 have G2 : Hid (((w1.setCell ⟨w.heap.size + 1 + 1, 0, none⟩ (.int .i64 n)).setCell ⟨w.heap.size + 1 + 1, 1, none⟩ (.slice (some ⟨g, 0, none⟩) zs.length zs.length)).heap[g]? = _) := row_set (row_set G1.out (by omega)) (by omega)
 clear T1 G1 c0 c1 c2 c3 c4 x0 x1 x2 x3 x4 f0
 generalize (w1.setCell ⟨w.heap.size + 1 + 1, 0, none⟩ (.int .i64 n)).setCell ⟨w.heap.size + 1 + 1, 1, none⟩ (.slice (some ⟨g, 0, none⟩) zs.length zs.length) = W2 at *
 -- the orders
 have hW2 := row_lt T2.out.2.2.2
 refine (toOrderS_any ao ko co os _ (HO.out.below T2.out.1) HLO.out hko).mono ?_
 rintro e w3 ⟨rfl, hb, hg⟩
 have T3 : Hid _ := T2.out.below hb
 have G3 : Hid _ := below_row hb (row_lt G2.out) G2.out
 have O3 : Hid _ := hg
 obtain ⟨go, HGO⟩ := nmd W2.heap.size
 rw [HGO.out] at O3 hW2 ⊢
 clear T2 G2 hb hg HGO W2 w1
 obtain ⟨c0, c1, c2, c3, c4⟩ := cells5 T3.out.2.1
 obtain ⟨x0, x1, x2, x3, x4⟩ := cells5 T3.out.2.2.2
 have f0 := fun i => frozen_of_row _ _ i _ _ T3.out.2.2.2
 go_wp2_with fail
 have T4 : Hid (TC w (w3.setCell ⟨w.heap.size + 1 + 1, 2, none⟩ (.slice (some ⟨go, 0, none⟩) ko ko)) #[Value.int .i64 n, Value.slice a zs.length cap, Value.slice ao ko co, Value.slice av kv cv, Value.int .i64 fine] #[Value.int .i64 0, Value.slice none 0 0, Value.slice none 0 0, Value.slice none 0 0, Value.int .i64 0] #[Value.int .i64 n, Value.slice (some ⟨g, 0, none⟩) zs.length zs.length, Value.slice (some ⟨go, 0, none⟩) ko ko, Value.slice none 0 0, Value.int .i64 0]) := by
  have := TC.set T3.out 2 (.slice (some ⟨go, 0, none⟩) ko ko)
  change TC w _ _ _ _
  simpa using this
 have G4 : Hid ((w3.setCell ⟨w.heap.size + 1 + 1, 2, none⟩ (.slice (some ⟨go, 0, none⟩) ko ko)).heap[g]? = _) := row_set G3.out (by omega)
 have O4 : Hid ((w3.setCell ⟨w.heap.size + 1 + 1, 2, none⟩ (.slice (some ⟨go, 0, none⟩) ko ko)).heap[go]? = _) := row_set O3.out (by omega)
 clear T3 G3 O3 c0 c1 c2 c3 c4 x0 x1 x2 x3 x4 f0
 generalize w3.setCell ⟨w.heap.size + 1 + 1, 2, none⟩ (.slice (some ⟨go, 0, none⟩) ko ko) = W4 at *
 -- the vehicles
 have hW4 := row_lt T4.out.2.2.2
 refine (toVehicleS_any av kv cv vs _ (HV.out.below T4.out.1) HLV.out hkv).mono ?_
 rintro e w5 ⟨rfl, hb, hg⟩
 have T5 : Hid _ := T4.out.below hb
 have G5 : Hid _ := below_row hb (row_lt G4.out) G4.out
 have O5 : Hid _ := below_row hb (row_lt O4.out) O4.out
 have V5 : Hid _ := hg
 obtain ⟨gv, HGV⟩ := nmd W4.heap.size
 rw [HGV.out] at V5 hW4 ⊢
 clear T4 G4 O4 hb hg HGV W4 w3
 obtain ⟨c0, c1, c2, c3, c4⟩ := cells5 T5.out.2.1
 obtain ⟨z0, z1, z2, z3, z4⟩ := cells5 T5.out.2.2.1
 obtain ⟨x0, x1, x2, x3, x4⟩ := cells5 T5.out.2.2.2
 have f0 := fun i => frozen_of_row _ _ i _ _ T5.out.2.2.2
 have f1 := fun i => frozen_of_row _ _ i _ _ T5.out.2.2.1
 go_wp2
 refine bodyPost_ret (v := .agg #[.int .i64 n, .slice (some ⟨g, 0, none⟩) zs.length zs.length, .slice (some ⟨go, 0, none⟩) ko ko, .slice (some ⟨gv, 0, none⟩) kv kv, .int .i64 fine]) (by simp [results, Tryz.results192, go_sem, z0, z1, z2, z3, z4]) rfl ⟨g, go, gv, by omega, by omega, by omega, rfl, ?_, ?_⟩
 · repeat (first | with_reducible exact T5.out.1 | refine Below.setCell ?_ (by simp <;> omega) _)
 · refine ⟨?_, ?_, ?_⟩
   · repeat (first | with_reducible exact G5.out | refine row_set ?_ (by omega))
   · repeat (first | with_reducible exact O5.out | refine row_set ?_ (by omega))
   · repeat (first | with_reducible exact V5.out | refine row_set ?_ (by omega))
set_option maxHeartbeats 400000 in
theorem szRoute_any (n : Int) (a : Option Addr) (len cap : Nat) (left : Int) (w : World) (h0 : 0 <= left) (h1 : left <= 1048576) (hlen : len <= 9223372036854775807) :
 Calls Tryz.prog 226 #[.agg #[.int .i64 n, .slice a len cap], .int .i64 left] w fun e w' => e = .returned (.int .i64 (if left < len then -1 else left - len)) /\ Below w.heap.size w w' := by
 by_cases hlt : left < len
 · rw [if_pos hlt]
   go_enter Tryz.func226, Tryz.ntmps226
   go_wp2_with (go_at_call 216; refine (szInts_any _ _ _ _ _ h0 h1 hlen).mono ?_; rintro e w' ⟨rfl, rfl⟩)
   go_ret
   exact ⟨by simp, (Below.refl _ _).alloc (Nat.le_refl _) _⟩
 · rw [if_neg hlt]
   go_enter Tryz.func226, Tryz.ntmps226
   go_wp2_with (go_at_call 216; refine (szInts_any _ _ _ _ _ h0 h1 hlen).mono ?_; rintro e w' ⟨rfl, rfl⟩)
   go_ret
   exact ⟨by simp, (Below.refl _ _).alloc (Nat.le_refl _) _⟩
set_option maxHeartbeats 400000 in
theorem toRoute_any (n : Int) (a : Option Addr) (cap : Nat) (zs : List Int) (w : World) (hA : IntsAt w a zs) (hlen : zs.length <= 1048576) :
 Calls Tryz.prog 229 #[.agg #[.int .i64 n, .slice a zs.length cap]] w fun e w' => ∃ g, w.heap.size <= g /\ e = .returned (.agg #[.int .i64 n, .slice (some ⟨g, 0, none⟩) zs.length zs.length]) /\ Below w.heap.size w w' /\ w'.heap[g]? = some (.cells (cellsOf zs) 2 (0, 0)) := by
 have HA : Hid (IntsAt w a zs) := hA
 clear hA
 go_enter Tryz.func229, Tryz.ntmps229
 go_wp2_with fail
 have HB0 : Hid (Below w.heap.size w (((w.alloc (Obj.cells #[Value.int .i64 n, Value.slice a zs.length cap] 284)).alloc (Obj.cells #[Value.int .i64 0, Value.slice none 0 0] 134)).alloc (Obj.cells #[Value.int .i64 n, Value.slice none 0 0] 134))) :=
  (((Below.refl _ _).alloc (Nat.le_refl _) _).alloc (by simp) _).alloc (by simp; omega) _
 refine (toInts_any a cap zs _ (HA.out.below HB0.out) hlen).mono ?_
 rintro e w1 ⟨rfl, hb, hsz, hg⟩
 obtain ⟨hc, hf⟩ := bcell hb
 have HB1 : Hid _ := hb
 have HG : Hid _ := hg
 clear hb hg
 simp at hsz
 go_wp2
 refine bodyPost_ret (v := .agg #[.int .i64 n, .slice (some ⟨w.heap.size + 1 + 1 + 1, 0, none⟩) zs.length zs.length]) (by simp [results, Tryz.results229, go_sem, hc]) rfl ⟨w.heap.size + 1 + 1 + 1, by omega, rfl, ?_, ?_⟩
 · exact (((HB0.out.trans (HB1.out.mono (by simp; omega))).setCell (by simp; omega) _).setCell (by simp) _).setCell (by simp) _
 · rw [heap_setCell_other _ _ _ _ (by simp <;> omega), heap_setCell_other _ _ _ _ (by simp <;> omega), heap_setCell_other _ _ _ _ (by simp <;> omega)]
   simpa using HG.out
set_option maxHeartbeats 400000 in
theorem eqRoute_same (n : Int) (a b : Option Addr) (c1 c2 : Nat) (xs : List Int) (w : World) (hA : IntsAt w a xs) (hB : IntsAt w b xs) (hl1 : xs.length <= 1125899906842624) :
 Calls Tryz.prog 101 #[.agg #[.int .i64 n, .slice a xs.length c1], .agg #[.int .i64 n, .slice b xs.length c2]] w fun e w' => e = .returned (.bool true) /\ Below w.heap.size w w' := by
 have HB0 : Hid (Below w.heap.size w ((w.alloc (Obj.cells #[Value.int .i64 n, Value.slice a xs.length c1] 134)).alloc (Obj.cells #[Value.int .i64 n, Value.slice b xs.length c2] 134))) :=
  ((Below.refl _ _).alloc (Nat.le_refl _) _).alloc (by simp) _
 have HA : Hid (IntsAt w a xs) := hA
 have HB : Hid (IntsAt w b xs) := hB
 clear hA hB
 have hnn : (n != n) = false := by simp
 go_enter Tryz.func101, Tryz.ntmps101
 go_wp2_with fail
 refine (eqInts_any a b c1 c2 xs xs _ (HA.out.below HB0.out) (HB.out.below HB0.out) hl1).mono ?_
 rintro e w1 ⟨rfl, hb⟩
 have HB1 : Hid _ := hb
 clear hb
 have hd : decide (xs = xs) = true := by simp
 rw [hd]
 clear hd
 go_wp2
 go_ret
 exact ⟨rfl, HB0.out.trans (HB1.out.mono (by simp <;> omega))⟩
theorem grown_set (W : World) (g i : Nat) (v : Value) : W.grownBy (W.setCell ⟨g, i, none⟩ v) (some g) :=
 ⟨rfl, rfl, rfl, by simp [World.setCell], fun b _ hne => heap_setCell_other W ⟨g, i, none⟩ b v (fun e => hne (by rw [e]))⟩
theorem grown_trans {w w1 w2 : World} {g : Nat} (h1 : w.grownBy w1 (some g)) (h2 : w1.grownBy w2 (some g)) : w.grownBy w2 (some g) :=
 ⟨h2.os.trans h1.os, h2.tape.trans h1.tape, h2.output.trans h1.output, Nat.le_trans h1.size h2.size, fun b hb hne => (h2.block b (Nat.lt_of_lt_of_le hb h1.size) hne).trans (h1.block b hb hne)⟩
theorem grown_refl (w : World) (g : Nat) : w.grownBy w (some g) := ⟨rfl, rfl, rfl, Nat.le_refl _, fun _ _ _ => rfl⟩
theorem noneTo6_step {zs : List Int} {id : Int} {k : Nat} (h : ∀ j, j < k -> og6 zs j 0 ≠ id) (hk : og6 zs k 0 ≠ id) : ∀ j, j < k + 1 -> og6 zs j 0 ≠ id := by
 intro j hj
 by_cases e : j = k
 · rw [e]; exact hk
 · exact h j (by omega)
set_option maxHeartbeats 1000000 in
theorem l2At_any (n fine id : Int) (a ao av : Option Addr) (lt cap ko co kv cv : Nat) (zs : List Int) (w : World) (hA : IntsAt w ao zs) (hl : zs.length = ko * 6) (hlen : ko <= 9223372036854775807) :
 Calls Tryz.prog 124 #[.agg #[.int .i64 n, .slice a lt cap, .slice ao ko co, .slice av kv cv, .int .i64 fine], .int .i64 id] w fun e w' => e = .returned (.tuple #[.agg #[.int .i64 (fnd6F zs ko id 0), .int .i64 (fnd6F zs ko id 1), .int .i64 (fnd6F zs ko id 2), .int .i64 (fnd6F zs ko id 3), .int .i64 (fnd6F zs ko id 4), .int .i64 (fnd6F zs ko id 5)], .bool (fnd6T zs ko id)]) /\ Below w.heap.size w w' := by
 have HB0 : Hid (Below w.heap.size w ((w.alloc (Obj.cells #[Value.int .i64 n, Value.slice a lt cap, Value.slice ao ko co, Value.slice av kv cv, Value.int .i64 fine] 78)).alloc (Obj.cells #[Value.int .i64 0, Value.int .i64 0, Value.int .i64 0, Value.int .i64 0, Value.int .i64 0, Value.int .i64 0] 146))) := ((Below.refl _ _).alloc (Nat.le_refl _) _).alloc (by simp) _
 have HA : Hid _ := hA
 have HL : Hid _ := hl
 clear hA hl
 go_enter Tryz.func124, Tryz.ntmps124
 go_wp2_with fail
 have P0 : Hid (((w.alloc (Obj.cells #[Value.int .i64 n, Value.slice a lt cap, Value.slice ao ko co, Value.slice av kv cv, Value.int .i64 fine] 78)).alloc (Obj.cells #[Value.int .i64 0, Value.int .i64 0, Value.int .i64 0, Value.int .i64 0, Value.int .i64 0, Value.int .i64 0] 146)).heap[w.heap.size]? = _) := heap_alloc2_old _ _ _
 have Q0 : Hid (((w.alloc (Obj.cells #[Value.int .i64 n, Value.slice a lt cap, Value.slice ao ko co, Value.slice av kv cv, Value.int .i64 fine] 78)).alloc (Obj.cells #[Value.int .i64 0, Value.int .i64 0, Value.int .i64 0, Value.int .i64 0, Value.int .i64 0, Value.int .i64 0] 146)).heap[w.heap.size + 1]? = _) := heap_alloc2_new _ _ _
 generalize (w.alloc (Obj.cells #[Value.int .i64 n, Value.slice a lt cap, Value.slice ao ko co, Value.slice av kv cv, Value.int .i64 fine] 78)).alloc (Obj.cells #[Value.int .i64 0, Value.int .i64 0, Value.int .i64 0, Value.int .i64 0, Value.int .i64 0, Value.int .i64 0] 146) = W at *
 obtain ⟨c0, c1, c2, c3, c4⟩ := cells5 P0.out
 obtain ⟨q0, q1, q2, q3, q4, q5⟩ := cells6 Q0.out
 have f0 := fun i => frozen_of_row _ _ i _ _ Q0.out
 go_loop [6] (fun t => ∃ k : Nat, k <= ko /\ t = .int .i64 k /\ ∀ j, j < k -> og6 zs j 0 ≠ id) (fun t => ko - (intOf t).toNat)
 case atStart => exact ⟨0, Nat.zero_le _, rfl, fun j hj => by omega⟩
 case round =>
  obtain ⟨k, hk, rfl, hno⟩ := hrel
  have HN : Hid _ := hno
  clear hno
  by_cases hlt : k < ko
  · obtain ⟨b, off, rfl, hcs⟩ := IntsAt.some (IntsAt.below HA.out HB0.out) (j := k * 6) (by rw [HL.out]; omega)
    obtain ⟨r0, r1, r2, r3, r4, r5⟩ := row6_at hcs HL.out k hlt
    clear hcs
    obtain ⟨o0, H0⟩ := nmd (og6 zs k 0)
    obtain ⟨o1, H1⟩ := nmd (og6 zs k 1)
    obtain ⟨o2, H2⟩ := nmd (og6 zs k 2)
    obtain ⟨o3, H3⟩ := nmd (og6 zs k 3)
    obtain ⟨o4, H4⟩ := nmd (og6 zs k 4)
    obtain ⟨o5, H5⟩ := nmd (og6 zs k 5)
    rw [H0.out] at r0
    rw [H1.out] at r1
    rw [H2.out] at r2
    rw [H3.out] at r3
    rw [H4.out] at r4
    rw [H5.out] at r5
    by_cases he : o0 = id
    · have heb : (o0 == id) = true := by simp [he]
      have HF : Hid _ := fnd6_at hlt (by rw [H0.out]; exact he) HN.out
      clear he
      go_wp2
      refine bodyPost_ret (v := .tuple #[.agg #[.int .i64 o0, .int .i64 o1, .int .i64 o2, .int .i64 o3, .int .i64 o4, .int .i64 o5], .bool true]) (by simp [results, Tryz.results124, go_sem, q0, q1, q2, q3, q4, q5]) rfl ⟨?_, ?_⟩
      · rw [fnd6T_at HF.out]; simp only [fnd6F_at HF.out, H0.out, H1.out, H2.out, H3.out, H4.out, H5.out]
      · repeat (first | with_reducible exact HB0.out | refine Below.setCell ?_ (by simp <;> omega) _)
    · have heb : (o0 == id) = false := by simp [he]
      have HS : Hid _ := noneTo6_step HN.out (by rw [H0.out]; exact he)
      clear he
      go_wp2
      refine ⟨⟨k + 1, by omega, by go_num, HS.out⟩, by simp [intOf]; omega⟩
  · have hkx : k = ko := by omega
    have HF : Hid _ := fnd6_none (hkx ▸ HN.out)
    clear hkx
    go_wp2
    refine bodyPost_ret (v := .tuple #[.agg #[.int .i64 0, .int .i64 0, .int .i64 0, .int .i64 0, .int .i64 0, .int .i64 0], .bool false]) (by simp [results, Tryz.results124, go_sem, q0, q1, q2, q3, q4, q5]) rfl ⟨?_, ?_⟩
    · rw [fnd6T_none HF.out]; simp only [fnd6F_none HF.out]
    · repeat (first | with_reducible exact HB0.out | refine Below.setCell ?_ (by simp <;> omega) _)
theorem noneTo5_step {zs : List Int} {id : Int} {k : Nat} (h : ∀ j, j < k -> og5 zs j 0 ≠ id) (hk : og5 zs k 0 ≠ id) : ∀ j, j < k + 1 -> og5 zs j 0 ≠ id := by
 intro j hj
 by_cases e : j = k
 · rw [e]; exact hk
 · exact h j (by omega)
set_option maxHeartbeats 1000000 in
theorem l2Car_any (n fine id : Int) (a ao av : Option Addr) (lt cap ko co kv cv : Nat) (zs : List Int) (w : World) (hA : IntsAt w av zs) (hl : zs.length = kv * 5) (hlen : kv <= 9223372036854775807) :
 Calls Tryz.prog 139 #[.agg #[.int .i64 n, .slice a lt cap, .slice ao ko co, .slice av kv cv, .int .i64 fine], .int .i64 id] w fun e w' => e = .returned (.tuple #[.agg #[.int .i64 (fnd5F zs kv id 0), .int .i64 (fnd5F zs kv id 1), .int .i64 (fnd5F zs kv id 2), .int .i64 (fnd5F zs kv id 3), .int .i64 (fnd5F zs kv id 4)], .bool (fnd5T zs kv id)]) /\ Below w.heap.size w w' := by
 have HB0 : Hid (Below w.heap.size w ((w.alloc (Obj.cells #[Value.int .i64 n, Value.slice a lt cap, Value.slice ao ko co, Value.slice av kv cv, Value.int .i64 fine] 78)).alloc (Obj.cells #[Value.int .i64 0, Value.int .i64 0, Value.int .i64 0, Value.int .i64 0, Value.int .i64 0] 137))) := ((Below.refl _ _).alloc (Nat.le_refl _) _).alloc (by simp) _
 have HA : Hid _ := hA
 have HL : Hid _ := hl
 clear hA hl
 go_enter Tryz.func139, Tryz.ntmps139
 go_wp2_with fail
 have P0 : Hid (((w.alloc (Obj.cells #[Value.int .i64 n, Value.slice a lt cap, Value.slice ao ko co, Value.slice av kv cv, Value.int .i64 fine] 78)).alloc (Obj.cells #[Value.int .i64 0, Value.int .i64 0, Value.int .i64 0, Value.int .i64 0, Value.int .i64 0] 137)).heap[w.heap.size]? = _) := heap_alloc2_old _ _ _
 have Q0 : Hid (((w.alloc (Obj.cells #[Value.int .i64 n, Value.slice a lt cap, Value.slice ao ko co, Value.slice av kv cv, Value.int .i64 fine] 78)).alloc (Obj.cells #[Value.int .i64 0, Value.int .i64 0, Value.int .i64 0, Value.int .i64 0, Value.int .i64 0] 137)).heap[w.heap.size + 1]? = _) := heap_alloc2_new _ _ _
 generalize (w.alloc (Obj.cells #[Value.int .i64 n, Value.slice a lt cap, Value.slice ao ko co, Value.slice av kv cv, Value.int .i64 fine] 78)).alloc (Obj.cells #[Value.int .i64 0, Value.int .i64 0, Value.int .i64 0, Value.int .i64 0, Value.int .i64 0] 137) = W at *
 obtain ⟨c0, c1, c2, c3, c4⟩ := cells5 P0.out
 obtain ⟨q0, q1, q2, q3, q4⟩ := cells5 Q0.out
 have f0 := fun i => frozen_of_row _ _ i _ _ Q0.out
 go_loop [6] (fun t => ∃ k : Nat, k <= kv /\ t = .int .i64 k /\ ∀ j, j < k -> og5 zs j 0 ≠ id) (fun t => kv - (intOf t).toNat)
 case atStart => exact ⟨0, Nat.zero_le _, rfl, fun j hj => by omega⟩
 case round =>
  obtain ⟨k, hk, rfl, hno⟩ := hrel
  have HN : Hid _ := hno
  clear hno
  by_cases hlt : k < kv
  · obtain ⟨b, off, rfl, hcs⟩ := IntsAt.some (IntsAt.below HA.out HB0.out) (j := k * 5) (by rw [HL.out]; omega)
    obtain ⟨r0, r1, r2, r3, r4⟩ := row5_at hcs HL.out k hlt
    clear hcs
    obtain ⟨o0, H0⟩ := nmd (og5 zs k 0)
    obtain ⟨o1, H1⟩ := nmd (og5 zs k 1)
    obtain ⟨o2, H2⟩ := nmd (og5 zs k 2)
    obtain ⟨o3, H3⟩ := nmd (og5 zs k 3)
    obtain ⟨o4, H4⟩ := nmd (og5 zs k 4)
    rw [H0.out] at r0
    rw [H1.out] at r1
    rw [H2.out] at r2
    rw [H3.out] at r3
    rw [H4.out] at r4
    by_cases he : o0 = id
    · have heb : (o0 == id) = true := by simp [he]
      have HF : Hid _ := fnd5_at hlt (by rw [H0.out]; exact he) HN.out
      clear he
      go_wp2
      refine bodyPost_ret (v := .tuple #[.agg #[.int .i64 o0, .int .i64 o1, .int .i64 o2, .int .i64 o3, .int .i64 o4], .bool true]) (by simp [results, Tryz.results139, go_sem, q0, q1, q2, q3, q4]) rfl ⟨?_, ?_⟩
      · rw [fnd5T_at HF.out]; simp only [fnd5F_at HF.out, H0.out, H1.out, H2.out, H3.out, H4.out]
      · repeat (first | with_reducible exact HB0.out | refine Below.setCell ?_ (by simp <;> omega) _)
    · have heb : (o0 == id) = false := by simp [he]
      have HS : Hid _ := noneTo5_step HN.out (by rw [H0.out]; exact he)
      clear he
      go_wp2
      refine ⟨⟨k + 1, by omega, by go_num, HS.out⟩, by simp [intOf]; omega⟩
  · have hkx : k = kv := by omega
    have HF : Hid _ := fnd5_none (hkx ▸ HN.out)
    clear hkx
    go_wp2
    refine bodyPost_ret (v := .tuple #[.agg #[.int .i64 0, .int .i64 0, .int .i64 0, .int .i64 0, .int .i64 0], .bool false]) (by simp [results, Tryz.results139, go_sem, q0, q1, q2, q3, q4]) rfl ⟨?_, ?_⟩
    · rw [fnd5T_none HF.out]; simp only [fnd5F_none HF.out]
    · repeat (first | with_reducible exact HB0.out | refine Below.setCell ?_ (by simp <;> omega) _)
theorem keep_set {W : World} {b o k i : Nat} {v x : Value} (h : W.cell? ⟨b, o, none⟩ = some x) (hne : b ≠ k) : (W.setCell ⟨k, i, none⟩ v).cell? ⟨b, o, none⟩ = some x := by
 rw [World.cell?_of_block (w := W) (heap_setCell_other W ⟨k, i, none⟩ b v hne)]; exact h
theorem row_set' {W : World} {g k i : Nat} {o : Obj} {v : Value} (h : W.heap[g]? = some o) (hne : g ≠ k) : (W.setCell ⟨k, i, none⟩ v).heap[g]? = some o := by
 rw [heap_setCell_other _ _ _ _ (by simpa using hne)]; exact h
theorem row_set6 {W : World} {g : Nat} {z0 z1 z2 z3 z4 z5 o0 o1 o2 o3 o4 o5 : Value} {T : TypeId} (h : W.heap[g]? = some (.cells #[z0, z1, z2, z3, z4, z5] T (0, 0))) :
 ((((((W.setCell ⟨g, 0, none⟩ o0).setCell ⟨g, 1, none⟩ o1).setCell ⟨g, 2, none⟩ o2).setCell ⟨g, 3, none⟩ o3).setCell ⟨g, 4, none⟩ o4).setCell ⟨g, 5, none⟩ o5).heap[g]? = some (.cells #[o0, o1, o2, o3, o4, o5] T (0, 0)) :=
 heap_setCell_same _ _ _ _ _ _ (heap_setCell_same _ _ _ _ _ _ (heap_setCell_same _ _ _ _ _ _ (heap_setCell_same _ _ _ _ _ _ (heap_setCell_same _ _ _ _ _ _ (heap_setCell_same _ _ _ _ _ _ h)))))
theorem ints_cell {w : World} {b off : Nat} {zs : List Int} (h : IntsAt w (some ⟨b, off, none⟩) zs) {j : Nat} (hj : j < zs.length) {v : Int} (hv : zs.getD j 0 = v) : w.cell? ⟨b, off + j, none⟩ = some (.int .i64 v) := by
 obtain ⟨b', off', e, hc⟩ := h j hj
 simp at e
 obtain ⟨rfl, rfl⟩ := e
 rw [hc, hv]
def CR (w W : World) (cs rs : Array Value) : Prop := Below w.heap.size w W /\ W.heap[w.heap.size]? = some (.cells cs 78 (0, 0)) /\ W.heap[w.heap.size + 1]? = some (.cells rs 134 (0, 0))
theorem CR.new (w : World) (cs rs : Array Value) : CR w ((w.alloc (.cells cs 78)).alloc (.cells rs 134)) cs rs :=
 ⟨((Below.refl _ _).alloc (Nat.le_refl _) _).alloc (by simp) _, heap_alloc2_old _ _ _, heap_alloc2_new _ _ _⟩
theorem CR.below {w W W' : World} {cs rs : Array Value} (h : CR w W cs rs) (hb : Below W.heap.size W W') : CR w W' cs rs :=
 ⟨h.1.trans (hb.mono h.1.size), below_row hb (row_lt h.2.1) h.2.1, below_row hb (row_lt h.2.2) h.2.2⟩
theorem CR.drew {w W : World} {cs rs : Array Value} (h : CR w W cs rs) : CR w W.drew cs rs := h.below (Below.refl _ _).drew
theorem CR.alloc {w W : World} {cs rs : Array Value} (h : CR w W cs rs) (o : Obj) : CR w (W.alloc o) cs rs := h.below ((Below.refl _ _).alloc (Nat.le_refl _) _)
theorem CR.set {w W : World} {cs rs : Array Value} (h : CR w W cs rs) {k i : Nat} {v : Value} (hk : w.heap.size + 1 < k) : CR w (W.setCell ⟨k, i, none⟩ v) cs rs :=
 ⟨h.1.setCell (by simp; omega) _, row_set' h.2.1 (by omega), row_set' h.2.2 (by omega)⟩
theorem CR.big {w W : World} {cs rs : Array Value} (h : CR w W cs rs) : w.heap.size + 1 < W.heap.size := row_lt h.2.2
theorem noneToI6_step {zs : List Int} {id : Int} {k : Nat} (h : ∀ j, j < k -> og6 zs j 0 ≠ id) (hk : og6 zs k 0 ≠ id) : ∀ j, j < k + 1 -> og6 zs j 0 ≠ id := by
 intro j hj
 by_cases e : j = k
 · rw [e]; exact hk
 · exact h j (by omega)
theorem noTo_step {zs : List Int} {id : Int} {k : Nat} (h : ∀ j, j < k -> zs.getD j 0 ≠ id) (hk : zs.getD k 0 ≠ id) : ∀ j, j < k + 1 -> zs.getD j 0 ≠ id := by
 intro j hj
 by_cases e : j = k
 · rw [e]; exact hk
 · exact h j (by omega)
set_option maxHeartbeats 400000 in
theorem l3Has_any (a : Option Addr) (m cap : Nat) (id : Int) (zs : List Int) (w : World) (hA : IntsAt w a zs) (hm : m <= zs.length) (hlen : m <= 9223372036854775807) :
 Calls Tryz.prog 123 #[.slice a m cap, .int .i64 id] w fun e w' => e = .returned (.bool (hasTo zs m id)) /\ w' = w := by
 have HA : Hid _ := hA
 clear hA
 obtain ⟨r, HR⟩ := nmd (hasTo zs m id)
 rw [HR.out]
 go_enter Tryz.func123, Tryz.ntmps123
 go_wp2_with fail
 go_loop [5] (fun t => ∃ k : Nat, k <= m /\ t = .int .i64 k /\ ∀ j, j < k -> zs.getD j 0 ≠ id) (fun t => m - (intOf t).toNat)
 case atStart => exact ⟨0, Nat.zero_le _, rfl, fun j hj => by omega⟩
 case round =>
  obtain ⟨k, hk, rfl, hno⟩ := hrel
  have HN : Hid _ := hno
  clear hno
  by_cases hlt : k < m
  · obtain ⟨b, off, rfl, hcs⟩ := IntsAt.some HA.out (j := k) (by omega)
    have ct := hcs k (by omega)
    clear hcs
    obtain ⟨t, HT⟩ := nmd (zs.getD k 0)
    rw [HT.out] at ct
    by_cases he : t = id
    · have heb : (t == id) = true := by simp [he]
      have HV : Hid _ := HR.symm.trans (hasTo_yes hlt (HT.trans he))
      clear he
      go_wp2
      go_ret
      exact ⟨ret_bool HV.symm, rfl⟩
    · have heb : (t == id) = false := by simp [he]
      have HS : Hid _ := noTo_step HN.out (by rw [HT.out]; exact he)
      clear he
      go_wp2
      exact ⟨⟨k + 1, by omega, by go_num, HS.out⟩, by simp [intOf]; omega⟩
  · have hkl : k = m := by omega
    have HV : Hid _ := HR.symm.trans (hasTo_no (hkl ▸ HN.out))
    clear hkl
    go_wp2
    go_ret
    exact ⟨ret_bool HV.symm, rfl⟩
theorem l3Has_is (a : Option Addr) (m cap : Nat) (id : Int) (zs : List Int) (w : World) (v : Bool) (hv : hasTo zs m id = v) (hA : IntsAt w a zs) (hm : m <= zs.length) (hlen : m <= 9223372036854775807) :
 Calls Tryz.prog 123 #[.slice a m cap, .int .i64 id] w fun e w' => e = .returned (.bool v) /\ w' = w := hv ▸ l3Has_any a m cap id zs w hA hm hlen
def idxV (zs : List Int) (m : Nat) (id : Int) : Int := match (List.range m).find? (fun i => zs.getD i 0 == id) with
 | some i => i
 | none => -1
theorem idxV_at {zs : List Int} {m : Nat} {id : Int} {i : Nat} (hi : i < m) (h : zs.getD i 0 = id) (hno : ∀ j, j < i -> zs.getD j 0 ≠ id) : idxV zs m id = i := by
 have : (List.range m).find? (fun i => zs.getD i 0 == id) = some i := by
  rw [List.find?_range_eq_some]
  exact ⟨by rw [h]; simp, by simpa using hi, fun j hj => by have := hno j hj; simpa using this⟩
 unfold idxV
 rw [this]
theorem idxV_none {zs : List Int} {m : Nat} {id : Int} (hno : ∀ j, j < m -> zs.getD j 0 ≠ id) : idxV zs m id = -1 := by
 have : (List.range m).find? (fun i => zs.getD i 0 == id) = none := by
  rw [List.find?_eq_none]
  intro j hj
  have := hno j (by simpa using hj)
  simpa using this
 unfold idxV
 rw [this]
theorem idxV_has (zs : List Int) (m : Nat) (id : Int) : decide (0 <= idxV zs m id) = hasTo zs m id := by
 unfold idxV
 cases hf : (List.range m).find? (fun i => zs.getD i 0 == id) with
 | none =>
   rw [List.find?_eq_none] at hf
   rw [hasTo_no (fun j hj => by have := hf j (by simpa using hj); simpa using this)]
   rfl
 | some i =>
   rw [List.find?_range_eq_some] at hf
   rw [hasTo_yes (by simpa using hf.2.1) (by simpa using hf.1)]
   simp
theorem noneToI5_step {zs : List Int} {id : Int} {k : Nat} (h : ∀ j, j < k -> og5 zs j 0 ≠ id) (hk : og5 zs k 0 ≠ id) : ∀ j, j < k + 1 -> og5 zs j 0 ≠ id := by
 intro j hj
 by_cases e : j = k
 · rw [e]; exact hk
 · exact h j (by omega)
set_option maxHeartbeats 400000 in
theorem l1Time_any (n x y : Nat) (a : Option Addr) (len cap : Nat) (zs : List Int) (w : World) (hn : n <= 16) (hx : x < n) (hy : y < n) (hl : zs.length = n * n) (hlen : len = n * n) (hA : IntsAt w a zs) :
 Calls Tryz.prog 140 #[.agg #[.int .i64 n, .slice a len cap], .int .i64 x, .int .i64 y] w fun e w' => e = .returned (.int .i64 (zs.getD (x * n + y) 0)) /\ Below w.heap.size w w' := by
 subst hlen
 have hnn := mul_bd n n hn hn
 have hxy : x * n + y < n * n := by
  have := Nat.mul_le_mul_right n (show x + 1 <= n by omega)
  rw [Nat.add_mul] at this
  omega
 obtain ⟨bb, off, rfl, hcs⟩ := hA.some (j := x * n + y) (by omega)
 have ct := hcs (x * n + y) (by omega)
 have hlt := block_lt_of_cell ct
 clear hcs hA
 generalize zs.getD (x * n + y) 0 = t at ct
 have hwm : wrap64 ((x : Int) * (n : Int)) = (x : Int) * (n : Int) := IntWalk.wrap64_in _ (by rw [<- Int.natCast_mul]; omega)
 simp at hlt
 clear hl
 go_enter Tryz.func140, Tryz.ntmps140
 go_wp2
 go_ret
 exact ⟨rfl, (Below.refl _ _).alloc (Nat.le_refl _) _⟩
theorem l1Time_I (n x y : Int) (a : Option Addr) (cap : Nat) (zs : List Int) (w : World) (hm : matB n zs = true) (hx : 0 <= x /\ x < n) (hy : 0 <= y /\ y < n) (hA : IntsAt w a zs) :
 Calls Tryz.prog 140 #[.agg #[.int .i64 n, .slice a zs.length cap], .int .i64 x, .int .i64 y] w fun e w' => e = .returned (.int .i64 (tmI n zs x y)) /\ Below w.heap.size w w' := by
 obtain ⟨h1, h2, h3, _⟩ := matB_true hm
 obtain ⟨N, rfl⟩ : ∃ N : Nat, n = N := ⟨n.toNat, by omega⟩
 obtain ⟨X, rfl⟩ : ∃ X : Nat, x = X := ⟨x.toNat, by omega⟩
 obtain ⟨Y, rfl⟩ : ∃ Y : Nat, y = Y := ⟨y.toNat, by omega⟩
 have hl : zs.length = N * N := by rw [<- Int.natCast_mul] at h3; omega
 exact l1Time_any N X Y a zs.length cap zs w (by omega) (by omega) (by omega) hl hl hA
set_option maxHeartbeats 400000 in
theorem within_any (n lo hi : Int) (w : World) :
 Calls Tryz.prog 81 #[.int .i64 n, .int .i64 lo, .int .i64 hi] w fun e w' => e = .returned (.bool (inB n lo hi)) /\ w' = w := by
 by_cases h1 : lo <= n
 · by_cases h2 : n <= hi
   · have h3 := inB_mk ⟨h1, h2⟩
     rw [h3]
     go_enter Tryz.func81, Tryz.ntmps81
     go_wp2
     go_ret
     exact ⟨by simp, rfl⟩
   · have h3 : inB n lo hi = false := inB_not (by omega)
     rw [h3]
     go_enter Tryz.func81, Tryz.ntmps81
     go_wp2
     go_ret
     exact ⟨by simp, rfl⟩
 · have h3 : inB n lo hi = false := inB_not (by omega)
   rw [h3]
   go_enter Tryz.func81, Tryz.ntmps81
   go_wp2
   go_ret
   exact ⟨by simp, rfl⟩
set_option maxHeartbeats 1000000 in
theorem findOrder_any (n fine id : Int) (a ao av : Option Addr) (lt cap ko co kv cv : Nat) (zs : List Int) (w : World) (hA : IntsAt w ao zs) (hl : zs.length = ko * 6) (hlen : ko <= 9223372036854775807) :
 Calls Tryz.prog 197 #[.agg #[.int .i64 n, .slice a lt cap, .slice ao ko co, .slice av kv cv, .int .i64 fine], .int .i64 id] w fun e w' => e = .returned (.tuple #[.agg #[.int .i64 (fnd6F zs ko id 0), .int .i64 (fnd6F zs ko id 1), .int .i64 (fnd6F zs ko id 2), .int .i64 (fnd6F zs ko id 3), .int .i64 (fnd6F zs ko id 4), .int .i64 (fnd6F zs ko id 5)], .bool (fnd6T zs ko id)]) /\ Below w.heap.size w w' := by
 have HB0 : Hid (Below w.heap.size w ((w.alloc (Obj.cells #[Value.int .i64 n, Value.slice a lt cap, Value.slice ao ko co, Value.slice av kv cv, Value.int .i64 fine] 78)).alloc (Obj.cells #[Value.int .i64 0, Value.int .i64 0, Value.int .i64 0, Value.int .i64 0, Value.int .i64 0, Value.int .i64 0] 146))) := ((Below.refl _ _).alloc (Nat.le_refl _) _).alloc (by simp) _
 have HA : Hid (IntsAt w ao zs) := hA
 have HL : Hid _ := hl
 clear hA hl
 go_enter Tryz.func197, Tryz.ntmps197
 go_wp2_with fail
 have Q0 : Hid (((w.alloc (Obj.cells #[Value.int .i64 n, Value.slice a lt cap, Value.slice ao ko co, Value.slice av kv cv, Value.int .i64 fine] 78)).alloc (Obj.cells #[Value.int .i64 0, Value.int .i64 0, Value.int .i64 0, Value.int .i64 0, Value.int .i64 0, Value.int .i64 0] 146)).heap[w.heap.size + 1]? = _) := heap_alloc2_new _ _ _
 generalize (w.alloc (Obj.cells #[Value.int .i64 n, Value.slice a lt cap, Value.slice ao ko co, Value.slice av kv cv, Value.int .i64 fine] 78)).alloc (Obj.cells #[Value.int .i64 0, Value.int .i64 0, Value.int .i64 0, Value.int .i64 0, Value.int .i64 0, Value.int .i64 0] 146) = W at *
 go_loopw [11] (fun t wr => ∃ k : Nat, k <= ko /\ t = .int .i64 k /\ (∀ j, j < k -> og6 zs j 0 ≠ id) /\ Below w.heap.size w wr /\ wr.heap[w.heap.size + 1]? = some (.cells #[Value.int .i64 0, Value.int .i64 0, Value.int .i64 0, Value.int .i64 0, Value.int .i64 0, Value.int .i64 0] 146 (0, 0))) (fun t _ => ko - (intOf t).toNat)
 case atStart => exact ⟨0, Nat.zero_le _, rfl, fun j hj => by omega, HB0.out, Q0.out⟩
 case round =>
  clear HB0 Q0
  obtain ⟨k, hk, rfl, hno, hb, hq⟩ := hrel
  have HN : Hid _ := hno
  have HB : Hid _ := hb
  have HQ : Hid _ := hq
  obtain ⟨q0, q1, q2, q3, q4, q5⟩ := cells6 hq
  have f0 := fun i => frozen_of_row _ _ i _ _ hq
  have hqlt := row_lt hq
  clear hno hb hq
  by_cases hlt : k < ko
  · obtain ⟨b, off, rfl, hcs⟩ := IntsAt.some (IntsAt.below HA.out HB.out) (j := k * 6) (by rw [HL.out]; omega)
    obtain ⟨r0, r1, r2, r3, r4, r5⟩ := row6_at hcs HL.out k hlt
    clear hcs
    obtain ⟨o0, H0⟩ := nmd (og6 zs k 0)
    obtain ⟨o1, H1⟩ := nmd (og6 zs k 1)
    obtain ⟨o2, H2⟩ := nmd (og6 zs k 2)
    obtain ⟨o3, H3⟩ := nmd (og6 zs k 3)
    obtain ⟨o4, H4⟩ := nmd (og6 zs k 4)
    obtain ⟨o5, H5⟩ := nmd (og6 zs k 5)
    rw [H0.out] at r0
    rw [H1.out] at r1
    rw [H2.out] at r2
    rw [H3.out] at r3
    rw [H4.out] at r4
    rw [H5.out] at r5
    have hlb := block_lt_of_cell r0
    simp at hlb
    by_cases he : o0 = id
    · have heb : (o0 == id) = true := by simp [he]
      have HF : Hid _ := fnd6_at hlt (by rw [H0.out]; exact he) HN.out
      clear he
      go_wp2
      refine bodyPost_ret (v := .tuple #[.agg #[.int .i64 o0, .int .i64 o1, .int .i64 o2, .int .i64 o3, .int .i64 o4, .int .i64 o5], .bool true]) (by simp [results, Tryz.results197, go_sem, hqlt, q0, q1, q2, q3, q4, q5]) rfl ⟨?_, ?_⟩
      · rw [fnd6T_at HF.out]; simp only [fnd6F_at HF.out, H0.out, H1.out, H2.out, H3.out, H4.out, H5.out]
      · repeat (first | with_reducible exact HB.out | with_reducible refine Below.setCell ?_ (by simp <;> omega) _ | with_reducible refine Below.alloc ?_ (by simp [World.setCell]; exact HB.out.size) _)
    · have heb : (o0 == id) = false := by simp [he]
      have HS : Hid _ := noneToI6_step HN.out (by rw [H0.out]; exact he)
      clear he
      go_wp2
      refine ⟨⟨k + 1, by omega, by go_num, HS.out, HB.out.alloc HB.out.size _, ?_⟩, by simp [intOf]; omega⟩
      rw [heap_alloc_old _ _ (row_lt HQ.out)]; exact HQ.out
  · have hkx : k = ko := by omega
    have HF : Hid _ := fnd6_none (hkx ▸ HN.out)
    clear hkx
    go_wp2
    refine bodyPost_ret (v := .tuple #[.agg #[.int .i64 0, .int .i64 0, .int .i64 0, .int .i64 0, .int .i64 0, .int .i64 0], .bool false]) (by simp [results, Tryz.results197, go_sem, q0, q1, q2, q3, q4, q5]) rfl ⟨?_, ?_⟩
    · rw [fnd6T_none HF.out]; simp only [fnd6F_none HF.out]
    · repeat (first | with_reducible exact HB.out | with_reducible refine Below.setCell ?_ (by simp <;> omega) _)
set_option maxHeartbeats 400000 in
theorem index_any (a : Option Addr) (m cap : Nat) (id : Int) (zs : List Int) (w : World) (hA : IntsAt w a zs) (hm : m <= zs.length) (hlen : m <= 9223372036854775807) :
 Calls Tryz.prog 223 #[.slice a m cap, .int .i64 id] w fun e w' => e = .returned (.int .i64 (idxV zs m id)) /\ w' = w := by
 have HA : Hid _ := hA
 clear hA
 obtain ⟨r, HR⟩ := nmd (idxV zs m id)
 rw [HR.out]
 go_enter Tryz.func223, Tryz.ntmps223
 go_wp2_with fail
 go_loop [8] (fun t => ∃ k : Nat, k <= m /\ t = .int .i64 k /\ ∀ j, j < k -> zs.getD j 0 ≠ id) (fun t => m - (intOf t).toNat)
 case atStart => exact ⟨0, Nat.zero_le _, rfl, fun j hj => by omega⟩
 case round =>
  obtain ⟨k, hk, rfl, hno⟩ := hrel
  have HN : Hid _ := hno
  clear hno
  by_cases hlt : k < m
  · obtain ⟨b, off, rfl, hcs⟩ := IntsAt.some HA.out (j := k) (by omega)
    have ct := hcs k (by omega)
    clear hcs
    obtain ⟨t, HT⟩ := nmd (zs.getD k 0)
    rw [HT.out] at ct
    by_cases he : id = t
    · have heb : (id == t) = true := by simp [he]
      have HV : Hid _ := HR.symm.trans (idxV_at hlt (HT.trans he.symm) HN.out)
      clear he
      go_wp2
      go_ret
      exact ⟨ret_int HV.symm, rfl⟩
    · have heb : (id == t) = false := by simp [he]
      have HS : Hid _ := noTo_step HN.out (by rw [HT.out]; exact fun x => he x.symm)
      clear he
      go_wp2
      exact ⟨⟨k + 1, by omega, by go_num, HS.out⟩, by simp [intOf]; omega⟩
  · have hkl : k = m := by omega
    have HV : Hid _ := HR.symm.trans (idxV_none (hkl ▸ HN.out))
    clear hkl
    go_wp2
    go_ret
    exact ⟨ret_int HV.symm, rfl⟩
set_option maxHeartbeats 400000 in
theorem contains_any (a : Option Addr) (m cap : Nat) (id : Int) (zs : List Int) (w : World) (hA : IntsAt w a zs) (hm : m <= zs.length) (hlen : m <= 9223372036854775807) :
 Calls Tryz.prog 200 #[.slice a m cap, .int .i64 id] w fun e w' => e = .returned (.bool (hasTo zs m id)) /\ w' = w := by
 have HA : Hid _ := hA
 clear hA
 rw [<- idxV_has]
 obtain ⟨t, HT⟩ := nmd (idxV zs m id)
 rw [HT.out]
 go_enter Tryz.func200, Tryz.ntmps200
 go_wp2_with fail
 refine (index_any a m cap id zs w HA.out hm hlen).mono ?_
 rintro e w1 ⟨rfl, rfl⟩
 rw [HT.out]
 go_wp2
 go_ret
 exact ⟨by simp, rfl⟩
set_option maxHeartbeats 1000000 in
theorem findVehicle_any (n fine id : Int) (a ao av : Option Addr) (lt cap ko co kv cv : Nat) (zs : List Int) (w : World) (hA : IntsAt w av zs) (hl : zs.length = kv * 5) (hlen : kv <= 9223372036854775807) :
 Calls Tryz.prog 171 #[.agg #[.int .i64 n, .slice a lt cap, .slice ao ko co, .slice av kv cv, .int .i64 fine], .int .i64 id] w fun e w' => e = .returned (.tuple #[.agg #[.int .i64 (fnd5F zs kv id 0), .int .i64 (fnd5F zs kv id 1), .int .i64 (fnd5F zs kv id 2), .int .i64 (fnd5F zs kv id 3), .int .i64 (fnd5F zs kv id 4)], .bool (fnd5T zs kv id)]) /\ Below w.heap.size w w' := by
 have HB0 : Hid (Below w.heap.size w ((w.alloc (Obj.cells #[Value.int .i64 n, Value.slice a lt cap, Value.slice ao ko co, Value.slice av kv cv, Value.int .i64 fine] 78)).alloc (Obj.cells #[Value.int .i64 0, Value.int .i64 0, Value.int .i64 0, Value.int .i64 0, Value.int .i64 0] 137))) := ((Below.refl _ _).alloc (Nat.le_refl _) _).alloc (by simp) _
 have HA : Hid (IntsAt w av zs) := hA
 have HL : Hid _ := hl
 clear hA hl
 go_enter Tryz.func171, Tryz.ntmps171
 go_wp2_with fail
 have Q0 : Hid (((w.alloc (Obj.cells #[Value.int .i64 n, Value.slice a lt cap, Value.slice ao ko co, Value.slice av kv cv, Value.int .i64 fine] 78)).alloc (Obj.cells #[Value.int .i64 0, Value.int .i64 0, Value.int .i64 0, Value.int .i64 0, Value.int .i64 0] 137)).heap[w.heap.size + 1]? = _) := heap_alloc2_new _ _ _
 generalize (w.alloc (Obj.cells #[Value.int .i64 n, Value.slice a lt cap, Value.slice ao ko co, Value.slice av kv cv, Value.int .i64 fine] 78)).alloc (Obj.cells #[Value.int .i64 0, Value.int .i64 0, Value.int .i64 0, Value.int .i64 0, Value.int .i64 0] 137) = W at *
 go_loopw [11] (fun t wr => ∃ k : Nat, k <= kv /\ t = .int .i64 k /\ (∀ j, j < k -> og5 zs j 0 ≠ id) /\ Below w.heap.size w wr /\ wr.heap[w.heap.size + 1]? = some (.cells #[Value.int .i64 0, Value.int .i64 0, Value.int .i64 0, Value.int .i64 0, Value.int .i64 0] 137 (0, 0))) (fun t _ => kv - (intOf t).toNat)
 case atStart => exact ⟨0, Nat.zero_le _, rfl, fun j hj => by omega, HB0.out, Q0.out⟩
 case round =>
  clear HB0 Q0
  obtain ⟨k, hk, rfl, hno, hb, hq⟩ := hrel
  have HN : Hid _ := hno
  have HB : Hid _ := hb
  have HQ : Hid _ := hq
  obtain ⟨q0, q1, q2, q3, q4⟩ := cells5 hq
  have f0 := fun i => frozen_of_row _ _ i _ _ hq
  have hqlt := row_lt hq
  clear hno hb hq
  by_cases hlt : k < kv
  · obtain ⟨b, off, rfl, hcs⟩ := IntsAt.some (IntsAt.below HA.out HB.out) (j := k * 5) (by rw [HL.out]; omega)
    obtain ⟨r0, r1, r2, r3, r4⟩ := row5_at hcs HL.out k hlt
    clear hcs
    obtain ⟨o0, H0⟩ := nmd (og5 zs k 0)
    obtain ⟨o1, H1⟩ := nmd (og5 zs k 1)
    obtain ⟨o2, H2⟩ := nmd (og5 zs k 2)
    obtain ⟨o3, H3⟩ := nmd (og5 zs k 3)
    obtain ⟨o4, H4⟩ := nmd (og5 zs k 4)
    rw [H0.out] at r0
    rw [H1.out] at r1
    rw [H2.out] at r2
    rw [H3.out] at r3
    rw [H4.out] at r4
    have hlb := block_lt_of_cell r0
    simp at hlb
    by_cases he : o0 = id
    · have heb : (o0 == id) = true := by simp [he]
      have HF : Hid _ := fnd5_at hlt (by rw [H0.out]; exact he) HN.out
      clear he
      go_wp2
      refine bodyPost_ret (v := .tuple #[.agg #[.int .i64 o0, .int .i64 o1, .int .i64 o2, .int .i64 o3, .int .i64 o4], .bool true]) (by simp [results, Tryz.results171, go_sem, hqlt, q0, q1, q2, q3, q4]) rfl ⟨?_, ?_⟩
      · rw [fnd5T_at HF.out]; simp only [fnd5F_at HF.out, H0.out, H1.out, H2.out, H3.out, H4.out]
      · repeat (first | with_reducible exact HB.out | with_reducible refine Below.setCell ?_ (by simp <;> omega) _ | with_reducible refine Below.alloc ?_ (by simp [World.setCell]; exact HB.out.size) _)
    · have heb : (o0 == id) = false := by simp [he]
      have HS : Hid _ := noneToI5_step HN.out (by rw [H0.out]; exact he)
      clear he
      go_wp2
      refine ⟨⟨k + 1, by omega, by go_num, HS.out, HB.out.alloc HB.out.size _, ?_⟩, by simp [intOf]; omega⟩
      rw [heap_alloc_old _ _ (row_lt HQ.out)]; exact HQ.out
  · have hkx : k = kv := by omega
    have HF : Hid _ := fnd5_none (hkx ▸ HN.out)
    clear hkx
    go_wp2
    refine bodyPost_ret (v := .tuple #[.agg #[.int .i64 0, .int .i64 0, .int .i64 0, .int .i64 0, .int .i64 0], .bool false]) (by simp [results, Tryz.results171, go_sem, q0, q1, q2, q3, q4]) rfl ⟨?_, ?_⟩
    · rw [fnd5T_none HF.out]; simp only [fnd5F_none HF.out]
    · repeat (first | with_reducible exact HB.out | with_reducible refine Below.setCell ?_ (by simp <;> omega) _)
set_option maxHeartbeats 400000 in
theorem drive_nat (n x y : Nat) (v0 v1 v2 v3 v4 : Int) (a ar : Option Addr) (len cap kr cr : Nat) (zs : List Int) (w : World) (hn : n <= 16) (hx : x < n) (hy : y < n) (hl : zs.length = n * n) (hlen : len = n * n) (hA : IntsAt w a zs) :
 Calls Tryz.prog 143 #[.agg #[.int .i64 n, .slice a len cap, .int .i64 v0, .int .i64 v1, .int .i64 v2, .int .i64 v3, .int .i64 v4, .slice ar kr cr], .int .i64 x, .int .i64 y] w fun e w' => e = .returned (.int .i64 (zs.getD (x * n + y) 0)) /\ Below w.heap.size w w' := by
 subst hlen
 have hnn := mul_bd n n hn hn
 have hxy : x * n + y < n * n := by
  have := Nat.mul_le_mul_right n (show x + 1 <= n by omega)
  rw [Nat.add_mul] at this
  omega
 obtain ⟨bb, off, rfl, hcs⟩ := hA.some (j := x * n + y) (by omega)
 have ct := hcs (x * n + y) (by omega)
 have hlt := block_lt_of_cell ct
 clear hcs hA
 generalize zs.getD (x * n + y) 0 = t at ct
 have hwm : wrap64 ((x : Int) * (n : Int)) = (x : Int) * (n : Int) := IntWalk.wrap64_in _ (by rw [<- Int.natCast_mul]; omega)
 simp at hlt
 clear hl
 go_enter Tryz.func143, Tryz.ntmps143
 go_wp2
 go_ret
 exact ⟨rfl, (Below.refl _ _).alloc (Nat.le_refl _) _⟩
theorem drive_I (n x y : Int) (v0 v1 v2 v3 v4 : Int) (a ar : Option Addr) (cap kr cr : Nat) (zs : List Int) (w : World) (hm : matB n zs = true) (hx : 0 <= x /\ x < n) (hy : 0 <= y /\ y < n) (hA : IntsAt w a zs) :
 Calls Tryz.prog 143 #[.agg #[.int .i64 n, .slice a zs.length cap, .int .i64 v0, .int .i64 v1, .int .i64 v2, .int .i64 v3, .int .i64 v4, .slice ar kr cr], .int .i64 x, .int .i64 y] w fun e w' => e = .returned (.int .i64 (tmI n zs x y)) /\ Below w.heap.size w w' := by
 obtain ⟨h1, h2, h3, _⟩ := matB_true hm
 obtain ⟨N, rfl⟩ : ∃ N : Nat, n = N := ⟨n.toNat, by omega⟩
 obtain ⟨X, rfl⟩ : ∃ X : Nat, x = X := ⟨x.toNat, by omega⟩
 obtain ⟨Y, rfl⟩ : ∃ Y : Nat, y = Y := ⟨y.toNat, by omega⟩
 have hl : zs.length = N * N := by rw [<- Int.natCast_mul] at h3; omega
 exact drive_nat N X Y _ _ _ _ _ a ar zs.length cap kr cr zs w (by omega) (by omega) (by omega) hl hl hA
set_option maxHeartbeats 400000 in
theorem isPlace_any (n p : Int) (s : Value) (w : World) (h1 : 1 <= n) (h2 : n <= 16) :
 Calls Tryz.prog 207 #[.agg #[.int .i64 n, s], .int .i64 p] w fun e w' => e = .returned (.bool (inB p 0 (n - 1))) /\ Below w.heap.size w w' := by
 go_enter Tryz.func207, Tryz.ntmps207
 go_wp2_with (go_at_call 81; refine (within_any _ _ _ _).mono ?_; rintro e w' ⟨rfl, rfl⟩)
 go_ret
 exact ⟨rfl, (Below.refl _ _).alloc (Nat.le_refl _) _⟩
set_option maxHeartbeats 400000 in
theorem hoursOk_any (f t : Int) (w : World) :
 Calls Tryz.prog 208 #[.int .i64 f, .int .i64 t] w fun e w' => e = .returned (.bool (hoursB f t)) /\ w' = w := by
 by_cases h1 : 0 <= f
 · by_cases h2 : f <= t
   · by_cases h3 : t <= 1000000
     · rw [hoursB_mk h1 h2 h3]
       go_enter Tryz.func208, Tryz.ntmps208
       go_wp2
       go_ret
       exact ⟨by simp, rfl⟩
     · rw [hoursB_not (by omega)]
       go_enter Tryz.func208, Tryz.ntmps208
       go_wp2
       go_ret
       exact ⟨by simp, rfl⟩
   · rw [hoursB_not (by omega)]
     go_enter Tryz.func208, Tryz.ntmps208
     go_wp2
     go_ret
     exact ⟨by simp, rfl⟩
 · rw [hoursB_not (by omega)]
   go_enter Tryz.func208, Tryz.ntmps208
   go_wp2
   go_ret
   exact ⟨by simp, rfl⟩
set_option maxHeartbeats 400000 in
theorem orderOk_any (n o0 o1 o2 o3 o4 o5 : Int) (s : Value) (w : World) (hn1 : 1 <= n) (hn2 : n <= 16) :
 Calls Tryz.prog 180 #[.agg #[.int .i64 n, s], .agg #[.int .i64 o0, .int .i64 o1, .int .i64 o2, .int .i64 o3, .int .i64 o4, .int .i64 o5]] w fun e w' => e = .returned (.bool (ordIn n o1 o2 o3 o4 o5)) /\ Below w.heap.size w w' := by
 have HB0 : Hid (Below w.heap.size w ((w.alloc (Obj.cells #[Value.int .i64 n, s] 74)).alloc (Obj.cells #[Value.int .i64 o0, Value.int .i64 o1, Value.int .i64 o2, Value.int .i64 o3, Value.int .i64 o4, Value.int .i64 o5] 146))) := ((Below.refl _ _).alloc (Nat.le_refl _) _).alloc (by simp) _
 have R0 : Hid (((w.alloc (Obj.cells #[Value.int .i64 n, s] 74)).alloc (Obj.cells #[Value.int .i64 o0, Value.int .i64 o1, Value.int .i64 o2, Value.int .i64 o3, Value.int .i64 o4, Value.int .i64 o5] 146)).heap[w.heap.size + 1]? = some (.cells #[Value.int .i64 o0, Value.int .i64 o1, Value.int .i64 o2, Value.int .i64 o3, Value.int .i64 o4, Value.int .i64 o5] 146 (0, 0))) := heap_alloc2_new _ _ _
 have HLT : Hid (w.heap.size + 1 < ((w.alloc (Obj.cells #[Value.int .i64 n, s] 74)).alloc (Obj.cells #[Value.int .i64 o0, Value.int .i64 o1, Value.int .i64 o2, Value.int .i64 o3, Value.int .i64 o4, Value.int .i64 o5] 146)).heap.size) := by
  show _ < _
  simp
 cases h0 : inB o1 0 (n - 1)
 · go_enter Tryz.func180, Tryz.ntmps180
   go_wp2_with (first
    | (go_at_call 207
       refine (isPlace_any _ _ _ _ hn1 hn2).mono ?_
       rintro e w2 ⟨rfl, hb2⟩
       have BL := HB0.trans (hb2.mono HB0.size)
       obtain ⟨k0, k1, k2, k3, k4, k5⟩ := cells6 (below_row hb2 HLT.out R0.out)
       clear hb2)
    | (go_at_call 81; refine (within_any _ _ _ _).mono ?_; rintro e w' ⟨rfl, rfl⟩)
    | (go_at_call 208; refine (hoursOk_any _ _ _).mono ?_; rintro e w' ⟨rfl, rfl⟩))
   go_ret
   exact ⟨ret_bool (by simp [ordIn, h0]), BL⟩
 · cases h1 : inB o2 0 1000
   · go_enter Tryz.func180, Tryz.ntmps180
     go_wp2_with (first
      | (go_at_call 207
         refine (isPlace_any _ _ _ _ hn1 hn2).mono ?_
         rintro e w2 ⟨rfl, hb2⟩
         have BL := HB0.trans (hb2.mono HB0.size)
         obtain ⟨k0, k1, k2, k3, k4, k5⟩ := cells6 (below_row hb2 HLT.out R0.out)
         clear hb2)
      | (go_at_call 81; refine (within_any _ _ _ _).mono ?_; rintro e w' ⟨rfl, rfl⟩)
      | (go_at_call 208; refine (hoursOk_any _ _ _).mono ?_; rintro e w' ⟨rfl, rfl⟩))
     go_ret
     exact ⟨ret_bool (by simp [ordIn, h0, h1]), BL⟩
   · cases h2 : hoursB o3 o4
     · go_enter Tryz.func180, Tryz.ntmps180
       go_wp2_with (first
        | (go_at_call 207
           refine (isPlace_any _ _ _ _ hn1 hn2).mono ?_
           rintro e w2 ⟨rfl, hb2⟩
           have BL := HB0.trans (hb2.mono HB0.size)
           obtain ⟨k0, k1, k2, k3, k4, k5⟩ := cells6 (below_row hb2 HLT.out R0.out)
           clear hb2)
        | (go_at_call 81; refine (within_any _ _ _ _).mono ?_; rintro e w' ⟨rfl, rfl⟩)
        | (go_at_call 208; refine (hoursOk_any _ _ _).mono ?_; rintro e w' ⟨rfl, rfl⟩))
       go_ret
       exact ⟨ret_bool (by simp [ordIn, h0, h1, h2]), BL⟩
     · cases h3 : inB o5 0 10000
       · go_enter Tryz.func180, Tryz.ntmps180
         go_wp2_with (first
          | (go_at_call 207
             refine (isPlace_any _ _ _ _ hn1 hn2).mono ?_
             rintro e w2 ⟨rfl, hb2⟩
             have BL := HB0.trans (hb2.mono HB0.size)
             obtain ⟨k0, k1, k2, k3, k4, k5⟩ := cells6 (below_row hb2 HLT.out R0.out)
             clear hb2)
          | (go_at_call 81; refine (within_any _ _ _ _).mono ?_; rintro e w' ⟨rfl, rfl⟩)
          | (go_at_call 208; refine (hoursOk_any _ _ _).mono ?_; rintro e w' ⟨rfl, rfl⟩))
         go_ret
         exact ⟨ret_bool (by simp [ordIn, h0, h1, h2, h3]), BL⟩
       · go_enter Tryz.func180, Tryz.ntmps180
         go_wp2_with (first
          | (go_at_call 207
             refine (isPlace_any _ _ _ _ hn1 hn2).mono ?_
             rintro e w2 ⟨rfl, hb2⟩
             have BL := HB0.trans (hb2.mono HB0.size)
             obtain ⟨k0, k1, k2, k3, k4, k5⟩ := cells6 (below_row hb2 HLT.out R0.out)
             clear hb2)
          | (go_at_call 81; refine (within_any _ _ _ _).mono ?_; rintro e w' ⟨rfl, rfl⟩)
          | (go_at_call 208; refine (hoursOk_any _ _ _).mono ?_; rintro e w' ⟨rfl, rfl⟩))
         go_ret
         exact ⟨ret_bool (by simp [ordIn, h0, h1, h2, h3]), BL⟩
set_option maxHeartbeats 400000 in
theorem vehicleOk_any (n o0 o1 o2 o3 o4 : Int) (s : Value) (w : World) (hn1 : 1 <= n) (hn2 : n <= 16) :
 Calls Tryz.prog 181 #[.agg #[.int .i64 n, s], .agg #[.int .i64 o0, .int .i64 o1, .int .i64 o2, .int .i64 o3, .int .i64 o4]] w fun e w' => e = .returned (.bool (vehIn n o1 o2 o3 o4)) /\ Below w.heap.size w w' := by
 have HB0 : Hid (Below w.heap.size w ((w.alloc (Obj.cells #[Value.int .i64 n, s] 74)).alloc (Obj.cells #[Value.int .i64 o0, Value.int .i64 o1, Value.int .i64 o2, Value.int .i64 o3, Value.int .i64 o4] 137))) := ((Below.refl _ _).alloc (Nat.le_refl _) _).alloc (by simp) _
 have R0 : Hid (((w.alloc (Obj.cells #[Value.int .i64 n, s] 74)).alloc (Obj.cells #[Value.int .i64 o0, Value.int .i64 o1, Value.int .i64 o2, Value.int .i64 o3, Value.int .i64 o4] 137)).heap[w.heap.size + 1]? = some (.cells #[Value.int .i64 o0, Value.int .i64 o1, Value.int .i64 o2, Value.int .i64 o3, Value.int .i64 o4] 137 (0, 0))) := heap_alloc2_new _ _ _
 have HLT : Hid (w.heap.size + 1 < ((w.alloc (Obj.cells #[Value.int .i64 n, s] 74)).alloc (Obj.cells #[Value.int .i64 o0, Value.int .i64 o1, Value.int .i64 o2, Value.int .i64 o3, Value.int .i64 o4] 137)).heap.size) := by
  show _ < _
  simp
 cases h0 : inB o1 0 (n - 1)
 · go_enter Tryz.func181, Tryz.ntmps181
   go_wp2_with (first
    | (go_at_call 207
       refine (isPlace_any _ _ _ _ hn1 hn2).mono ?_
       rintro e w2 ⟨rfl, hb2⟩
       have BL := HB0.trans (hb2.mono HB0.size)
       obtain ⟨k0, k1, k2, k3, k4⟩ := cells5 (below_row hb2 HLT.out R0.out)
       clear hb2)
    | (go_at_call 81; refine (within_any _ _ _ _).mono ?_; rintro e w' ⟨rfl, rfl⟩)
    | (go_at_call 208; refine (hoursOk_any _ _ _).mono ?_; rintro e w' ⟨rfl, rfl⟩))
   go_ret
   exact ⟨ret_bool (by simp [vehIn, h0]), BL⟩
 · cases h1 : inB o2 0 1000
   · go_enter Tryz.func181, Tryz.ntmps181
     go_wp2_with (first
      | (go_at_call 207
         refine (isPlace_any _ _ _ _ hn1 hn2).mono ?_
         rintro e w2 ⟨rfl, hb2⟩
         have BL := HB0.trans (hb2.mono HB0.size)
         obtain ⟨k0, k1, k2, k3, k4⟩ := cells5 (below_row hb2 HLT.out R0.out)
         clear hb2)
      | (go_at_call 81; refine (within_any _ _ _ _).mono ?_; rintro e w' ⟨rfl, rfl⟩)
      | (go_at_call 208; refine (hoursOk_any _ _ _).mono ?_; rintro e w' ⟨rfl, rfl⟩))
     go_ret
     exact ⟨ret_bool (by simp [vehIn, h0, h1]), BL⟩
   · cases h2 : hoursB o3 o4
     · go_enter Tryz.func181, Tryz.ntmps181
       go_wp2_with (first
        | (go_at_call 207
           refine (isPlace_any _ _ _ _ hn1 hn2).mono ?_
           rintro e w2 ⟨rfl, hb2⟩
           have BL := HB0.trans (hb2.mono HB0.size)
           obtain ⟨k0, k1, k2, k3, k4⟩ := cells5 (below_row hb2 HLT.out R0.out)
           clear hb2)
        | (go_at_call 81; refine (within_any _ _ _ _).mono ?_; rintro e w' ⟨rfl, rfl⟩)
        | (go_at_call 208; refine (hoursOk_any _ _ _).mono ?_; rintro e w' ⟨rfl, rfl⟩))
       go_ret
       exact ⟨ret_bool (by simp [vehIn, h0, h1, h2]), BL⟩
     · go_enter Tryz.func181, Tryz.ntmps181
       go_wp2_with (first
        | (go_at_call 207
           refine (isPlace_any _ _ _ _ hn1 hn2).mono ?_
           rintro e w2 ⟨rfl, hb2⟩
           have BL := HB0.trans (hb2.mono HB0.size)
           obtain ⟨k0, k1, k2, k3, k4⟩ := cells5 (below_row hb2 HLT.out R0.out)
           clear hb2)
        | (go_at_call 81; refine (within_any _ _ _ _).mono ?_; rintro e w' ⟨rfl, rfl⟩)
        | (go_at_call 208; refine (hoursOk_any _ _ _).mono ?_; rintro e w' ⟨rfl, rfl⟩))
       go_ret
       exact ⟨ret_bool (by simp [vehIn, h0, h1, h2]), BL⟩
set_option maxHeartbeats 1000000 in
theorem ordersOk_any (n fine : Int) (a ao av : Option Addr) (lt cap ko co kv cv : Nat) (zs : List Int) (w : World) (hn1 : 1 <= n) (hn2 : n <= 16) (hA : IntsAt w ao zs) (hl : zs.length = ko * 6) (hlen : ko <= 9223372036854775807) :
 Calls Tryz.prog 148 #[.agg #[.int .i64 n, .slice a lt cap, .slice ao ko co, .slice av kv cv, .int .i64 fine]] w fun e w' => e = .returned (.bool (ordsB n zs ko)) /\ Below w.heap.size w w' := by
 have HB0 : Hid (Below w.heap.size w (w.alloc (Obj.cells #[Value.int .i64 n, Value.slice a lt cap, Value.slice ao ko co, Value.slice av kv cv, Value.int .i64 fine] 78))) := (Below.refl _ _).alloc (Nat.le_refl _) _
 have HA : Hid _ := hA
 have HL : Hid _ := hl
 clear hA hl
 by_cases hmany : ko <= 12
 · go_enter Tryz.func148, Tryz.ntmps148
   go_wp2_with fail
   go_loopw [3, 13] (fun l t wr => ∃ k : Nat, k <= ko /\ t = .int .i64 k /\ l = .int .i64 (ordsLast zs k) /\ ordsTo n zs k /\ Below w.heap.size w wr /\ wr.heap[w.heap.size]? = some (.cells #[Value.int .i64 n, Value.slice a lt cap, Value.slice ao ko co, Value.slice av kv cv, Value.int .i64 fine] 78 (0, 0))) (fun _ t _ => ko - (intOf t).toNat)
   case atStart => exact ⟨0, Nat.zero_le _, rfl, rfl, ordsTo_zero _ _, HB0.out, heap_alloc_new _ _⟩
   case round =>
    obtain ⟨k, hk, rfl, rfl, ht, hb, g3⟩ := hrel
    have hbd := ordsLast_bd ht
    have HT : Hid _ := ht
    obtain ⟨c0, c1, c2, c3, c4⟩ := cells5 g3
    obtain ⟨l0, HL0⟩ := nmd (ordsLast zs k)
    rw [HL0.out] at hbd ⊢
    have G3 : Hid _ := g3
    have HB : Hid _ := hb
    clear ht
    by_cases hlt : k < ko
    · obtain ⟨b, off, rfl, hcs⟩ := IntsAt.some (IntsAt.below HA.out hb) (j := k * 6) (by rw [HL.out]; omega)
      obtain ⟨r0, r1, r2, r3, r4, r5⟩ := row6_at hcs HL.out k hlt
      clear hcs g3 hb
      obtain ⟨o0, H0⟩ := nmd (og6 zs k 0)
      obtain ⟨o1, H1⟩ := nmd (og6 zs k 1)
      obtain ⟨o2, H2⟩ := nmd (og6 zs k 2)
      obtain ⟨o3, H3⟩ := nmd (og6 zs k 3)
      obtain ⟨o4, H4⟩ := nmd (og6 zs k 4)
      obtain ⟨o5, H5⟩ := nmd (og6 zs k 5)
      rw [H0.out] at r0
      rw [H1.out] at r1
      rw [H2.out] at r2
      rw [H3.out] at r3
      rw [H4.out] at r4
      rw [H5.out] at r5
      have hlb := block_lt_of_cell r0
      simp at hlb
      have HB1 : Hid (Below w.heap.size w (wr.alloc (Obj.cells #[Value.int .i64 o0, Value.int .i64 o1, Value.int .i64 o2, Value.int .i64 o3, Value.int .i64 o4, Value.int .i64 o5] 146))) := HB.alloc HB.size _
      have G31 : Hid ((wr.alloc (Obj.cells #[Value.int .i64 o0, Value.int .i64 o1, Value.int .i64 o2, Value.int .i64 o3, Value.int .i64 o4, Value.int .i64 o5] 146)).heap[w.heap.size]? = _) := (heap_alloc_old _ _ (row_lt G3.out)).trans G3.out
      have G41 : Hid ((wr.alloc (Obj.cells #[Value.int .i64 o0, Value.int .i64 o1, Value.int .i64 o2, Value.int .i64 o3, Value.int .i64 o4, Value.int .i64 o5] 146)).heap[wr.heap.size]? = _) := heap_alloc_new _ _
      have hlw := row_lt G3.out
      cases h1 : inB o0 (l0 + 1) 1000000000
      · have HN : Hid (ordsB n zs ko = false) := ordsB_bad hlt (ords_id_no (by rw [H0.out, HL0.out, h1]; simp))
        go_wp2_with (first
         | (go_at_call 81; refine (within_any _ _ _ _).mono ?_; rintro e w' ⟨rfl, rfl⟩))
        go_ret
        exact ⟨ret_bool HN.symm, HB1.out⟩
      · cases h2 : ordIn n o1 o2 o3 o4 o5
        · have HN : Hid _ := ordsB_bad hlt (ords_id_no (by rw [H1.out, H2.out, H3.out, H4.out, H5.out, h2]; simp))
          go_wp2_with (first
           | (go_at_call 81; refine (within_any _ _ _ _).mono ?_; rintro e w' ⟨rfl, rfl⟩)
           | (go_at_call 180; refine (orderOk_any n _ _ _ _ _ _ _ _ hn1 hn2).mono ?_; rintro e w2 ⟨rfl, hb2⟩))
          go_ret
          exact ⟨ret_bool HN.symm, HB1.trans (hb2.mono HB1.size)⟩
        · have HS : Hid (ordsTo n zs (k + 1)) := by
           have := ords_id HT.out (by rw [H0.out, HL0.out]; exact h1) (by rw [H1.out, H2.out, H3.out, H4.out, H5.out]; exact h2)
           exact ordsTo_step HT.out this.1 this.2
          go_wp2_with (first
           | (go_at_call 81; refine (within_any _ _ _ _).mono ?_; rintro e w' ⟨rfl, rfl⟩)
           | (go_at_call 180; refine (orderOk_any n _ _ _ _ _ _ _ _ hn1 hn2).mono ?_; rintro e w2 ⟨rfl, hb2⟩; obtain ⟨q0, q1, q2, q3, q4, q5⟩ := cells6 (below_row hb2 (row_lt G41.out) G41.out)))
          obtain ⟨B2, R2⟩ := box_more hb2 HB1.out G31.out
          refine ⟨⟨k + 1, by omega, by go_num, by show _ = Value.int .i64 (og6 zs k 0); rw [H0.out], HS.out, B2, R2⟩, by simp [intOf]; omega⟩
    · have hkx : k = ko := by omega
      have HN : Hid _ := ordsB_yes hmany (hkx ▸ HT.out)
      clear hkx g3 hb
      go_wp2
      go_ret
      exact ⟨ret_bool HN.symm, HB.out⟩
 · have HN : Hid (ordsB n zs ko = false) := ordsB_many hmany
   go_enter Tryz.func148, Tryz.ntmps148
   go_wp2
   go_ret
   exact ⟨ret_bool HN.symm, HB0.out⟩
set_option maxHeartbeats 1000000 in
theorem vehiclesOk_any (n fine : Int) (a ao av : Option Addr) (lt cap ko co kv cv : Nat) (zs : List Int) (w : World) (hn1 : 1 <= n) (hn2 : n <= 16) (hA : IntsAt w av zs) (hl : zs.length = kv * 5) (hlen : kv <= 9223372036854775807) :
 Calls Tryz.prog 149 #[.agg #[.int .i64 n, .slice a lt cap, .slice ao ko co, .slice av kv cv, .int .i64 fine]] w fun e w' => e = .returned (.bool (vehsB n zs kv)) /\ Below w.heap.size w w' := by
 have HB0 : Hid (Below w.heap.size w (w.alloc (Obj.cells #[Value.int .i64 n, Value.slice a lt cap, Value.slice ao ko co, Value.slice av kv cv, Value.int .i64 fine] 78))) := (Below.refl _ _).alloc (Nat.le_refl _) _
 have HA : Hid _ := hA
 have HL : Hid _ := hl
 clear hA hl
 by_cases hmany : kv <= 5
 · go_enter Tryz.func149, Tryz.ntmps149
   go_wp2_with fail
   go_loopw [3, 13] (fun l t wr => ∃ k : Nat, k <= kv /\ t = .int .i64 k /\ l = .int .i64 (vehsLast zs k) /\ vehsTo n zs k /\ Below w.heap.size w wr /\ wr.heap[w.heap.size]? = some (.cells #[Value.int .i64 n, Value.slice a lt cap, Value.slice ao ko co, Value.slice av kv cv, Value.int .i64 fine] 78 (0, 0))) (fun _ t _ => kv - (intOf t).toNat)
   case atStart => exact ⟨0, Nat.zero_le _, rfl, rfl, vehsTo_zero _ _, HB0.out, heap_alloc_new _ _⟩
   case round =>
    obtain ⟨k, hk, rfl, rfl, ht, hb, g3⟩ := hrel
    have hbd := vehsLast_bd ht
    have HT : Hid _ := ht
    obtain ⟨c0, c1, c2, c3, c4⟩ := cells5 g3
    obtain ⟨l0, HL0⟩ := nmd (vehsLast zs k)
    rw [HL0.out] at hbd ⊢
    have G3 : Hid _ := g3
    have HB : Hid _ := hb
    clear ht
    by_cases hlt : k < kv
    · obtain ⟨b, off, rfl, hcs⟩ := IntsAt.some (IntsAt.below HA.out hb) (j := k * 5) (by rw [HL.out]; omega)
      obtain ⟨r0, r1, r2, r3, r4⟩ := row5_at hcs HL.out k hlt
      clear hcs g3 hb
      obtain ⟨o0, H0⟩ := nmd (og5 zs k 0)
      obtain ⟨o1, H1⟩ := nmd (og5 zs k 1)
      obtain ⟨o2, H2⟩ := nmd (og5 zs k 2)
      obtain ⟨o3, H3⟩ := nmd (og5 zs k 3)
      obtain ⟨o4, H4⟩ := nmd (og5 zs k 4)
      rw [H0.out] at r0
      rw [H1.out] at r1
      rw [H2.out] at r2
      rw [H3.out] at r3
      rw [H4.out] at r4
      have hlb := block_lt_of_cell r0
      simp at hlb
      have HB1 : Hid (Below w.heap.size w (wr.alloc (Obj.cells #[Value.int .i64 o0, Value.int .i64 o1, Value.int .i64 o2, Value.int .i64 o3, Value.int .i64 o4] 137))) := HB.alloc HB.size _
      have G31 : Hid ((wr.alloc (Obj.cells #[Value.int .i64 o0, Value.int .i64 o1, Value.int .i64 o2, Value.int .i64 o3, Value.int .i64 o4] 137)).heap[w.heap.size]? = _) := (heap_alloc_old _ _ (row_lt G3.out)).trans G3.out
      have G41 : Hid ((wr.alloc (Obj.cells #[Value.int .i64 o0, Value.int .i64 o1, Value.int .i64 o2, Value.int .i64 o3, Value.int .i64 o4] 137)).heap[wr.heap.size]? = _) := heap_alloc_new _ _
      have hlw := row_lt G3.out
      cases h1 : inB o0 (l0 + 1) 1000000000
      · have HN : Hid (vehsB n zs kv = false) := vehsB_bad hlt (vehs_id_no (by rw [H0.out, HL0.out, h1]; simp))
        go_wp2_with (first
         | (go_at_call 81; refine (within_any _ _ _ _).mono ?_; rintro e w' ⟨rfl, rfl⟩))
        go_ret
        exact ⟨ret_bool HN.symm, HB1.out⟩
      · cases h2 : vehIn n o1 o2 o3 o4
        · have HN : Hid _ := vehsB_bad hlt (vehs_id_no (by rw [H1.out, H2.out, H3.out, H4.out, h2]; simp))
          go_wp2_with (first
           | (go_at_call 81; refine (within_any _ _ _ _).mono ?_; rintro e w' ⟨rfl, rfl⟩)
           | (go_at_call 181; refine (vehicleOk_any n _ _ _ _ _ _ _ hn1 hn2).mono ?_; rintro e w2 ⟨rfl, hb2⟩))
          go_ret
          exact ⟨ret_bool HN.symm, HB1.trans (hb2.mono HB1.size)⟩
        · have HS : Hid (vehsTo n zs (k + 1)) := by
           have := vehs_id HT.out (by rw [H0.out, HL0.out]; exact h1) (by rw [H1.out, H2.out, H3.out, H4.out]; exact h2)
           exact vehsTo_step HT.out this.1 this.2
          go_wp2_with (first
           | (go_at_call 81; refine (within_any _ _ _ _).mono ?_; rintro e w' ⟨rfl, rfl⟩)
           | (go_at_call 181; refine (vehicleOk_any n _ _ _ _ _ _ _ hn1 hn2).mono ?_; rintro e w2 ⟨rfl, hb2⟩; obtain ⟨q0, q1, q2, q3, q4⟩ := cells5 (below_row hb2 (row_lt G41.out) G41.out)))
          obtain ⟨B2, R2⟩ := box_more hb2 HB1.out G31.out
          refine ⟨⟨k + 1, by omega, by go_num, by show _ = Value.int .i64 (og5 zs k 0); rw [H0.out], HS.out, B2, R2⟩, by simp [intOf]; omega⟩
    · have hkx : k = kv := by omega
      have HN : Hid _ := vehsB_yes hmany (hkx ▸ HT.out)
      clear hkx g3 hb
      go_wp2
      go_ret
      exact ⟨ret_bool HN.symm, HB.out⟩
 · have HN : Hid (vehsB n zs kv = false) := vehsB_many hmany
   go_enter Tryz.func149, Tryz.ntmps149
   go_wp2
   go_ret
   exact ⟨ret_bool HN.symm, HB0.out⟩
theorem Tryz.info41 : (Tryz.prog.info? 243).map (fun i => (i.zero, i.size)) = some (some (.agg (cellsOf zeros)), 256) := by kernel_rfl
def GW (w wr : World) (n : Nat) (a : Option Addr) (cap : Nat) (z0 : Array Value) (gl : List Int) : Prop :=
 wr.heap.size = w.heap.size + 3 /\ Below w.heap.size w wr /\ wr.heap[w.heap.size]? = some (.cells #[.int .i64 n, .slice a (n * n) cap] 74 (0, 0)) ∧
 wr.heap[w.heap.size + 1]? = some (.cells z0 243 (0, 0)) /\ wr.heap[w.heap.size + 1 + 1]? = some (.cells (cellsOf gl) 243 (0, 0))
theorem GW.step {w wr : World} {n : Nat} {a : Option Addr} {cap : Nat} {z0 : Array Value} {zs : List Int} {x y : Nat} {t : Int} (h : GW w wr n a cap z0 (gridTo n zs x y)) (hx : x < n) (hy : y < n) (hn : n <= 16) (ht : zs.getD (x * n + y) 0 = t) :
 GW w (wr.setCell ⟨w.heap.size + 1 + 1, x * 16 + y, none⟩ (.int .i64 t)) n a cap z0 (gridTo n zs x (y + 1)) := by
 obtain ⟨g1, g2, g3, g4, g5⟩ := h
 refine ⟨by simpa [World.setCell] using g1, g2.setCell (by simp; omega) _, ?_, ?_, ?_⟩
 · rw [heap_setCell_other _ _ _ _ (by simp; omega)]; exact g3
 · rw [heap_setCell_other _ _ _ _ (by simp)]; exact g4
 · rw [heap_setCell_same _ _ _ _ _ _ g5, cellsOf_set, <- ht, gridTo_step n zs x y hx hy hn]
theorem size41 : (Tryz.prog.info? 243).map (·.size) = some 256 := (zero_of_info Tryz.info41).2
theorem size41_of {l : List Int} (h : l.length = 256) : (Tryz.prog.info? 243).map (·.size) = some (cellsOf l).size := by
 rw [cellsOf_size, h]; exact size41
theorem ret_grid (tmps : Array Value) (W : World) (g : Nat) (l : List Int) (b : Bool) (hl : l.length = 256)
 (hp : tmps.getD 2 undef = .pointer (some ⟨g, 0, none⟩)) (hb : tmps.getD 3 undef = .bool b) (hg : W.heap[g]? = some (.cells (cellsOf l) 243 (0, 0))) :
 (results Tryz.f179 tmps).run Tryz.prog W = .ok (.tuple #[.agg (cellsOf l), .bool b]) W := by
 rw [results_cell_tmp Tryz.results179, hp, hb]
 simp only [asAddr, Sem.run_pure, Result.andThen_ok, run_loadVar_row W g 243 243 (cellsOf l) (0, 0) _ hg Tryz.underlying243 rfl (size41_of hl)]
set_option maxHeartbeats 1000000 in
theorem grid_loop (n : Nat) (a : Option Addr) (cap : Nat) (zs : List Int) (w : World) (h1 : 1 <= n) (h2 : n <= 16) (hl : zs.length = n * n) (hA : IntsAt w a zs) :
 Calls Tryz.prog 179 #[.agg #[.int .i64 n, .slice a zs.length cap]] w fun e w' => e = .returned (.tuple #[.agg (cellsOf (gridRes n zs)), .bool (matB n zs)]) /\ Below w.heap.size w w' := by
 have hz := (zero_of_info Tryz.info41).1
 generalize hz0 : cellsOf zeros = z0 at hz
 have HZ : Hid _ := hz0
 clear hz0
 have hnn := mul_bd n n h2 h2
 have hd1 : inB (n : Int) 1 16 = true := inB_mk (by omega)
 have hnw : wrap64 ((n : Int) * (n : Int)) = (n : Int) * (n : Int) := IntWalk.wrap64_in _ (by rw [<- Int.natCast_mul]; omega)
 have HA : Hid (IntsAt w a zs) := hA
 clear hA
 rw [hl]
 have HL : Hid _ := hl
 clear hl
 go_enter Tryz.func179, Tryz.ntmps179
 go_wp2_with (go_at_call 81; refine (within_any _ _ _ _).mono ?_; rintro e w' ⟨rfl, rfl⟩)
 go_loopw [26] (fun t wr => ∃ x : Nat, x <= n /\ t = .int .i64 x /\ GW w wr n a cap z0 (gridTo n zs x 0) /\ okTo n zs x 0) (fun t _ => n - (intOf t).toNat)
 case atStart =>
  refine ⟨0, Nat.zero_le _, rfl, ⟨by simp, ?_, ?_, ?_, ?_⟩, okTo_zero _ _⟩
  · exact (((Below.refl _ _).alloc (Nat.le_refl _) _).alloc (by simp) _).alloc (by simp; omega) _
  · rw [heap_alloc_old _ _ (by simp; omega), heap_alloc_old _ _ (by simp)]
    exact heap_alloc_new _ _
  · rw [heap_alloc_old _ _ (by simp)]
    exact heap_alloc2_new _ _ _
  · rw [gridTo_zero, HZ.out]
    have := heap_alloc_new ((w.alloc (Obj.cells #[Value.int .i64 n, Value.slice a (n * n) cap] 74)).alloc (Obj.cells z0 243)) (Obj.cells z0 243)
    simpa using this
 case round =>
  obtain ⟨x, hx, rfl, hG, hok⟩ := hrel
  obtain ⟨g1, g2, g3, g4, g5⟩ := hG
  have c0 := cell_of_row _ _ 0 _ _ _ g3
  have c1 := cell_of_row _ _ 1 _ _ _ g3
  simp at c0 c1
  by_cases hlt : x < n
  · have G4 : Hid _ := g4
    have G5 : Hid _ := g5
    have HO : Hid _ := hok
    clear g4 g5 hok
    go_wp2_with fail
    go_loopw [31] (fun t wr => ∃ y : Nat, y <= n /\ t = .int .i64 y /\ GW w wr n a cap z0 (gridTo n zs x y) /\ okTo n zs x y) (fun t _ => n - (intOf t).toNat)
    case atStart => exact ⟨0, Nat.zero_le _, rfl, ⟨g1, g2, g3, G4.out, G5.out⟩, HO.out⟩
    case round =>
     clear g1 g2 g3 c0 c1 G4 G5 HO
     obtain ⟨y, hy, rfl, hG, hok⟩ := hrel
     have HG : Hid (GW w wr n a cap z0 (gridTo n zs x y)) := hG
     obtain ⟨g1, g2, g3, g4, g5⟩ := hG
     have c0 := cell_of_row _ _ 0 _ _ _ g3
     have c1 := cell_of_row _ _ 1 _ _ _ g3
     simp at c0 c1
     by_cases hylt : y < n
     · have hxy : x * n + y < n * n := by
        have := Nat.mul_le_mul_right n (show x + 1 <= n by omega)
        rw [Nat.add_mul] at this
        omega
       obtain ⟨bb, off, rfl, hcs⟩ := IntsAt.some (IntsAt.below HA.out g2) (j := x * n + y) (by rw [HL.out]; exact hxy)
       have ct := hcs (x * n + y) (by rw [HL.out]; exact hxy)
       clear hcs
       generalize htt : zs.getD (x * n + y) 0 = t at ct
       have HT : Hid _ := htt
       clear htt
       have cg := cell_of_row _ _ (x * 16 + y) _ _ _ g5
       rw [cellsOf_get _ _ (by rw [gridTo_length]; omega)] at cg
       have fg := frozen_of_row _ _ (x * 16 + y) _ _ g5
       have HO : Hid (okTo n zs x y) := hok
       clear hok
       have hwm : wrap64 ((x : Int) * (n : Int)) = (x : Int) * (n : Int) := IntWalk.wrap64_in _ (by rw [<- Int.natCast_mul]; omega)
       by_cases hgood : 0 <= t /\ t <= 10000 /\ (x = y -> t = 0)
       · have hvd : inB t 0 10000 = true := inB_mk (by omega)
         have HS : Hid (okTo n zs x (y + 1)) := okTo_step HO.out (by rw [HT.out]; exact hgood.1) (by rw [HT.out]; exact hgood.2.1) (by rw [HT.out]; exact hgood.2.2)
         clear HO g3 g4 g5 g2 g1
         by_cases hxe : x = y
         · have hne : ((x : Int) == (y : Int)) = true := by simp; omega
           have hne' : ((y : Int) == (y : Int)) = true := by simp
           have ht0 : (t != 0) = false := by simp [hgood.2.2 hxe]
           have HXE : Hid _ := hxe
           clear hgood hxe
           go_wp2_with (first
            | (go_at_call 81; refine (within_any _ _ _ _).mono ?_; rintro e w' ⟨rfl, rfl⟩))
           refine ⟨⟨y + 1, by omega, by go_num, HG.step hlt hylt h2 HT.out, HS.out⟩, by simp [intOf]; omega⟩
         · have hne : ((x : Int) == (y : Int)) = false := by simp; omega
           clear hgood hxe
           go_wp2_with (first
            | (go_at_call 81; refine (within_any _ _ _ _).mono ?_; rintro e w' ⟨rfl, rfl⟩))
           refine ⟨⟨y + 1, by omega, by go_num, HG.step hlt hylt h2 HT.out, HS.out⟩, by simp [intOf]; omega⟩
       · have HB : Hid _ := matB_bad n zs x y hlt hylt HL.out (by rw [HT.out]; exact hgood)
         have hzz : ∀ (wr : World), wr.heap[w.heap.size + 1]? = some (.cells z0 243 (0, 0)) -> True := fun _ _ => trivial
         clear HO g3 g5 g1 hzz
         by_cases hv : 0 <= t /\ t <= 10000
         · have hvd : inB t 0 10000 = true := inB_mk (by omega)
           have hxe : x = y := by omega
           have hne : ((x : Int) == (y : Int)) = true := by simp; omega
           have ht0 : (t != 0) = true := by simp; omega
           clear hgood hxe hv
           go_wp2_with (first
            | (go_at_call 81; refine (within_any _ _ _ _).mono ?_; rintro e w' ⟨rfl, rfl⟩)
            | (refine wpList_store_row rfl 243 (.tmp 2) (.tmp 56) rfl (w.heap.size + 1) z0 rfl rfl 243 z0 g4 (by rw [<- HZ.out]; exact size41_of zeros_length) rfl (by rw [<- HZ.out]; exact cellsOf_one _) ?_))
           refine bodyPost_ret (v := .tuple #[.agg (cellsOf zeros), .bool false]) (ret_grid _ _ (w.heap.size + 1) zeros false zeros_length rfl rfl ?_) rfl ⟨?_, ?_⟩
           · rw [HZ.out]; exact setRow_heap _ _ _ _ _ _ g4
           · exact ret_grid_eq (by rw [gridRes_false HB.out]) HB.symm
           · exact below_setRow g2 (by omega) _
         · have hvd := inB_not hv
           clear hgood hv
           go_wp2_with (first
            | (go_at_call 81; refine (within_any _ _ _ _).mono ?_; rintro e w' ⟨rfl, rfl⟩)
            | (refine wpList_store_row rfl 243 (.tmp 2) (.tmp 56) rfl (w.heap.size + 1) z0 rfl rfl 243 z0 g4 (by rw [<- HZ.out]; exact size41_of zeros_length) rfl (by rw [<- HZ.out]; exact cellsOf_one _) ?_))
           refine bodyPost_ret (v := .tuple #[.agg (cellsOf zeros), .bool false]) (ret_grid _ _ (w.heap.size + 1) zeros false zeros_length rfl rfl ?_) rfl ⟨?_, ?_⟩
           · rw [HZ.out]; exact setRow_heap _ _ _ _ _ _ g4
           · exact ret_grid_eq (by rw [gridRes_false HB.out]) HB.symm
           · exact below_setRow g2 (by omega) _
     · have hye : y = n := by omega
       have HO : Hid (okTo n zs (x + 1) 0) := okTo_row (hye ▸ hok)
       have HG' : Hid (GW w wr n a cap z0 (gridTo n zs (x + 1) 0)) := by
        have := HG.out
        rw [hye, gridTo_row] at this
        exact this
       clear hok hye HG g3 g4 g5
       go_wp2_with fail
       refine ⟨⟨x + 1, by omega, by go_num, HG'.out, HO.out⟩, by simp [intOf]; omega⟩
  · have hge : n <= x := by omega
    have Hxn : Hid (x = n) := by show x = n; omega
    go_wp2_with (first
     | (refine wpList_load_row rfl 243 (.tmp 4) rfl (w.heap.size + 1 + 1) rfl 243 (cellsOf (gridTo n zs x 0)) (0, 0) _ g5 Tryz.underlying243 rfl (size41_of (gridTo_length _ _ _ _)) ?_)
     | (refine wpList_store_row rfl 243 (.tmp 2) (.tmp 64) rfl (w.heap.size + 1) (cellsOf (gridTo n zs x 0)) rfl rfl 243 z0 g4 (size41_of (gridTo_length _ _ _ _)) (by rw [<- HZ.out, cellsOf_size, cellsOf_size, zeros_length, gridTo_length]) (cellsOf_one _) ?_))
    refine bodyPost_ret (v := .tuple #[.agg (cellsOf (gridTo n zs x 0)), .bool true]) (ret_grid _ _ (w.heap.size + 1) (gridTo n zs x 0) true (gridTo_length _ _ _ _) rfl rfl ?_) rfl ⟨?_, ?_⟩
    · exact setRow_heap _ _ _ _ _ _ g4
    · have e := Hxn.out
      have hm := matB_of_okTo n zs h1 h2 HL.out (e ▸ hok)
      exact ret_grid_eq (by rw [gridRes_true hm, e]) hm.symm
    · exact below_setRow g2 (by omega) _
set_option maxHeartbeats 1000000 in
theorem grid_out (n : Int) (a : Option Addr) (len cap : Nat) (w : World) (hn : ¬ (1 <= n /\ n <= 16)) :
 Calls Tryz.prog 179 #[.agg #[.int .i64 n, .slice a len cap]] w fun e w' => e = .returned (.tuple #[.agg (cellsOf zeros), .bool false]) /\ Below w.heap.size w w' := by
 have hz := (zero_of_info Tryz.info41).1
 generalize hz0 : cellsOf zeros = z0 at hz
 have HZ : Hid _ := hz0
 clear hz0
 have hd1 := inB_not hn
 clear hn
 go_enter Tryz.func179, Tryz.ntmps179
 go_wp2_with fail
 refine (within_any _ _ _ _).mono ?_; rintro e w' ⟨rfl, rfl⟩
 have HG4 : Hid (((((w.alloc (Obj.cells #[Value.int .i64 n, Value.slice a len cap] 74)).alloc (Obj.cells z0 243)).alloc (Obj.cells z0 243)).heap)[w.heap.size + 1]? = some (.cells z0 243 (0, 0))) := by
  show _ = _
  rw [heap_alloc_old _ _ (by simp)]
  exact heap_alloc2_new _ _ _
 go_wp2_with (
  with_reducible refine wpList_store_row ?_ 243 (.tmp 2) (.tmp 23) ?_ (w.heap.size + 1) z0 ?_ ?_ 243 z0 ?_ ?_ ?_ ?_ ?_
  · rfl
  · rfl
  · rfl
  · rfl
  · exact HG4.out
  · rw [<- HZ.out]; exact size41_of zeros_length
  · rfl
  · rw [<- HZ.out]; exact cellsOf_one _)
 refine bodyPost_ret (v := .tuple #[.agg (cellsOf zeros), .bool false]) (ret_grid _ _ (w.heap.size + 1) zeros false zeros_length rfl rfl ?_) rfl ⟨by rw [HZ.out], ?_⟩
 · rw [HZ.out]; exact setRow_heap _ _ _ _ _ _ HG4.out
 · exact below_setRow ((((Below.refl _ _).alloc (Nat.le_refl _) _).alloc (by simp) _).alloc (by simp; omega) _) (by omega) _
set_option maxHeartbeats 1000000 in
theorem grid_len (n : Nat) (a : Option Addr) (len cap : Nat) (w : World) (h1 : 1 <= n) (h2 : n <= 16) (hl : len ≠ n * n) :
 Calls Tryz.prog 179 #[.agg #[.int .i64 n, .slice a len cap]] w fun e w' => e = .returned (.tuple #[.agg (cellsOf zeros), .bool false]) /\ Below w.heap.size w w' := by
 have hz := (zero_of_info Tryz.info41).1
 generalize hz0 : cellsOf zeros = z0 at hz
 have HZ : Hid _ := hz0
 clear hz0
 have hnn := mul_bd n n h2 h2
 have hd1 : inB (n : Int) 1 16 = true := inB_mk (by omega)
 have hnw : wrap64 ((n : Int) * (n : Int)) = (n : Int) * (n : Int) := IntWalk.wrap64_in _ (by rw [<- Int.natCast_mul]; omega)
 have hne : ((len : Int) != (n : Int) * (n : Int)) = true := by rw [bne_iff_ne, <- Int.natCast_mul]; omega
 have G4 : ((((w.alloc (Obj.cells #[Value.int .i64 n, .slice a len cap] 74)).alloc (Obj.cells z0 243)).alloc (Obj.cells z0 243)).heap)[w.heap.size + 1]? = some (.cells z0 243 (0, 0)) := by
  rw [heap_alloc_old _ _ (by simp)]
  exact heap_alloc2_new _ _ _
 have HG4 : Hid _ := G4
 clear G4 hl
 go_enter Tryz.func179, Tryz.ntmps179
 go_wp2_with (first
  | (go_at_call 81; refine (within_any _ _ _ _).mono ?_; rintro e w' ⟨rfl, rfl⟩)
  | (refine wpList_store_row rfl 243 (.tmp 2) (.tmp 23) rfl (w.heap.size + 1) z0 rfl rfl 243 z0 HG4.out (by rw [<- HZ.out]; exact size41_of zeros_length) rfl (by rw [<- HZ.out]; exact cellsOf_one _) ?_))
 refine bodyPost_ret (v := .tuple #[.agg (cellsOf zeros), .bool false]) (ret_grid _ _ (w.heap.size + 1) zeros false zeros_length rfl rfl ?_) rfl ⟨by rw [HZ.out], ?_⟩
 · rw [HZ.out]; exact setRow_heap _ _ _ _ _ _ HG4.out
 · exact below_setRow ((((Below.refl _ _).alloc (Nat.le_refl _) _).alloc (by simp) _).alloc (by simp; omega) _) (by omega) _
theorem grid_any (n : Int) (a : Option Addr) (cap : Nat) (zs : List Int) (w : World) (hA : IntsAt w a zs) :
 Calls Tryz.prog 179 #[.agg #[.int .i64 n, .slice a zs.length cap]] w fun e w' => e = .returned (.tuple #[.agg (cellsOf (gridRes n zs)), .bool (matB n zs)]) /\ Below w.heap.size w w' := by
 by_cases hn : 1 <= n /\ n <= 16
 · obtain ⟨m, rfl⟩ := Int.eq_ofNat_of_zero_le (show 0 <= n by omega)
   by_cases hl : zs.length = m * m
   · exact grid_loop m a cap zs w (by omega) (by omega) hl hA
   · have hm : matB (m : Int) zs = false := matB_not fun h => hl (by have := h.2.2.1; rw [<- Int.natCast_mul] at this; omega)
     rw [gridRes_false hm, hm]
     exact grid_len m a zs.length cap w (by omega) (by omega) hl
 · have hm : matB n zs = false := matB_not fun h => hn ⟨h.1, h.2.1⟩
   rw [gridRes_false hm, hm]
   exact grid_out n _ _ _ w hn
set_option maxHeartbeats 400000 in
theorem implMat_any (n : Int) (a : Option Addr) (cap : Nat) (zs : List Int) (w : World) (hA : IntsAt w a zs) :
 Calls Tryz.prog 147 #[.agg #[.int .i64 n, .slice a zs.length cap]] w fun e w' => e = .returned (.bool (matB n zs)) /\ Below w.heap.size w w' := by
 have HB0 : Hid (Below w.heap.size w (w.alloc (Obj.cells #[Value.int .i64 n, Value.slice a zs.length cap] 74))) :=
  (Below.refl _ _).alloc (Nat.le_refl _) _
 have HA : Hid (IntsAt w a zs) := hA
 clear hA
 have hz := (zero_of_info Tryz.info41).1
 go_enter Tryz.func147, Tryz.ntmps147
 go_wp2_with fail
 refine (grid_any n a cap zs _ (HA.below HB0.out)).mono ?_
 rintro e w1 ⟨rfl, hb⟩
 have HB1 : Hid _ := hb
 clear hb
 generalize hz0 : cellsOf zeros = z0 at hz
 have HZ : Hid _ := hz0
 clear hz0
 generalize hgr : cellsOf (gridRes n zs) = gr
 have HGR : Hid _ := hgr
 clear hgr
 go_wp2_with (
  with_reducible refine wpList_store_row ?_ 243 (.tmp 3) (.tmp 8) ?_ w1.heap.size gr ?_ ?_ 243 z0 ?_ ?_ ?_ ?_ ?_
  · rfl
  · rfl
  · rfl
  · rfl
  · exact heap_alloc_new _ _
  · rw [<- HGR.out]; exact size41_of (gridRes_length _ _)
  · rw [<- HZ.out, <- HGR.out, cellsOf_size, cellsOf_size, zeros_length, gridRes_length]
  · rw [<- HGR.out]; exact cellsOf_one _)
 go_ret
 refine ⟨rfl, below_setRow ((HB0.trans (HB1.mono (by simp <;> omega))).alloc ?_ _) ?_ _⟩
 all_goals
  have := HB1.size
  simp at this
  omega
set_option maxHeartbeats 1000000 in
theorem implCase_any (n fine : Int) (a ao av : Option Addr) (cap ko co kv cv : Nat) (zs os vs : List Int) (w : World) (hA : IntsAt w a zs) (hO : IntsAt w ao os) (hV : IntsAt w av vs) (hlo : os.length = ko * 6) (hlv : vs.length = kv * 5) (hko : ko <= 9223372036854775807) (hkv : kv <= 9223372036854775807) :
 Calls Tryz.prog 107 #[.agg #[.int .i64 n, .slice a zs.length cap, .slice ao ko co, .slice av kv cv, .int .i64 fine]] w fun e w' => e = .returned (.bool (caseB n zs os vs ko kv fine)) /\ Below w.heap.size w w' := by
 have HB0 : Hid (Below w.heap.size w (w.alloc (Obj.cells #[Value.int .i64 n, Value.slice a zs.length cap, Value.slice ao ko co, Value.slice av kv cv, Value.int .i64 fine] 78))) := (Below.refl _ _).alloc (Nat.le_refl _) _
 have HA : Hid (IntsAt w a zs) := hA
 have HO : Hid (IntsAt w ao os) := hO
 have HV : Hid (IntsAt w av vs) := hV
 have HLO : Hid _ := hlo
 have HLV : Hid _ := hlv
 clear hA hO hV hlo hlv
 cases h1 : matB n zs
 · have HM : Hid _ := h1
   have HC : Hid (caseB n zs os vs ko kv fine = false) := by show _ = _; simp [caseB, h1]
   clear h1
   go_enter Tryz.func107, Tryz.ntmps107
   go_wp2_with fail
   refine (implMat_any n a cap zs _ (HA.below HB0.out)).mono ?_
   rintro e w1 ⟨rfl, hb⟩
   rw [HM.out]
   obtain ⟨b1, r1⟩ := box5 hb
   clear hb
   go_wp2
   go_ret
   exact ⟨ret_bool HC.symm, b1⟩
 · obtain ⟨hn1, hn2, _, _⟩ := matB_true h1
   have HM : Hid _ := h1
   cases h2 : ordsB n os ko
   · have HC : Hid (caseB n zs os vs ko kv fine = false) := by show _ = _; simp [caseB, h1, h2]
     have HO2 : Hid _ := h2
     clear h1 h2
     go_enter Tryz.func107, Tryz.ntmps107
     go_wp2_with fail
     refine (implMat_any n a cap zs _ (HA.below HB0.out)).mono ?_
     rintro e w1 ⟨rfl, hb⟩
     rw [HM.out]
     obtain ⟨b1, r1⟩ := box5 hb
     obtain ⟨c0, c1, c2, c3, c4⟩ := cells5 r1
     have B1 : Hid _ := b1
     clear hb b1 r1
     go_wp2_with fail
     refine (ordersOk_any n fine a ao av _ _ _ _ _ _ os _ hn1 hn2 (HO.below B1.out) HLO.out hko).mono ?_
     rintro e w2 ⟨rfl, hb⟩
     rw [HO2.out]
     go_wp2
     go_ret
     exact ⟨ret_bool HC.symm, B1.trans (hb.mono B1.size)⟩
   · have HO2 : Hid _ := h2
     cases h3 : vehsB n vs kv
     · have HC : Hid (caseB n zs os vs ko kv fine = false) := by show _ = _; simp [caseB, h1, h2, h3]
       have HV2 : Hid _ := h3
       clear h1 h2 h3
       go_enter Tryz.func107, Tryz.ntmps107
       go_wp2_with fail
       refine (implMat_any n a cap zs _ (HA.below HB0.out)).mono ?_
       rintro e w1 ⟨rfl, hb⟩
       rw [HM.out]
       obtain ⟨b1, r1⟩ := box5 hb
       obtain ⟨c0, c1, c2, c3, c4⟩ := cells5 r1
       have B1 : Hid _ := b1
       have R1 : Hid _ := r1
       clear hb b1 r1
       go_wp2_with fail
       refine (ordersOk_any n fine a ao av _ _ _ _ _ _ os _ hn1 hn2 (HO.below B1.out) HLO.out hko).mono ?_
       rintro e w2 ⟨rfl, hb⟩
       rw [HO2.out]
       obtain ⟨b2, r2⟩ := box_more hb B1.out R1.out
       clear c0 c1 c2 c3 c4
       obtain ⟨c0, c1, c2, c3, c4⟩ := cells5 r2
       have B2 : Hid _ := b2
       clear hb b2 r2
       go_wp2_with fail
       refine (vehiclesOk_any n fine a ao av _ _ _ _ _ _ vs _ hn1 hn2 (HV.below B2.out) HLV.out hkv).mono ?_
       rintro e w3 ⟨rfl, hb⟩
       rw [HV2.out]
       go_wp2
       go_ret
       exact ⟨ret_bool HC.symm, B2.trans (hb.mono B2.size)⟩
     · have HC : Hid (caseB n zs os vs ko kv fine = inB fine 0 1000000) := by show _ = _; simp [caseB, h1, h2, h3]
       have HV2 : Hid _ := h3
       clear h1 h2 h3
       go_enter Tryz.func107, Tryz.ntmps107
       go_wp2_with fail
       refine (implMat_any n a cap zs _ (HA.below HB0.out)).mono ?_
       rintro e w1 ⟨rfl, hb⟩
       rw [HM.out]
       obtain ⟨b1, r1⟩ := box5 hb
       obtain ⟨c0, c1, c2, c3, c4⟩ := cells5 r1
       have B1 : Hid _ := b1
       have R1 : Hid _ := r1
       clear hb b1 r1
       go_wp2_with fail
       refine (ordersOk_any n fine a ao av _ _ _ _ _ _ os _ hn1 hn2 (HO.below B1.out) HLO.out hko).mono ?_
       rintro e w2 ⟨rfl, hb⟩
       rw [HO2.out]
       obtain ⟨b2, r2⟩ := box_more hb B1.out R1.out
       clear c0 c1 c2 c3 c4
       obtain ⟨c0, c1, c2, c3, c4⟩ := cells5 r2
       have B2 : Hid _ := b2
       have R2 : Hid _ := r2
       clear hb b2 r2
       go_wp2_with fail
       refine (vehiclesOk_any n fine a ao av _ _ _ _ _ _ vs _ hn1 hn2 (HV.below B2.out) HLV.out hkv).mono ?_
       rintro e w3 ⟨rfl, hb⟩
       rw [HV2.out]
       obtain ⟨b3, r3⟩ := box_more hb B2.out R2.out
       clear c0 c1 c2 c3 c4
       obtain ⟨c0, c1, c2, c3, c4⟩ := cells5 r3
       clear hb r3
       go_wp2_with (go_at_call 81; refine (within_any _ _ _ _).mono ?_; rintro e w' ⟨rfl, rfl⟩)
       go_ret
       exact ⟨ret_bool HC.symm, b3⟩
set_option maxHeartbeats 400000 in
theorem l1In_any (n lo hi : Int) (w : World) :
 Calls Tryz.prog 76 #[.int .i64 n, .int .i64 lo, .int .i64 hi] w fun e w' => e = .returned (.bool (inB n lo hi)) /\ w' = w := by
 by_cases h1 : lo <= n
 · by_cases h2 : n <= hi
   · have h3 := inB_mk ⟨h1, h2⟩
     rw [h3]
     go_enter Tryz.func76, Tryz.ntmps76
     go_wp2
     go_ret
     exact ⟨by simp, rfl⟩
   · have h3 : inB n lo hi = false := inB_not (by omega)
     rw [h3]
     go_enter Tryz.func76, Tryz.ntmps76
     go_wp2
     go_ret
     exact ⟨by simp, rfl⟩
 · have h3 : inB n lo hi = false := inB_not (by omega)
   rw [h3]
   go_enter Tryz.func76, Tryz.ntmps76
   go_wp2
   go_ret
   exact ⟨by simp, rfl⟩
set_option maxHeartbeats 400000 in
theorem l2Order_any (n o0 o1 o2 o3 o4 o5 : Int) (w : World) (hn1 : 1 <= n) (hn2 : n <= 16) :
 Calls Tryz.prog 120 #[.agg #[.int .i64 o0, .int .i64 o1, .int .i64 o2, .int .i64 o3, .int .i64 o4, .int .i64 o5], .int .i64 n] w fun e w' => e = .returned (.bool (ordB n o0 o1 o2 o3 o4 o5)) /\ Below w.heap.size w w' := by
 cases h0 : inB o0 1 1000000000
 · go_enter Tryz.func120, Tryz.ntmps120
   go_wp2_with (first | (go_at_call 76; refine (l1In_any _ _ _ _).mono ?_; rintro e w' ⟨rfl, rfl⟩))
   go_ret
   exact ⟨ret_bool (by simp [ordB, ordIn, hoursB, h0]), (Below.refl _ _).alloc (Nat.le_refl _) _⟩
 · cases h1 : inB o1 0 (n - 1)
   · go_enter Tryz.func120, Tryz.ntmps120
     go_wp2_with (first | (go_at_call 76; refine (l1In_any _ _ _ _).mono ?_; rintro e w' ⟨rfl, rfl⟩))
     go_ret
     exact ⟨ret_bool (by simp [ordB, ordIn, hoursB, h0, h1]), (Below.refl _ _).alloc (Nat.le_refl _) _⟩
   · cases h2 : inB o2 0 1000
     · go_enter Tryz.func120, Tryz.ntmps120
       go_wp2_with (first | (go_at_call 76; refine (l1In_any _ _ _ _).mono ?_; rintro e w' ⟨rfl, rfl⟩))
       go_ret
       exact ⟨ret_bool (by simp [ordB, ordIn, hoursB, h0, h1, h2]), (Below.refl _ _).alloc (Nat.le_refl _) _⟩
     · cases h3 : inB o3 0 1000000
       · go_enter Tryz.func120, Tryz.ntmps120
         go_wp2_with (first | (go_at_call 76; refine (l1In_any _ _ _ _).mono ?_; rintro e w' ⟨rfl, rfl⟩))
         go_ret
         exact ⟨ret_bool (by simp [ordB, ordIn, hoursB, h0, h1, h2, h3]), (Below.refl _ _).alloc (Nat.le_refl _) _⟩
       · cases h4 : inB o4 o3 1000000
         · go_enter Tryz.func120, Tryz.ntmps120
           go_wp2_with (first | (go_at_call 76; refine (l1In_any _ _ _ _).mono ?_; rintro e w' ⟨rfl, rfl⟩))
           go_ret
           exact ⟨ret_bool (by simp [ordB, ordIn, hoursB, h0, h1, h2, h3, h4]), (Below.refl _ _).alloc (Nat.le_refl _) _⟩
         · cases h5 : inB o5 0 10000
           · go_enter Tryz.func120, Tryz.ntmps120
             go_wp2_with (first | (go_at_call 76; refine (l1In_any _ _ _ _).mono ?_; rintro e w' ⟨rfl, rfl⟩))
             go_ret
             exact ⟨ret_bool (by simp [ordB, ordIn, hoursB, h0, h1, h2, h3, h4, h5]), (Below.refl _ _).alloc (Nat.le_refl _) _⟩
           · go_enter Tryz.func120, Tryz.ntmps120
             go_wp2_with (first | (go_at_call 76; refine (l1In_any _ _ _ _).mono ?_; rintro e w' ⟨rfl, rfl⟩))
             go_ret
             exact ⟨ret_bool (by simp [ordB, ordIn, hoursB, h0, h1, h2, h3, h4, h5]), (Below.refl _ _).alloc (Nat.le_refl _) _⟩
set_option maxHeartbeats 400000 in
theorem l2Vehicle_any (n o0 o1 o2 o3 o4 : Int) (w : World) (hn1 : 1 <= n) (hn2 : n <= 16) :
 Calls Tryz.prog 121 #[.agg #[.int .i64 o0, .int .i64 o1, .int .i64 o2, .int .i64 o3, .int .i64 o4], .int .i64 n] w fun e w' => e = .returned (.bool (vehB n o0 o1 o2 o3 o4)) /\ Below w.heap.size w w' := by
 cases h0 : inB o0 1 1000000000
 · go_enter Tryz.func121, Tryz.ntmps121
   go_wp2_with (first | (go_at_call 76; refine (l1In_any _ _ _ _).mono ?_; rintro e w' ⟨rfl, rfl⟩))
   go_ret
   exact ⟨ret_bool (by simp [vehB, vehIn, hoursB, h0]), (Below.refl _ _).alloc (Nat.le_refl _) _⟩
 · cases h1 : inB o1 0 (n - 1)
   · go_enter Tryz.func121, Tryz.ntmps121
     go_wp2_with (first | (go_at_call 76; refine (l1In_any _ _ _ _).mono ?_; rintro e w' ⟨rfl, rfl⟩))
     go_ret
     exact ⟨ret_bool (by simp [vehB, vehIn, hoursB, h0, h1]), (Below.refl _ _).alloc (Nat.le_refl _) _⟩
   · cases h2 : inB o2 0 1000
     · go_enter Tryz.func121, Tryz.ntmps121
       go_wp2_with (first | (go_at_call 76; refine (l1In_any _ _ _ _).mono ?_; rintro e w' ⟨rfl, rfl⟩))
       go_ret
       exact ⟨ret_bool (by simp [vehB, vehIn, hoursB, h0, h1, h2]), (Below.refl _ _).alloc (Nat.le_refl _) _⟩
     · cases h3 : inB o3 0 1000000
       · go_enter Tryz.func121, Tryz.ntmps121
         go_wp2_with (first | (go_at_call 76; refine (l1In_any _ _ _ _).mono ?_; rintro e w' ⟨rfl, rfl⟩))
         go_ret
         exact ⟨ret_bool (by simp [vehB, vehIn, hoursB, h0, h1, h2, h3]), (Below.refl _ _).alloc (Nat.le_refl _) _⟩
       · cases h4 : inB o4 o3 1000000
         · go_enter Tryz.func121, Tryz.ntmps121
           go_wp2_with (first | (go_at_call 76; refine (l1In_any _ _ _ _).mono ?_; rintro e w' ⟨rfl, rfl⟩))
           go_ret
           exact ⟨ret_bool (by simp [vehB, vehIn, hoursB, h0, h1, h2, h3, h4]), (Below.refl _ _).alloc (Nat.le_refl _) _⟩
         · go_enter Tryz.func121, Tryz.ntmps121
           go_wp2_with (first | (go_at_call 76; refine (l1In_any _ _ _ _).mono ?_; rintro e w' ⟨rfl, rfl⟩))
           go_ret
           exact ⟨ret_bool (by simp [vehB, vehIn, hoursB, h0, h1, h2, h3, h4]), (Below.refl _ _).alloc (Nat.le_refl _) _⟩
set_option maxHeartbeats 1000000 in
theorem specMat_loop (n : Nat) (a : Option Addr) (cap : Nat) (zs : List Int) (w : World) (h1 : 1 <= n) (h2 : n <= 16) (hl : zs.length = n * n) (hA : IntsAt w a zs) :
 Calls Tryz.prog 119 #[.agg #[.int .i64 n, .slice a zs.length cap]] w fun e w' => e = .returned (.bool (matB n zs)) /\ Below w.heap.size w w' := by
 have hnn := mul_bd n n h2 h2
 have hd1 : inB (n : Int) 1 16 = true := inB_mk (by omega)
 have hnw : wrap64 ((n : Int) * (n : Int)) = (n : Int) * (n : Int) := IntWalk.wrap64_in _ (by rw [<- Int.natCast_mul]; omega)
 have hn0 : ¬ n = 0 := by omega
 have HA : Hid _ := hA
 clear hA
 rw [hl]
 have HL : Hid _ := hl
 clear hl
 go_enter Tryz.func119, Tryz.ntmps119
 go_wp2_with (go_at_call 76; refine (l1In_any _ _ _ _).mono ?_; rintro e w' ⟨rfl, rfl⟩)
 go_loopw [3] (fun t wr => ∃ k : Nat, k <= n * n /\ t = .int .i64 k /\ Below w.heap.size w wr /\ wr.heap[w.heap.size]? = some (.cells #[.int .i64 n, .slice a (n * n) cap] 74 (0, 0)) /\ (∀ i, i < k -> 0 <= zs.getD i 0 /\ zs.getD i 0 <= 10000 /\ (i / n = i % n -> zs.getD i 0 = 0))) (fun t _ => n * n - (intOf t).toNat)
 case atStart => exact ⟨0, Nat.zero_le _, rfl, (Below.refl _ _).alloc (Nat.le_refl _) _, heap_alloc_new _ _, fun i hi => by omega⟩
 case round =>
  obtain ⟨k, hk, rfl, hb, g3, hok⟩ := hrel
  have c0 := cell_of_row _ _ 0 _ _ _ g3
  have c1 := cell_of_row _ _ 1 _ _ _ g3
  simp at c0 c1
  have HO : Hid _ := hok
  have G3 : Hid _ := g3
  have HB : Hid _ := hb
  clear hok
  by_cases hlt : k < n * n
  · obtain ⟨bb, off, rfl, hcs⟩ := IntsAt.some (IntsAt.below HA.out hb) (j := k) (by rw [HL.out]; exact hlt)
    have ct := hcs k (by rw [HL.out]; exact hlt)
    clear hcs
    generalize htt : zs.getD k 0 = t at ct
    have HT : Hid _ := htt
    clear htt g3 hb
    have hw1 : IntKind.i64.wrap ((k : Int) / (n : Int)) = (k : Int) / (n : Int) := by
     rw [IntKind.wrap_i64, <- Int.natCast_ediv]
     have hq := Nat.div_le_self k n
     generalize k / n = q at hq
     omega
    have hw2 : (k : Int).tmod (n : Int) = (k : Int) % (n : Int) := Int.tmod_eq_emod_of_nonneg (by omega)
    have hlt' : (k : Int) < (n : Int) * (n : Int) := by rw [<- Int.natCast_mul]; omega
    by_cases hv : 0 <= t /\ t <= 10000
    · have hvd := inB_mk hv
      by_cases hq : k / n = k % n
      · have hqb : ((k : Int) / (n : Int) == (k : Int) % (n : Int)) = true := by simp; omega
        by_cases ht0 : t = 0
        · have htb : (t != 0) = false := by simp [ht0]
          have HS : Hid (∀ i, i < k + 1 -> 0 <= zs.getD i 0 /\ zs.getD i 0 <= 10000 /\ (i / n = i % n -> zs.getD i 0 = 0)) := by
           intro i hi
           by_cases e : i = k
           · rw [e, HT.out]; exact ⟨hv.1, hv.2, fun _ => ht0⟩
           · exact HO.out i (by omega)
          clear HO hq ht0
          go_wp2
          go_quiet ((go_at_call 76; exact Calls.quiet_of_same (l1In_any _ _ _ _)))
          go_wp2
          refine ⟨⟨k + 1, by omega, by go_num, below_drewN HB.out _, G3.out, HS.out⟩, by simp [intOf]; omega⟩
        · have htb : (t != 0) = true := by simp [ht0]
          have HN : Hid _ := matB_at n zs HL.out k hlt (by rw [HT.out]; exact fun h => ht0 (h.2.2 hq))
          clear HO hq ht0
          go_wp2
          go_quiet ((go_at_call 76; exact Calls.quiet_of_same (l1In_any _ _ _ _)))
          go_wp2
          go_ret
          exact ⟨ret_bool HN.symm, below_drewN HB.out _⟩
      · have hqb : ((k : Int) / (n : Int) == (k : Int) % (n : Int)) = false := by simp; omega
        have HS : Hid (∀ i, i < k + 1 -> 0 <= zs.getD i 0 /\ zs.getD i 0 <= 10000 /\ (i / n = i % n -> zs.getD i 0 = 0)) := by
         intro i hi
         by_cases e : i = k
         · rw [e, HT.out]; exact ⟨hv.1, hv.2, fun h => absurd h hq⟩
         · exact HO.out i (by omega)
        clear HO hq
        go_wp2
        go_quiet ((go_at_call 76; exact Calls.quiet_of_same (l1In_any _ _ _ _)))
        go_wp2
        refine ⟨⟨k + 1, by omega, by go_num, below_drewN HB.out _, G3.out, HS.out⟩, by simp [intOf]; omega⟩
    · have hvd := inB_not hv
      have HN : Hid _ := matB_at n zs HL.out k hlt (by rw [HT.out]; exact fun h => hv ⟨h.1, h.2.1⟩)
      clear HO hv
      go_wp2
      go_quiet ((go_at_call 76; exact Calls.quiet_of_same (l1In_any _ _ _ _)))
      go_wp2
      go_ret
      exact ⟨ret_bool HN.symm, below_drewN HB.out _⟩
  · have hge' : (n : Int) * (n : Int) <= (k : Int) := by rw [<- Int.natCast_mul]; omega
    have HN : Hid _ := matB_all n zs h1 h2 HL.out (fun i hi => HO.out i (by omega))
    clear HO g3
    go_wp2
    go_ret
    exact ⟨ret_bool HN.symm, HB.out⟩
set_option maxHeartbeats 1000000 in
theorem specMat_no (n : Int) (a : Option Addr) (len cap : Nat) (w : World) (h : ¬ (1 <= n /\ n <= 16 /\ (len : Int) = n * n)) :
 Calls Tryz.prog 119 #[.agg #[.int .i64 n, .slice a len cap]] w fun e w' => e = .returned (.bool false) /\ Below w.heap.size w w' := by
 by_cases hn : 1 <= n /\ n <= 16
 · obtain ⟨m, rfl⟩ := Int.eq_ofNat_of_zero_le (show 0 <= n by omega)
   have hnn : m * m <= 256 := mul_bd m m (by omega) (by omega)
   have hd1 := inB_mk hn
   have hnw : wrap64 ((m : Int) * (m : Int)) = (m : Int) * (m : Int) := IntWalk.wrap64_in _ (by rw [<- Int.natCast_mul]; omega)
   have hne : ((len : Int) != (m : Int) * (m : Int)) = true := by
    rw [bne_iff_ne]; exact fun e => h ⟨hn.1, hn.2, e⟩
   clear h
   go_enter Tryz.func119, Tryz.ntmps119
   go_wp2_with (go_at_call 76; refine (l1In_any _ _ _ _).mono ?_; rintro e w' ⟨rfl, rfl⟩)
   go_ret
   exact ⟨rfl, (Below.refl _ _).alloc (Nat.le_refl _) _⟩
 · have hd1 := inB_not hn
   clear h hn
   go_enter Tryz.func119, Tryz.ntmps119
   go_wp2_with (go_at_call 76; refine (l1In_any _ _ _ _).mono ?_; rintro e w' ⟨rfl, rfl⟩)
   go_ret
   exact ⟨rfl, (Below.refl _ _).alloc (Nat.le_refl _) _⟩
theorem specMat_any (n : Int) (a : Option Addr) (cap : Nat) (zs : List Int) (w : World) (hA : IntsAt w a zs) :
 Calls Tryz.prog 119 #[.agg #[.int .i64 n, .slice a zs.length cap]] w fun e w' => e = .returned (.bool (matB n zs)) /\ Below w.heap.size w w' := by
 by_cases h : 1 <= n /\ n <= 16 /\ (zs.length : Int) = n * n
 · obtain ⟨m, rfl⟩ := Int.eq_ofNat_of_zero_le (show 0 <= n by omega)
   exact specMat_loop m a cap zs w (by omega) (by omega) (by have := h.2.2; rw [<- Int.natCast_mul] at this; omega) hA
 · have hm := matB_not fun k => h ⟨k.1, k.2.1, k.2.2.1⟩
   rw [hm]
   exact specMat_no n a _ cap w h
set_option maxHeartbeats 1000000 in
theorem specCase_no (n fine : Int) (a ao av : Option Addr) (cap ko co kv cv : Nat) (zs os vs : List Int) (w : World) (hA : IntsAt w a zs) (hko : ko <= 9223372036854775807) (hkv : kv <= 9223372036854775807) (h : ¬ (matB n zs = true /\ ko <= 12 /\ kv <= 5 /\ inB fine 0 1000000 = true)) :
 Calls Tryz.prog 77 #[.agg #[.int .i64 n, .slice a zs.length cap, .slice ao ko co, .slice av kv cv, .int .i64 fine]] w fun e w' => e = .returned (.bool (caseB n zs os vs ko kv fine)) /\ Below w.heap.size w w' := by
 have HB0 : Hid (Below w.heap.size w (w.alloc (Obj.cells #[Value.int .i64 n, Value.slice a zs.length cap, Value.slice ao ko co, Value.slice av kv cv, Value.int .i64 fine] 78))) := (Below.refl _ _).alloc (Nat.le_refl _) _
 have HA : Hid (IntsAt w a zs) := hA
 clear hA
 have HC : Hid (caseB n zs os vs ko kv fine = false) := by
  show _ = _
  unfold caseB
  cases h1 : matB n zs
  · rfl
  · cases h2 : ordsB n os ko
    · rfl
    · cases h3 : vehsB n vs kv
      · rfl
      · cases h4 : inB fine 0 1000000
        · rfl
        · exact absurd ⟨h1, (ordsB_true h2).1, (vehsB_true h3).1, h4⟩ h
 cases h1 : matB n zs
 · have HM : Hid _ := h1
   clear h1 h
   go_enter Tryz.func77, Tryz.ntmps77
   go_wp2_with fail
   refine (specMat_any n a cap zs _ (HA.below HB0.out)).mono ?_
   rintro e w1 ⟨rfl, hb⟩
   rw [HM.out]
   obtain ⟨b1, r1⟩ := box5 hb
   obtain ⟨c0, c1, c2, c3, c4⟩ := cells5 r1
   have B1 : Hid _ := b1
   have R1 : Hid _ := r1
   clear hb b1 r1
   go_wp2_with (first | (go_at_call 76; refine (l1In_any _ _ _ _).mono ?_; rintro e w' ⟨rfl, rfl⟩))
   go_ret
   exact ⟨ret_bool HC.symm, B1.out⟩
 · have HM : Hid _ := h1
   by_cases h2 : ko <= 12
   · by_cases h3 : kv <= 5
     · have h4 : inB fine 0 1000000 = false := by
        cases h4 : inB fine 0 1000000
        · rfl
        · exact absurd ⟨h1, h2, h3, h4⟩ h
       clear h1 h
       go_enter Tryz.func77, Tryz.ntmps77
       go_wp2_with fail
       refine (specMat_any n a cap zs _ (HA.below HB0.out)).mono ?_
       rintro e w1 ⟨rfl, hb⟩
       rw [HM.out]
       obtain ⟨b1, r1⟩ := box5 hb
       obtain ⟨c0, c1, c2, c3, c4⟩ := cells5 r1
       have B1 : Hid _ := b1
       have R1 : Hid _ := r1
       clear hb b1 r1
       go_wp2_with (first | (go_at_call 76; refine (l1In_any _ _ _ _).mono ?_; rintro e w' ⟨rfl, rfl⟩))
       go_ret
       exact ⟨ret_bool HC.symm, B1.out⟩
     · clear h1 h
       go_enter Tryz.func77, Tryz.ntmps77
       go_wp2_with fail
       refine (specMat_any n a cap zs _ (HA.below HB0.out)).mono ?_
       rintro e w1 ⟨rfl, hb⟩
       rw [HM.out]
       obtain ⟨b1, r1⟩ := box5 hb
       obtain ⟨c0, c1, c2, c3, c4⟩ := cells5 r1
       have B1 : Hid _ := b1
       have R1 : Hid _ := r1
       clear hb b1 r1
       go_wp2_with (first | (go_at_call 76; refine (l1In_any _ _ _ _).mono ?_; rintro e w' ⟨rfl, rfl⟩))
       go_ret
       exact ⟨ret_bool HC.symm, B1.out⟩
   · clear h1 h
     go_enter Tryz.func77, Tryz.ntmps77
     go_wp2_with fail
     refine (specMat_any n a cap zs _ (HA.below HB0.out)).mono ?_
     rintro e w1 ⟨rfl, hb⟩
     rw [HM.out]
     obtain ⟨b1, r1⟩ := box5 hb
     obtain ⟨c0, c1, c2, c3, c4⟩ := cells5 r1
     have B1 : Hid _ := b1
     have R1 : Hid _ := r1
     clear hb b1 r1
     go_wp2_with (first | (go_at_call 76; refine (l1In_any _ _ _ _).mono ?_; rintro e w' ⟨rfl, rfl⟩))
     go_ret
     exact ⟨ret_bool HC.symm, B1.out⟩
theorem caseB_def (n : Int) (zs os vs : List Int) (ko kv : Nat) (fine : Int) : caseB n zs os vs ko kv fine = (matB n zs && ordsB n os ko && vehsB n vs kv && inB fine 0 1000000) := rfl
set_option maxHeartbeats 2000000 in
theorem specCase_loop (n fine : Int) (a ao av : Option Addr) (cap ko co kv cv : Nat) (zs os vs : List Int) (w : World) (hA : IntsAt w a zs) (hO : IntsAt w ao os) (hV : IntsAt w av vs) (hlo : os.length = ko * 6) (hlv : vs.length = kv * 5) (hm : matB n zs = true) (hko : ko <= 12) (hkv : kv <= 5) (hf : inB fine 0 1000000 = true) :
 Calls Tryz.prog 77 #[.agg #[.int .i64 n, .slice a zs.length cap, .slice ao ko co, .slice av kv cv, .int .i64 fine]] w fun e w' => e = .returned (.bool (caseB n zs os vs ko kv fine)) /\ Below w.heap.size w w' := by
 have HB0 : Hid (Below w.heap.size w (w.alloc (Obj.cells #[Value.int .i64 n, Value.slice a zs.length cap, Value.slice ao ko co, Value.slice av kv cv, Value.int .i64 fine] 78))) := (Below.refl _ _).alloc (Nat.le_refl _) _
 have HA : Hid (IntsAt w a zs) := hA
 have HX6 : Hid (IntsAt w ao os) := hO
 have HX5 : Hid (IntsAt w av vs) := hV
 have HLX6 : Hid _ := hlo
 have HLX5 : Hid _ := hlv
 have HM : Hid _ := hm
 obtain ⟨hn1, hn2, _, _⟩ := matB_true hm
 have hdk : decide ((12 : Int) < (ko : Int)) = false := by simp; omega
 have hdv : decide ((5 : Int) < (kv : Int)) = false := by simp; omega
 clear hA hO hV hlo hlv hm
 go_enter Tryz.func77, Tryz.ntmps77
 go_wp2_with fail
 refine (specMat_any n a cap zs _ (HA.below HB0.out)).mono ?_
 rintro e w1 ⟨rfl, hb⟩
 rw [HM.out]
 obtain ⟨b1, r1⟩ := box5 hb
 obtain ⟨c0, c1, c2, c3, c4⟩ := cells5 r1
 have B1 : Hid _ := b1
 have R1 : Hid _ := r1
 clear hb b1 r1
 go_wp2_with (first | (go_at_call 76; refine (l1In_any _ _ _ _).mono ?_; rintro e w' ⟨rfl, rfl⟩))
 clear c0 c1 c2 c3 c4
 go_loopw [3] (fun t wr => ∃ k : Nat, k <= ko /\ t = .int .i64 k /\ ordsTo n os k /\ Below w.heap.size w wr /\ wr.heap[w.heap.size]? = some (.cells #[Value.int .i64 n, Value.slice a zs.length cap, Value.slice ao ko co, Value.slice av kv cv, Value.int .i64 fine] 78 (0, 0))) (fun t _ => ko - (intOf t).toNat)
 case atStart => exact ⟨0, Nat.zero_le _, rfl, ordsTo_zero _ _, B1.out, R1.out⟩
 case round =>
  clear B1 R1
  obtain ⟨k, hk, rfl, ht, hb, g3⟩ := hrel
  have HT : Hid _ := ht
  have G3 : Hid _ := g3
  have HB : Hid _ := hb
  obtain ⟨c0, c1, c2, c3, c4⟩ := cells5 g3
  clear ht
  by_cases hlt : k < ko
  · obtain ⟨b, off, rfl, hcs⟩ := IntsAt.some (IntsAt.below HX6.out hb) (j := k * 6) (by rw [HLX6.out]; omega)
    obtain ⟨r0, r1, r2, r3, r4, r5⟩ := row6_at hcs HLX6.out k hlt
    have HCS : Hid _ := hcs
    clear hcs g3 hb
    obtain ⟨o0, H0⟩ := nmd (og6 os k 0)
    obtain ⟨o1, H1⟩ := nmd (og6 os k 1)
    obtain ⟨o2, H2⟩ := nmd (og6 os k 2)
    obtain ⟨o3, H3⟩ := nmd (og6 os k 3)
    obtain ⟨o4, H4⟩ := nmd (og6 os k 4)
    obtain ⟨o5, H5⟩ := nmd (og6 os k 5)
    rw [H0.out] at r0
    rw [H1.out] at r1
    rw [H2.out] at r2
    rw [H3.out] at r3
    rw [H4.out] at r4
    rw [H5.out] at r5
    have s0 := fun s : Kin wr => s.cell c0
    have s1 := fun s : Kin wr => s.cell c2
    have t0 := fun s : Kin wr => s.cell r0
    have t1 := fun s : Kin wr => s.cell r1
    have t2 := fun s : Kin wr => s.cell r2
    have t3 := fun s : Kin wr => s.cell r3
    have t4 := fun s : Kin wr => s.cell r4
    have t5 := fun s : Kin wr => s.cell r5
    cases h1 : ordB n o0 o1 o2 o3 o4 o5
    · have HN : Hid _ := ordsB_bad hlt (by rw [H0.out, H1.out, H2.out, H3.out, H4.out, H5.out, h1]; simp)
      go_wp2_with fail
      have hkin := Kin.there wr
      refine wp_region_kin (by kernel_rfl) (by kernel_rfl) ?_
      repeat (go_big_quiet_step ((go_at_call 120; exact Kin.call (l2Order_any n _ _ _ _ _ _ _ hn1 hn2))))
      refine wpQuiet_nil ?_
      rintro _ ⟨s, rfl⟩
      have HS2 := HB.trans (s.below.mono HB.size)
      have R2 := below_row s.below (row_lt G3.out) G3.out
      generalize s.w = w2 at *
      go_wp2
      go_ret
      exact ⟨ret_bool (by simp [caseB_def, HN.out]), HS2⟩
    · by_cases hk0 : k = 0
      · have HS : Hid (ordsTo n os (k + 1)) := ordsTo_step HT.out (by rw [H0.out, H1.out, H2.out, H3.out, H4.out, H5.out]; exact h1) (fun h => by omega)
        have hkz : (decide (0 < k)) = false := by simp; omega
        have hk1 : k <= 0 := by omega
        clear hk0
        go_wp2_with fail
        have hkin := Kin.there wr
        refine wp_region_kin (by kernel_rfl) (by kernel_rfl) ?_
        repeat (go_big_quiet_step ((go_at_call 120; exact Kin.call (l2Order_any n _ _ _ _ _ _ _ hn1 hn2))))
        refine wpQuiet_nil ?_
        rintro _ ⟨s, rfl⟩
        have HS2 := HB.trans (s.below.mono HB.size)
        have R2 := below_row s.below (row_lt G3.out) G3.out
        generalize s.w = w2 at *
        go_wp2
        refine ⟨⟨k + 1, by omega, by go_num, HS.out, HS2, R2⟩, by simp [intOf]; omega⟩
      · have hk1 : 0 < k := by omega
        obtain ⟨rp, _⟩ := row6_at HCS.out HLX6.out (k - 1) (by omega)
        obtain ⟨p, HP⟩ := nmd (og6 os (k - 1) 0)
        rw [HP.out] at rp
        have tp := fun s : Kin wr => s.cell rp
        have hkm : k - 1 < ko := by omega
        have hw1 : IntKind.i64.wrap ((k : Int) - 1) = ((k - 1 : Nat) : Int) := by
         rw [IntKind.wrap_i64]; omega
        clear hk0
        by_cases hp : p < o0
        · have HS : Hid (ordsTo n os (k + 1)) := ordsTo_step HT.out (by rw [H0.out, H1.out, H2.out, H3.out, H4.out, H5.out]; exact h1) (fun _ => by rw [HP.out, H0.out]; exact hp)
          go_wp2_with fail
          have hkin := Kin.there wr
          refine wp_region_kin (by kernel_rfl) (by kernel_rfl) ?_
          repeat (go_big_quiet_step ((go_at_call 120; exact Kin.call (l2Order_any n _ _ _ _ _ _ _ hn1 hn2))))
          refine wpQuiet_nil ?_
          rintro _ ⟨s, rfl⟩
          have HS2 := HB.trans (s.below.mono HB.size)
          have R2 := below_row s.below (row_lt G3.out) G3.out
          generalize s.w = w2 at *
          go_wp2
          refine ⟨⟨k + 1, by omega, by go_num, HS.out, HS2, R2⟩, by simp [intOf]; omega⟩
        · have HN : Hid (ordsB n os ko = false) := ordsB_bad hlt (fun h => hp (by have := h.2 hk1; rw [HP.out, H0.out] at this; exact this))
          go_wp2_with fail
          have hkin := Kin.there wr
          refine wp_region_kin (by kernel_rfl) (by kernel_rfl) ?_
          repeat (go_big_quiet_step ((go_at_call 120; exact Kin.call (l2Order_any n _ _ _ _ _ _ _ hn1 hn2))))
          refine wpQuiet_nil ?_
          rintro _ ⟨s, rfl⟩
          have HS2 := HB.trans (s.below.mono HB.size)
          have R2 := below_row s.below (row_lt G3.out) G3.out
          generalize s.w = w2 at *
          go_wp2
          go_ret
          exact ⟨ret_bool (by simp [caseB_def, HN.out]), HS2⟩
  · have hkx : k = ko := by omega
    have HN : Hid _ := ordsB_yes (by omega) (hkx ▸ HT.out)
    clear hkx g3 hb
    go_wp2_with fail
    clear c0 c1 c2 c3 c4
    have HO2 : Hid _ := HN.out
    go_loopw [4] (fun t wr => ∃ k : Nat, k <= kv /\ t = .int .i64 k /\ vehsTo n vs k /\ Below w.heap.size w wr /\ wr.heap[w.heap.size]? = some (.cells #[Value.int .i64 n, Value.slice a zs.length cap, Value.slice ao ko co, Value.slice av kv cv, Value.int .i64 fine] 78 (0, 0))) (fun t _ => kv - (intOf t).toNat)
    case atStart => exact ⟨0, Nat.zero_le _, rfl, vehsTo_zero _ _, HB.out, G3.out⟩
    case round =>
     clear HT G3 HB HN
     obtain ⟨k, hk, rfl, ht, hb, g3⟩ := hrel
     have HT : Hid _ := ht
     have G3 : Hid _ := g3
     have HB : Hid _ := hb
     obtain ⟨c0, c1, c2, c3, c4⟩ := cells5 g3
     clear ht
     by_cases hlt : k < kv
     · obtain ⟨b, off, rfl, hcs⟩ := IntsAt.some (IntsAt.below HX5.out hb) (j := k * 5) (by rw [HLX5.out]; omega)
       obtain ⟨r0, r1, r2, r3, r4⟩ := row5_at hcs HLX5.out k hlt
       have HCS : Hid _ := hcs
       clear hcs g3 hb
       obtain ⟨o0, H0⟩ := nmd (og5 vs k 0)
       obtain ⟨o1, H1⟩ := nmd (og5 vs k 1)
       obtain ⟨o2, H2⟩ := nmd (og5 vs k 2)
       obtain ⟨o3, H3⟩ := nmd (og5 vs k 3)
       obtain ⟨o4, H4⟩ := nmd (og5 vs k 4)
       rw [H0.out] at r0
       rw [H1.out] at r1
       rw [H2.out] at r2
       rw [H3.out] at r3
       rw [H4.out] at r4
       have s0 := fun s : Kin wr => s.cell c0
       have s1 := fun s : Kin wr => s.cell c3
       have t0 := fun s : Kin wr => s.cell r0
       have t1 := fun s : Kin wr => s.cell r1
       have t2 := fun s : Kin wr => s.cell r2
       have t3 := fun s : Kin wr => s.cell r3
       have t4 := fun s : Kin wr => s.cell r4
       cases h1 : vehB n o0 o1 o2 o3 o4
       · have HN : Hid _ := vehsB_bad hlt (by rw [H0.out, H1.out, H2.out, H3.out, H4.out, h1]; simp)
         go_wp2_with fail
         have hkin := Kin.there wr
         refine wp_region_kin (by kernel_rfl) (by kernel_rfl) ?_
         repeat (go_big_quiet_step ((go_at_call 121; exact Kin.call (l2Vehicle_any n _ _ _ _ _ _ hn1 hn2))))
         refine wpQuiet_nil ?_
         rintro _ ⟨s, rfl⟩
         have HS2 := HB.trans (s.below.mono HB.size)
         have R2 := below_row s.below (row_lt G3.out) G3.out
         generalize s.w = w2 at *
         go_wp2
         go_ret
         exact ⟨ret_bool (by simp [caseB_def, HN.out]), HS2⟩
       · by_cases hk0 : k = 0
         · have HS : Hid (vehsTo n vs (k + 1)) := vehsTo_step HT.out (by rw [H0.out, H1.out, H2.out, H3.out, H4.out]; exact h1) (fun h => by omega)
           have hkz : (decide (0 < k)) = false := by simp; omega
           have hk1 : k <= 0 := by omega
           clear hk0
           go_wp2_with fail
           have hkin := Kin.there wr
           refine wp_region_kin (by kernel_rfl) (by kernel_rfl) ?_
           repeat (go_big_quiet_step ((go_at_call 121; exact Kin.call (l2Vehicle_any n _ _ _ _ _ _ hn1 hn2))))
           refine wpQuiet_nil ?_
           rintro _ ⟨s, rfl⟩
           have HS2 := HB.trans (s.below.mono HB.size)
           have R2 := below_row s.below (row_lt G3.out) G3.out
           generalize s.w = w2 at *
           go_wp2
           refine ⟨⟨k + 1, by omega, by go_num, HS.out, HS2, R2⟩, by simp [intOf]; omega⟩
         · have hk1 : 0 < k := by omega
           obtain ⟨rp, _⟩ := row5_at HCS.out HLX5.out (k - 1) (by omega)
           obtain ⟨p, HP⟩ := nmd (og5 vs (k - 1) 0)
           rw [HP.out] at rp
           have tp := fun s : Kin wr => s.cell rp
           have hkm : k - 1 < kv := by omega
           have hw1 : IntKind.i64.wrap ((k : Int) - 1) = ((k - 1 : Nat) : Int) := by
            rw [IntKind.wrap_i64]; omega
           clear hk0
           by_cases hp : p < o0
           · have HS : Hid (vehsTo n vs (k + 1)) := vehsTo_step HT.out (by rw [H0.out, H1.out, H2.out, H3.out, H4.out]; exact h1) (fun _ => by rw [HP.out, H0.out]; exact hp)
             go_wp2_with fail
             have hkin := Kin.there wr
             refine wp_region_kin (by kernel_rfl) (by kernel_rfl) ?_
             repeat (go_big_quiet_step ((go_at_call 121; exact Kin.call (l2Vehicle_any n _ _ _ _ _ _ hn1 hn2))))
             refine wpQuiet_nil ?_
             rintro _ ⟨s, rfl⟩
             have HS2 := HB.trans (s.below.mono HB.size)
             have R2 := below_row s.below (row_lt G3.out) G3.out
             generalize s.w = w2 at *
             go_wp2
             refine ⟨⟨k + 1, by omega, by go_num, HS.out, HS2, R2⟩, by simp [intOf]; omega⟩
           · have HN : Hid (vehsB n vs kv = false) := vehsB_bad hlt (fun h => hp (by have := h.2 hk1; rw [HP.out, H0.out] at this; exact this))
             go_wp2_with fail
             have hkin := Kin.there wr
             refine wp_region_kin (by kernel_rfl) (by kernel_rfl) ?_
             repeat (go_big_quiet_step ((go_at_call 121; exact Kin.call (l2Vehicle_any n _ _ _ _ _ _ hn1 hn2))))
             refine wpQuiet_nil ?_
             rintro _ ⟨s, rfl⟩
             have HS2 := HB.trans (s.below.mono HB.size)
             have R2 := below_row s.below (row_lt G3.out) G3.out
             generalize s.w = w2 at *
             go_wp2
             go_ret
             exact ⟨ret_bool (by simp [caseB_def, HN.out]), HS2⟩
     · have hkx : k = kv := by omega
       have HN : Hid _ := vehsB_yes (by omega) (hkx ▸ HT.out)
       clear hkx g3 hb
       go_wp2
       go_ret
       exact ⟨ret_bool (by rw [caseB_def, HM.out, HO2.out, HN.out, hf]; rfl), HB.out⟩
theorem specCase_any (n fine : Int) (a ao av : Option Addr) (cap ko co kv cv : Nat) (zs os vs : List Int) (w : World) (hA : IntsAt w a zs) (hO : IntsAt w ao os) (hV : IntsAt w av vs) (hlo : os.length = ko * 6) (hlv : vs.length = kv * 5) (hko : ko <= 9223372036854775807) (hkv : kv <= 9223372036854775807) :
 Calls Tryz.prog 77 #[.agg #[.int .i64 n, .slice a zs.length cap, .slice ao ko co, .slice av kv cv, .int .i64 fine]] w fun e w' => e = .returned (.bool (caseB n zs os vs ko kv fine)) /\ Below w.heap.size w w' := by
 by_cases h : matB n zs = true /\ ko <= 12 /\ kv <= 5 /\ inB fine 0 1000000 = true
 · exact specCase_loop n fine a ao av cap ko co kv cv zs os vs w hA hO hV hlo hlv h.1 h.2.1 h.2.2.1 h.2.2.2
 · exact specCase_no n fine a ao av cap ko co kv cv zs os vs w hA hko hkv h
set_option maxHeartbeats 1000000 in
theorem l3Form_any (n fine veh : Int) (a ao av bi : Option Addr) (cap ko co kv cv c2 : Nat) (zs os vs ids : List Int) (w : World) (hA : IntsAt w a zs) (hO : IntsAt w ao os) (hV : IntsAt w av vs) (hI : IntsAt w bi ids) (hlo : os.length = ko * 6) (hlv : vs.length = kv * 5) (hko : ko <= 9223372036854775807) (hkv : kv <= 9223372036854775807) (hli : ids.length <= 9223372036854775807) (hc2 : ids.length <= c2) :
 Calls Tryz.prog 191 #[.agg #[.int .i64 n, .slice a zs.length cap, .slice ao ko co, .slice av kv cv, .int .i64 fine], .agg #[.int .i64 veh, .slice bi ids.length c2]] w fun e w' => e = .returned (.int .i64 (formV (caseB n zs os vs ko kv fine) vs os kv ko veh ids)) /\ Below w.heap.size w w' := by
 have HA : Hid (IntsAt w a zs) := hA
 have HO : Hid (IntsAt w ao os) := hO
 have HV : Hid (IntsAt w av vs) := hV
 have HI : Hid (IntsAt w bi ids) := hI
 have HLO : Hid _ := hlo
 have HLV : Hid _ := hlv
 clear hA hO hV hI hlo hlv
 have HC0 : Hid (CR w ((w.alloc (.cells #[Value.int .i64 n, Value.slice a zs.length cap, Value.slice ao ko co, Value.slice av kv cv, Value.int .i64 fine] 78)).alloc (.cells #[Value.int .i64 veh, Value.slice bi ids.length c2] 134)) _ _) := CR.new w _ _
 obtain ⟨r, HR⟩ := nmd (formV (caseB n zs os vs ko kv fine) vs os kv ko veh ids)
 rw [HR.out]
 go_enter Tryz.func191, Tryz.ntmps191
 go_wp2_with fail
 refine (specCase_any n fine a ao av cap ko co kv cv zs os vs _ (HA.below HC0.1) (HO.below HC0.1) (HV.below HC0.1) HLO.out HLV.out hko hkv).mono ?_
 rintro e w1 ⟨rfl, hb⟩
 have C1 : Hid (CR w w1 _ _) := HC0.below hb
 clear hb HC0
 cases hc : caseB n zs os vs ko kv fine
 · have HV1 : Hid _ := HR.symm.trans (formV_1 hc)
   go_wp2
   go_ret
   exact ⟨ret_int HV1.symm, C1.1⟩
 · have HC : Hid _ := hc
   clear hc
   obtain ⟨c0, c1, c2', c3, c4⟩ := cells5 C1.2.1
   obtain ⟨d0, d1⟩ := cells2 C1.2.2
   go_wp2_with fail
   refine (l2Car_any n fine veh a ao av _ cap ko co kv cv vs _ (HV.below C1.1) HLV.out hkv).mono ?_
   rintro e w2 ⟨rfl, hb⟩
   obtain ⟨v0, G0⟩ := nmd (fnd5F vs kv veh 0)
   obtain ⟨v1, G1⟩ := nmd (fnd5F vs kv veh 1)
   obtain ⟨v2, G2⟩ := nmd (fnd5F vs kv veh 2)
   obtain ⟨v3, G3⟩ := nmd (fnd5F vs kv veh 3)
   obtain ⟨v4, G4⟩ := nmd (fnd5F vs kv veh 4)
   rw [G0.out, G1.out, G2.out, G3.out, G4.out]
   have C2 : Hid (CR w w2 _ _) := C1.below hb
   clear hb C1 c0 c1 c2' c3 c4 d0 d1
   cases ht : fnd5T vs kv veh
   · have HV1 : Hid _ := HR.symm.trans (formV_2 HC.out ht)
     go_wp2
     go_ret
     exact ⟨ret_int HV1.symm, (CR.alloc C2.out _).1⟩
   · have HT5 : Hid _ := ht
     clear ht
     have C3 : Hid (CR w (w2.alloc (Obj.cells #[Value.int .i64 v0, Value.int .i64 v1, Value.int .i64 v2, Value.int .i64 v3, Value.int .i64 v4] 137)) _ _) := CR.alloc C2.out _
     have RV3 : Hid ((w2.alloc (Obj.cells #[Value.int .i64 v0, Value.int .i64 v1, Value.int .i64 v2, Value.int .i64 v3, Value.int .i64 v4] 137)).heap[w2.heap.size]? = _) := heap_alloc_new _ _
     obtain ⟨c0, c1, c2', c3, c4⟩ := cells5 C3.2.1
     obtain ⟨d0, d1⟩ := cells2 C3.2.2
     clear C2
     by_cases h12 : ids.length <= 12
     · go_wp2_with fail
       clear c0 c1 c2' c3 c4 d0 d1
       generalize w2.alloc (Obj.cells #[Value.int .i64 v0, Value.int .i64 v1, Value.int .i64 v2, Value.int .i64 v3, Value.int .i64 v4] 137) = W2 at *
       generalize w2.heap.size = gv at *
       have HOB : Hid _ := caseB_ords HC.out
       go_loopw [7, 8] (fun sm t wr => ∃ k : Nat, k <= ids.length /\ t = .int .i64 k /\ sm = .int .i64 (loadTo os ko ids k) /\ stopsTo os ko ids k /\ CR w wr #[Value.int .i64 n, Value.slice a zs.length cap, Value.slice ao ko co, Value.slice av kv cv, Value.int .i64 fine] #[Value.int .i64 veh, Value.slice bi ids.length c2] /\ wr.heap[gv]? = some (.cells #[Value.int .i64 v0, Value.int .i64 v1, Value.int .i64 v2, Value.int .i64 v3, Value.int .i64 v4] 137 (0, 0))) (fun _ t _ => ids.length - (intOf t).toNat)
       case atStart => exact ⟨0, Nat.zero_le _, rfl, rfl, stopsTo_zero _ _ _, C3.out, RV3.out⟩
       case round =>
        clear C3 RV3
        obtain ⟨k, hk, rfl, rfl, hth, hb, hrv⟩ := hrel
        have hbd := loadTo_bd HOB.out ids k
        have HT : Hid (stopsTo os ko ids k) := hth
        have HB : Hid (CR w wr _ _) := hb
        have HRV : Hid (wr.heap[gv]? = _) := hrv
        obtain ⟨c0, c1, c2', c3, c4⟩ := cells5 hb.2.1
        obtain ⟨d0, d1⟩ := cells2 hb.2.2
        obtain ⟨s0, HS0⟩ := nmd (loadTo os ko ids k)
        rw [HS0.out] at hbd ⊢
        clear hth hb hrv
        by_cases hlt : k < ids.length
        · obtain ⟨b, off, rfl, hcs⟩ := IntsAt.some (IntsAt.below HI.out HB.1) hlt
          have ct := hcs k hlt
          clear hcs
          obtain ⟨id, HID⟩ := nmd (ids.getD k 0)
          rw [HID.out] at ct
          have hl2 := fnd6F_load HOB.out id
          obtain ⟨o0, H0⟩ := nmd (fnd6F os ko id 0)
          obtain ⟨o1, H1⟩ := nmd (fnd6F os ko id 1)
          obtain ⟨o2, H2⟩ := nmd (fnd6F os ko id 2)
          obtain ⟨o3, H3⟩ := nmd (fnd6F os ko id 3)
          obtain ⟨o4, H4⟩ := nmd (fnd6F os ko id 4)
          obtain ⟨o5, H5⟩ := nmd (fnd6F os ko id 5)
          rw [H2.out] at hl2
          have HL1 : Hid (loadTo os ko ids (k + 1) = s0 + o2) := by
           show _ = _
           unfold loadTo
           rw [HS0.out, HID.out, H2.out]
          obtain ⟨tt, HTT⟩ := nmd (fnd6T os ko id)
          go_wp2_with fail
          have HCT : Hid (wr.cell? ⟨b, off + k, none⟩ = _) := ct
          have HCA : Hid ((wr.alloc (Obj.cells #[Value.int .i64 0, Value.int .i64 0, Value.int .i64 0, Value.int .i64 0, Value.int .i64 0, Value.int .i64 0] 146)).cell? ⟨b, off + k, none⟩ = _) := (((Below.refl wr.heap.size wr).alloc (Nat.le_refl _) _).cell (p := ⟨b, off + k, none⟩) (block_lt_of_cell ct)).trans ct
          have HVA : Hid ((wr.alloc (Obj.cells #[Value.int .i64 0, Value.int .i64 0, Value.int .i64 0, Value.int .i64 0, Value.int .i64 0, Value.int .i64 0] 146)).heap[gv]? = _) := (heap_alloc_old _ _ (row_lt HRV.out)).trans HRV.out
          have hlb := block_lt_of_cell ct
          simp at hlb
          have hlw := row_lt HB.2.1
          have hlr := row_lt HB.2.2
          go_region_held3 (fun W => W.cell? ⟨w.heap.size, 0, none⟩ = some (.int .i64 n) /\ W.cell? ⟨w.heap.size, 1, none⟩ = some (.slice a zs.length cap) /\ W.cell? ⟨w.heap.size, 2, none⟩ = some (.slice ao ko co) /\ W.cell? ⟨w.heap.size, 3, none⟩ = some (.slice av kv cv) /\ W.cell? ⟨w.heap.size, 4, none⟩ = some (.int .i64 fine) /\ W.cell? ⟨w.heap.size + 1, 1, none⟩ = some (.slice (some ⟨b, off, none⟩) ids.length c2) /\ W.cell? ⟨b, off + k, none⟩ = some (.int .i64 id)) (first | with_reducible exact kS | with_reducible exact ⟨(keep_set (keep_set (keep_set (keep_set (keep_set (keep_set kS.1 (Nat.ne_of_lt hlw)) (Nat.ne_of_lt hlw)) (Nat.ne_of_lt hlw)) (Nat.ne_of_lt hlw)) (Nat.ne_of_lt hlw)) (Nat.ne_of_lt hlw)), (keep_set (keep_set (keep_set (keep_set (keep_set (keep_set kS.2.1 (Nat.ne_of_lt hlw)) (Nat.ne_of_lt hlw)) (Nat.ne_of_lt hlw)) (Nat.ne_of_lt hlw)) (Nat.ne_of_lt hlw)) (Nat.ne_of_lt hlw)), (keep_set (keep_set (keep_set (keep_set (keep_set (keep_set kS.2.2.1 (Nat.ne_of_lt hlw)) (Nat.ne_of_lt hlw)) (Nat.ne_of_lt hlw)) (Nat.ne_of_lt hlw)) (Nat.ne_of_lt hlw)) (Nat.ne_of_lt hlw)), (keep_set (keep_set (keep_set (keep_set (keep_set (keep_set kS.2.2.2.1 (Nat.ne_of_lt hlw)) (Nat.ne_of_lt hlw)) (Nat.ne_of_lt hlw)) (Nat.ne_of_lt hlw)) (Nat.ne_of_lt hlw)) (Nat.ne_of_lt hlw)), (keep_set (keep_set (keep_set (keep_set (keep_set (keep_set kS.2.2.2.2.1 (Nat.ne_of_lt hlw)) (Nat.ne_of_lt hlw)) (Nat.ne_of_lt hlw)) (Nat.ne_of_lt hlw)) (Nat.ne_of_lt hlw)) (Nat.ne_of_lt hlw)), (keep_set (keep_set (keep_set (keep_set (keep_set (keep_set kS.2.2.2.2.2.1 (Nat.ne_of_lt hlr)) (Nat.ne_of_lt hlr)) (Nat.ne_of_lt hlr)) (Nat.ne_of_lt hlr)) (Nat.ne_of_lt hlr)) (Nat.ne_of_lt hlr)), (keep_set (keep_set (keep_set (keep_set (keep_set (keep_set kS.2.2.2.2.2.2 (Nat.ne_of_lt hlb)) (Nat.ne_of_lt hlb)) (Nat.ne_of_lt hlb)) (Nat.ne_of_lt hlb)) (Nat.ne_of_lt hlb)) (Nat.ne_of_lt hlb))⟩ | go_keep) ((first
           | (go_at_call 124
              with_reducible refine (l2At_any n fine id a ao av _ cap ko co kv cv os wr.drew ?_ HLO.out hko).mono ?_
              · exact HO.below HB.1.drew
              rintro e w2 ⟨rfl, hb2⟩
              rw [H0.out, H1.out, H2.out, H3.out, H4.out, H5.out, HTT.out]
              have hcr2 := CR.below (CR.drew HB.out) hb2
              obtain ⟨k0, k1, k2, k3, k4⟩ := cells5 hcr2.2.1
              have k5 := (cells2 hcr2.2.2).2
              have k6 := (hb2.cell (p := ⟨b, off + k, none⟩) (block_lt_of_cell HCT.out)).trans HCT.out
              have kS := And.intro k0 (And.intro k1 (And.intro k2 (And.intro k3 (And.intro k4 (And.intro k5 k6)))))
              have CR2 : Hid (CR w w2 _ _) := hcr2
              have RV2 : Hid (w2.heap[gv]? = _) := below_row hb2 (row_lt HRV.out) HRV.out
              clear hb2 hcr2 k0 k1 k2 k3 k4 k5 k6)
           | (go_at_call 124
              with_reducible refine (l2At_any n fine id a ao av _ cap ko co kv cv os (wr.alloc (Obj.cells #[Value.int .i64 0, Value.int .i64 0, Value.int .i64 0, Value.int .i64 0, Value.int .i64 0, Value.int .i64 0] 146)).drew ?_ HLO.out hko).mono ?_
              · exact HO.below (CR.alloc HB.out (Obj.cells #[Value.int .i64 0, Value.int .i64 0, Value.int .i64 0, Value.int .i64 0, Value.int .i64 0, Value.int .i64 0] 146)).1.drew
              rintro e w2 ⟨rfl, hb2⟩
              rw [H0.out, H1.out, H2.out, H3.out, H4.out, H5.out, HTT.out]
              have hcr2 := CR.below (CR.drew (CR.alloc HB.out (Obj.cells #[Value.int .i64 0, Value.int .i64 0, Value.int .i64 0, Value.int .i64 0, Value.int .i64 0, Value.int .i64 0] 146))) hb2
              obtain ⟨k0, k1, k2, k3, k4⟩ := cells5 hcr2.2.1
              have k5 := (cells2 hcr2.2.2).2
              have k6 := (hb2.cell (p := ⟨b, off + k, none⟩) (block_lt_of_cell HCA.out)).trans HCA.out
              have kS := And.intro k0 (And.intro k1 (And.intro k2 (And.intro k3 (And.intro k4 (And.intro k5 k6)))))
              have CR2 : Hid (CR w w2 _ _) := hcr2
              have RV2 : Hid (w2.heap[gv]? = _) := below_row hb2 (row_lt HVA.out) HVA.out
              obtain ⟨z0, z1, z2, z3, z4, z5⟩ := cells6 (below_row hb2 (k := wr.heap.size) (by simp) (heap_alloc_new wr (Obj.cells #[Value.int .i64 0, Value.int .i64 0, Value.int .i64 0, Value.int .i64 0, Value.int .i64 0, Value.int .i64 0] 146)))
              have zf := fun i => frozen_of_row _ _ i _ _ (below_row hb2 (k := wr.heap.size) (by simp) (heap_alloc_new wr (Obj.cells #[Value.int .i64 0, Value.int .i64 0, Value.int .i64 0, Value.int .i64 0, Value.int .i64 0, Value.int .i64 0] 146)))
              have RO2 : Hid (w2.heap[wr.heap.size]? = _) := below_row hb2 (k := wr.heap.size) (by simp) (heap_alloc_new wr (Obj.cells #[Value.int .i64 0, Value.int .i64 0, Value.int .i64 0, Value.int .i64 0, Value.int .i64 0, Value.int .i64 0] 146))
              clear hb2 hcr2 k0 k1 k2 k3 k4 k5 k6)))
          all_goals (first
           | (have CRW : Hid (CR w (World.setCell (World.setCell (World.setCell (World.setCell (World.setCell (World.setCell w2 ⟨wr.heap.size, 0, none⟩ (Value.int .i64 o0)) ⟨wr.heap.size, 1, none⟩ (Value.int .i64 o1)) ⟨wr.heap.size, 2, none⟩ (Value.int .i64 o2)) ⟨wr.heap.size, 3, none⟩ (Value.int .i64 o3)) ⟨wr.heap.size, 4, none⟩ (Value.int .i64 o4)) ⟨wr.heap.size, 5, none⟩ (Value.int .i64 o5)) _ _) := CR.set (CR.set (CR.set (CR.set (CR.set (CR.set CR2.out HB.big) HB.big) HB.big) HB.big) HB.big) HB.big
              have RVW : Hid ((World.setCell (World.setCell (World.setCell (World.setCell (World.setCell (World.setCell w2 ⟨wr.heap.size, 0, none⟩ (Value.int .i64 o0)) ⟨wr.heap.size, 1, none⟩ (Value.int .i64 o1)) ⟨wr.heap.size, 2, none⟩ (Value.int .i64 o2)) ⟨wr.heap.size, 3, none⟩ (Value.int .i64 o3)) ⟨wr.heap.size, 4, none⟩ (Value.int .i64 o4)) ⟨wr.heap.size, 5, none⟩ (Value.int .i64 o5)).heap[gv]? = _) := row_set' (row_set' (row_set' (row_set' (row_set' (row_set' RV2.out (Nat.ne_of_lt (row_lt HRV.out))) (Nat.ne_of_lt (row_lt HRV.out))) (Nat.ne_of_lt (row_lt HRV.out))) (Nat.ne_of_lt (row_lt HRV.out))) (Nat.ne_of_lt (row_lt HRV.out))) (Nat.ne_of_lt (row_lt HRV.out))
              have ROW : Hid ((World.setCell (World.setCell (World.setCell (World.setCell (World.setCell (World.setCell w2 ⟨wr.heap.size, 0, none⟩ (Value.int .i64 o0)) ⟨wr.heap.size, 1, none⟩ (Value.int .i64 o1)) ⟨wr.heap.size, 2, none⟩ (Value.int .i64 o2)) ⟨wr.heap.size, 3, none⟩ (Value.int .i64 o3)) ⟨wr.heap.size, 4, none⟩ (Value.int .i64 o4)) ⟨wr.heap.size, 5, none⟩ (Value.int .i64 o5)).heap[wr.heap.size]? = _) := row_set6 RO2.out
              clear kS CR2 RV2 RO2 HCT HCA HVA ct z0 z1 z2 z3 z4 z5 zf
              generalize (World.setCell (World.setCell (World.setCell (World.setCell (World.setCell (World.setCell w2 ⟨wr.heap.size, 0, none⟩ (Value.int .i64 o0)) ⟨wr.heap.size, 1, none⟩ (Value.int .i64 o1)) ⟨wr.heap.size, 2, none⟩ (Value.int .i64 o2)) ⟨wr.heap.size, 3, none⟩ (Value.int .i64 o3)) ⟨wr.heap.size, 4, none⟩ (Value.int .i64 o4)) ⟨wr.heap.size, 5, none⟩ (Value.int .i64 o5)) = W at *
              generalize wr.heap.size = g at *)
           | (have CRW : Hid (CR w (w2.alloc (Obj.cells #[Value.int .i64 o0, Value.int .i64 o1, Value.int .i64 o2, Value.int .i64 o3, Value.int .i64 o4, Value.int .i64 o5] 146)) _ _) := CR.alloc CR2.out _
              have RVW : Hid ((w2.alloc (Obj.cells #[Value.int .i64 o0, Value.int .i64 o1, Value.int .i64 o2, Value.int .i64 o3, Value.int .i64 o4, Value.int .i64 o5] 146)).heap[gv]? = _) := (heap_alloc_old _ _ (row_lt RV2.out)).trans RV2.out
              have ROW : Hid ((w2.alloc (Obj.cells #[Value.int .i64 o0, Value.int .i64 o1, Value.int .i64 o2, Value.int .i64 o3, Value.int .i64 o4, Value.int .i64 o5] 146)).heap[w2.heap.size]? = _) := heap_alloc_new _ _
              clear kS CR2 RV2 HCT HCA HVA ct
              generalize w2.alloc (Obj.cells #[Value.int .i64 o0, Value.int .i64 o1, Value.int .i64 o2, Value.int .i64 o3, Value.int .i64 o4, Value.int .i64 o5] 146) = W at *
              generalize w2.heap.size = g at *))
          all_goals
           clear c0 c1 c2' c3 c4 d0 d1 hlw hlr hlb
           have hkc : k <= c2 := by omega
           have q1 := (cells2 CRW.2.2).2
           have ctW := ints_cell (HI.below CRW.1) hlt HID.out
           have t0 := fun s : Kin W => s.cell q1
           have t1 := fun s : Kin W => s.cell ctW
           cases tt
           · have HV1 : Hid _ := HR.symm.trans (formV_3 HC.out HT5.out (stopsB_bad hlt (stopB_mk HID.out HTT.out rfl)))
             go_wp2_with fail
             have hkin := Kin.there W
             refine wp_region_kin (by kernel_rfl) (by kernel_rfl) ?_
             repeat (go_big_quiet_step ((fail)))
             refine wpQuiet_nil ?_
             rintro _ ⟨s, rfl⟩
             have HS2 : Hid (CR w s.w _ _) := CRW.below s.below
             generalize s.w = w3 at *
             go_wp2
             go_ret
             exact ⟨ret_int HV1.symm, HS2.1⟩
           · obtain ⟨hh, HH⟩ := nmd (hasTo ids k id)
             cases hh
             · have HS1 : Hid (stopsTo os ko ids (k + 1)) := stopsTo_step HT.out (stopB_mk HID.out HTT.out HH.out)
               go_wp2_with fail
               have hkin := Kin.there W
               refine wp_region_kin (by kernel_rfl) (by kernel_rfl) ?_
               repeat (go_big_quiet_step ((go_at_call 123; exact Kin.call_same (l3Has_is _ k _ id ids _ false HH.out ((HI.below CRW.1).below (Kin.below _)) hk (by omega)))))
               refine wpQuiet_nil ?_
               rintro _ ⟨s, rfl⟩
               have HS2 : Hid (CR w s.w _ _) := CRW.below s.below
               have HRV2 : Hid (s.w.heap[gv]? = _) := below_row s.below (row_lt RVW.out) RVW.out
               obtain ⟨p0, p1, p2, p3, p4, p5⟩ := cells6 (below_row s.below (row_lt ROW.out) ROW.out)
               clear q1 ctW t0 t1 CRW RVW ROW
               generalize s.w = w3 at *
               go_wp2
               exact ⟨⟨k + 1, by omega, by go_num, by rw [HL1.out], HS1.out, HS2.out, HRV2.out⟩, by simp [intOf]; omega⟩
             · have HV1 : Hid _ := HR.symm.trans (formV_3 HC.out HT5.out (stopsB_bad hlt (stopB_mk HID.out HTT.out HH.out)))
               go_wp2_with fail
               have hkin := Kin.there W
               refine wp_region_kin (by kernel_rfl) (by kernel_rfl) ?_
               repeat (go_big_quiet_step ((go_at_call 123; exact Kin.call_same (l3Has_is _ k _ id ids _ true HH.out ((HI.below CRW.1).below (Kin.below _)) hk (by omega)))))
               refine wpQuiet_nil ?_
               rintro _ ⟨s, rfl⟩
               have HS2 : Hid (CR w s.w _ _) := CRW.below s.below
               generalize s.w = w3 at *
               go_wp2
               go_ret
               exact ⟨ret_int HV1.symm, HS2.1⟩
        · have hkl : k = ids.length := by omega
          have HSB : Hid _ := stopsB_yes h12 (hkl ▸ HT.out)
          have HS0' : Hid _ := hkl ▸ HS0.out
          obtain ⟨q0, q1, q2, q3, q4⟩ := cells5 HRV.out
          clear hkl
          by_cases hroom : v2 < s0
          · have HV1 : Hid _ := HR.symm.trans (formV_4 HC.out HT5.out HSB.out (by rw [HS0'.out, G2.out]; exact hroom))
            go_wp2
            go_ret
            exact ⟨ret_int HV1.symm, HB.1⟩
          · have HV1 : Hid _ := HR.symm.trans (formV_0 HC.out HT5.out HSB.out (by rw [HS0'.out, G2.out]; exact hroom))
            go_wp2
            go_ret
            exact ⟨ret_int HV1.symm, HB.1⟩
     · have HV1 : Hid _ := HR.symm.trans (formV_3 HC.out HT5.out (stopsB_many h12))
       go_wp2
       go_ret
       exact ⟨ret_int HV1.symm, C3.1⟩
theorem append_blk {P : Program} (w : World) (base : Nat) (t ty e : TypeId) (i : TypeInfo) (z : Value) (size bytes : Nat) (ht : P.underlying t = some (.slice e)) (hi : P.info? e = some i) (hz : i.zero = some z)
 (hsize : i.size = size) (hby : i.bytes = bytes) (v : Value) (n : Nat) (xs : List Value) (hown : w.ownsRow base e size v n xs)
 (a : Addr) (m c : Nat) (news : List Value) (hl : news.length = m * size) (hnews : ∀ j u, news[j]? = some u -> w.cell? (a.add j) = some u) (h1 : ∀ u ∈ news, u.oneCell' = true)
 (h63 : n + m <= maxLen) (hbytes : (n + m) * bytes <= 140737488355328) {v' : Value} {w' : World} (hrun : (Builtin.append_ #[t, t] ty #[v, .slice (some a) m c]).run P w = .ok v' w') : v'.ownBlock = v.ownBlock ∨ v'.ownBlock = some w.heap.size := by
 subst hsize
 subst hby
 have hsmall : n + m <= 9223372036854775807 := by simp only [maxLen] at h63; omega
 rcases hown.2 with ⟨rfl, rfl⟩ | ⟨g, cap, cur, rfl, hbg, hg, hnc, hcm, hcs, htake⟩
 · by_cases hm : m = 0
   · subst hm
     have hn : news = [] := List.eq_nil_of_length_eq_zero (by simpa using hl)
     subst hn
     simp [Builtin.append_, run_underlying ht, sizeOf, typeInfo, hi, Builtin.lenOf, Builtin.firstCells, loadCells, loadCellsFrom] at hrun
     rw [<- hrun.1]
     exact .inl rfl
   · have hr := run_append_nil (P := P) w t ty e i z ht hi hz a m c news hl hnews (by omega) (by omega) (by have hb := hbytes; simp only [Nat.zero_add] at hb; omega)
     rw [hr] at hrun
     injection hrun with e1 e2
     rw [<- e1]
     exact .inr rfl
 · by_cases hroom : n + m <= cap
   · have hfit : n * i.size + news.length <= cur.size := by rw [hl, hcs, <- Nat.add_mul]; exact Nat.mul_le_mul_right _ hroom
     have hr := run_append_room (P := P) w t ty e i ht hi g n cap cur hg a m c news hl hnews h1 hroom hfit
     rw [hr] at hrun
     injection hrun with e1 e2
     rw [<- e1]
     exact .inl rfl
   · have holds := hown.cells (g := g) rfl
     have hr := run_append_grow (P := P) w t ty e i z ht hi hz ⟨g, 0, none⟩ n cap xs hown.1 holds a m c news hl hnews (by omega) (by omega) (growslice_fits (by omega) hbytes)
     rw [hr] at hrun
     injection hrun with e1 e2
     rw [<- e1]
     exact .inr rfl
theorem exec_app {P : Program} {o : Oper} {a : Act} {w w' : World} {v : Value} (s x : Operand) (t : TypeId) (vs vx : Value) (ho : o.op = .call { callee := .builtin .append, args := #[s, x], argTypes := #[t, t] })
 (hs : a.eval s = vs) (hx : a.eval x = vx) (hr : (Builtin.append_ #[t, t] o.type #[vs, vx]).run P w = .ok v w') : (execOp a.eval o).run P w = .ok (.value v) w' := by
 unfold execOp
 simp only [ho, resolve, invoke, builtin, Sem.run_bind, Sem.run_pure, Result.andThen_ok, List.map_toArray, List.map_cons, List.map_nil, hs, hx, hr]
theorem own_putV {w : World} {base n g c k size m : Nat} {e : TypeId} {xs : List Value} (v : Value) (h : w.ownsRow base e size (.slice (some ⟨g, 0, none⟩) m c) n xs) : (w.setCell ⟨g, k, none⟩ v).ownsRow base e size (.slice (some ⟨g, 0, none⟩) m c) n (xs.set k v) := by
 obtain ⟨h0, ⟨h1, _⟩ | ⟨g', cap, cur, h2, h3, h4, h5, h6, h7, h8⟩⟩ := h
 · cases h1
 · simp at h2
   obtain ⟨rfl, rfl, rfl⟩ := h2
   refine ⟨by simpa using h0, .inr ⟨g, c, cur.setIfInBounds k v, rfl, h3, heap_setCell_same w g k cur e _ h4, h5, h6, by simpa using h7, ?_⟩⟩
   rw [Array.toList_setIfInBounds, List.take_set, h8]
theorem own_cellV {w : World} {base n g c k size m : Nat} {e : TypeId} {xs : List Value} {x : Value} (h : w.ownsRow base e size (.slice (some ⟨g, 0, none⟩) m c) n xs) (hk : xs[k]? = some x) : w.cell? ⟨g, k, none⟩ = some x /\ w.frozen? ⟨g, k, none⟩ = false := by
 refine ⟨?_, ?_⟩
 · have := h.cells (g := g) rfl k x hk
   have hadd : (⟨g, 0, none⟩ : Addr).add k = ⟨g, k, none⟩ := by unfold Addr.add; split <;> simp_all
   rw [hadd] at this
   exact this
 · obtain ⟨h0, ⟨h1, _⟩ | ⟨g', cap, cur, h2, h3, h4, h5⟩⟩ := h
   · cases h1
   · simp at h2
     obtain ⟨rfl, rfl, rfl⟩ := h2
     exact frozen_of_row _ _ k _ _ h4
theorem own_kinds {w : World} {base n size : Nat} {e : TypeId} {v : Value} {xs : List Value} (h : w.ownsRow base e size v n xs) : (v = .slice none 0 0 /\ n = 0) ∨ ∃ g c, v = .slice (some ⟨g, 0, none⟩) n c /\ base <= g /\ g < w.heap.size := by
 obtain ⟨_, ⟨h1, h2⟩ | ⟨g, cap, cur, h2, h3, h4, _⟩⟩ := h
 · exact .inl ⟨h1, h2⟩
 · exact .inr ⟨g, cap, h2, h3, row_lt h4⟩
theorem ownV_of_cells {W : World} {base g cap n size : Nat} {E : TypeId} {cur : Array Value} {xs : List Value} (hr : W.heap[g]? = some (.cells cur E (0, 0))) (hsz : cur.size = cap * size) (hn : n <= cap) (hm : cap <= maxLen) (hb : base <= g) (hx : xs.length = n * size) (hc : ∀ j, j < n * size -> W.cell? ⟨g, j, none⟩ = xs[j]?) : W.ownsRow base E size (.slice (some ⟨g, 0, none⟩) n cap) n xs := by
 refine ⟨hx, .inr ⟨g, cap, cur, rfl, hb, hr, hn, hm, hsz, ?_⟩⟩
 apply List.ext_getElem?
 intro j
 rw [List.getElem?_take]
 by_cases hj : j < n * size
 · have h1 := hc j hj
   rw [cell_of_row _ _ _ _ _ _ hr] at h1
   rw [if_pos hj, Array.getElem?_toList, h1]
 · rw [if_neg hj, List.getElem?_eq_none (by omega)]
theorem infoI64 : (Tryz.prog.info? 2).map (fun i => (i.zero, i.size, i.bytes)) = some (some (Value.int .i64 0), 1, 8) := by kernel_rfl
end Go.Proofs.YtehfjfmfpdgibaaGreatDoor
