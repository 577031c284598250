import Derived.Test.YtfcplmageokdiafEmptyBase
namespace Go.Proofs.Ytfcplmageokdiaf
open Go.RowKit

set_option maxHeartbeats 2000000 in
theorem specEmpty_any (n fine : Int) (a ao av : Option Addr) (cap ko co kv cv : Nat) (zs os vs : List Int) (w : World) (hA : IntsAt w a zs) (hO : IntsAt w ao os) (hV : IntsAt w av vs) (hlo : os.length = ko * 6) (hlv : vs.length = kv * 5) (hko : ko ≤ 9223372036854775807) (hkv : kv ≤ 9223372036854775807) (cb : Bool) (K : Nat) (X : List Int) (hcb : caseB n zs os vs ko kv fine = cb) (hK : (if cb = true then ko else 0) = K) (hX : (if cb = true then idsL os ko else []) = X) :
    Calls Try.prog 7 #[.agg #[.int .i64 n, .slice a zs.length cap, .slice ao ko co, .slice av kv cv, .int .i64 fine]] w fun e w' => ∃ sl, e = .returned (.tuple #[.agg #[.slice none 0 0, sl], .bool cb]) ∧ Below w.heap.size w w' ∧ w'.ownsRow w.heap.size 2 1 sl K (X.map (Value.int .i64)) := by
  have HA : Hid (IntsAt w a zs) := hA
  have HO : Hid (IntsAt w ao os) := hO
  have HV : Hid (IntsAt w av vs) := hV
  have HLO : Hid _ := hlo
  have HLV : Hid _ := hlv
  clear hA hO hV hlo hlv
  have HKK : Hid ((if cb = true then ko else 0) = K) := hK
  have HXX : Hid ((if cb = true then idsL os ko else []) = X) := hX
  have HCB : Hid (caseB n zs os vs ko kv fine = cb) := hcb
  clear hK hX hcb
  have HE0 : Hid (EP w ((w.alloc (.cells #[Value.int IntKind.i64 n, Value.slice a zs.length cap, Value.slice ao ko co, Value.slice av kv cv, Value.int IntKind.i64 fine] 39)).alloc (.cells #[Value.slice none 0 0, Value.slice none 0 0] 32)) _) := EP.new w _
  go_enter Try.func7, Try.ntmps7
  obtain ⟨c0, c1, c2', c3, c4⟩ := cells5 HE0.out.2.1
  go_wp2_with fail
  clear c0 c1 c2' c3 c4
  refine (specCase_any n fine a ao av cap ko co kv cv zs os vs _ (HA.out.below HE0.out.1) (HO.out.below HE0.out.1) (HV.out.below HE0.out.1) HLO.out HLV.out hko hkv).mono ?_
  rintro e w1 ⟨rfl, hb⟩
  have E1 : Hid (EP w w1 _) := HE0.out.below hb
  clear hb HE0
  rw [HCB.out]
  cases cb
  · have hk0 : K = 0 := HKK.out.symm.trans (if_neg (by simp))
    have hx0 : X = [] := HXX.out.symm.trans (if_neg (by simp))
    subst hk0 hx0
    obtain ⟨p0, p1⟩ := cells2 E1.out.2.2
    have pf := fun i => frozen_of_row _ _ i _ _ E1.out.2.2
    go_wp2
    refine bodyPost_ret (v := .tuple #[.agg #[.slice none 0 0, .slice none 0 0], .bool false]) (by simp [results, Try.results7, go_sem, p0, p1]) rfl ⟨.slice none 0 0, rfl, ?_, World.ownsRow_nil _ _ _ _⟩
    repeat (first | with_reducible exact E1.out.b | refine Below.setCell ?_ (by simp <;> omega) _)
  · have hk1 : K = ko := HKK.out.symm.trans (if_pos rfl)
    have hx1 : X = idsL os ko := HXX.out.symm.trans (if_pos rfl)
    subst hk1 hx1
    have h12 : K ≤ 12 := (ordsB_true (caseB_ords HCB.out)).1
    have E2 : Hid (EP w (w1.alloc (Obj.cells #[Value.slice none 0 0, Value.slice none 0 0] 32)) _) := E1.out.alloc _
    have PR2 : Hid ((w1.alloc (Obj.cells #[Value.slice none 0 0, Value.slice none 0 0] 32)).heap[w1.heap.size]? = _) := heap_alloc_new _ _
    have HBP : Hid (w.heap.size + 1 < w1.heap.size) := row_lt E1.out.2.2
    obtain ⟨c0, c1, c2', c3, c4⟩ := cells5 E2.out.2.1
    clear E1
    go_wp2_with fail
    clear c0 c1 c2' c3 c4
    generalize w1.alloc (Obj.cells #[Value.slice none 0 0, Value.slice none 0 0] 32) = W1 at *
    generalize w1.heap.size = bp at *
    go_loopw [5] (fun t wr => ∃ (k : Nat) (sl : Value), k ≤ K ∧ t = .int .i64 k ∧ EP w wr #[Value.int IntKind.i64 n, Value.slice a zs.length cap, Value.slice ao K co, Value.slice av kv cv, Value.int IntKind.i64 fine] ∧ wr.heap[bp]? = some (.cells #[.slice none 0 0, sl] 32 (0, 0)) ∧ wr.ownsRow (bp + 1) 2 1 sl k ((idsL os k).map (Value.int .i64))) (fun t _ => K - (intOf t).toNat)
    case atStart => exact ⟨0, .slice none 0 0, Nat.zero_le _, rfl, E2.out, PR2.out, World.ownsRow_nil _ _ _ _⟩
    case round =>
      clear E2 PR2
      obtain ⟨k, sl, hk, rfl, he, hp, ho⟩ := hrel
      have HE : Hid (EP w wr _) := he
      have HP : Hid (wr.heap[bp]? = _) := hp
      have HW : Hid (wr.ownsRow (bp + 1) 2 1 sl k _) := ho
      obtain ⟨c0, c1, c2', c3, c4⟩ := cells5 he.2.1
      obtain ⟨p0, p1⟩ := cells2 hp
      have pf := fun i => frozen_of_row _ _ i _ _ hp
      clear he hp ho
      by_cases hlt : k < K
      · obtain ⟨b, off, rfl, hcs⟩ := IntsAt.some (IntsAt.below HO.out HE.out.1) (j := k * 6) (by rw [HLO.out]; omega)
        obtain ⟨r0, r1, r2, r3, r4, r5⟩ := row6_at hcs HLO.out k hlt
        clear hcs
        have HNX : Hid (idsL os (k + 1) = idsL os k ++ [og6 os k 0]) := idsL_succ os k
        have hlb := block_lt_of_cell r0
        simp at hlb
        obtain ⟨o0, H0⟩ : ∃ t, Hid (og6 os k 0 = t) := ⟨_, rfl⟩
        obtain ⟨o1, H1⟩ : ∃ t, Hid (og6 os k 1 = t) := ⟨_, rfl⟩
        obtain ⟨o2, H2⟩ : ∃ t, Hid (og6 os k 2 = t) := ⟨_, rfl⟩
        obtain ⟨o3, H3⟩ : ∃ t, Hid (og6 os k 3 = t) := ⟨_, rfl⟩
        obtain ⟨o4, H4⟩ : ∃ t, Hid (og6 os k 4 = t) := ⟨_, rfl⟩
        obtain ⟨o5, H5⟩ : ∃ t, Hid (og6 os k 5 = t) := ⟨_, rfl⟩
        rw [H0.out] at HNX
        rw [H0.out] at r0
        rw [H1.out] at r1
        rw [H2.out] at r2
        rw [H3.out] at r3
        rw [H4.out] at r4
        rw [H5.out] at r5
        have HLE : Hid (bp + 1 ≤ wr.heap.size) := row_lt HP.out
        go_wp2_with fail
        obtain ⟨s0, s1⟩ := cells2 ((heap_alloc_old wr (Obj.cells #[Value.int IntKind.i64 o0] 2) (row_lt HP.out)).trans HP.out)
        go_region_law ((
           refine step_append_int rfl (.tmp 19) (.tmp 26) rfl (bp + 1) sl k _ (by simp [Act.eval]) (HW.out.drew.alloc _) ⟨wr.heap.size, 0, none⟩ 1 (.int .i64 o0) (by simp [Act.eval]) (cell_new1 _ _ _ _ (by simp)) rfl (by omega) (Nat.le_trans HLE.out (by simp)) ?_
           intro v' w4 hown4 hgrow4
           obtain ⟨gg', cc', rfl, hgg'⟩ := own_some hown4
           have hne : ∀ q, sl.ownBlock = some q → bp < q := fun q e => (HW.out.lt _ e).1
           have hp4 : w4.heap[bp]? = some (.cells #[.slice none 0 0, sl] 32 (0, 0)) := (hgrow4.block _ (Nat.lt_of_lt_of_le (row_lt HP.out) (by simp; try omega)) (fun e => by have := hne _ e.symm; omega)).trans ((heap_alloc_old _ _ (row_lt HP.out)).trans HP.out)
           have HP4 : Hid (w4.heap[bp]? = _) := hp4
           obtain ⟨u0, u1⟩ := cells2 hp4
           have uf := fun i => frozen_of_row _ _ i _ _ hp4
           have HE4 : Hid (EP w w4 _) := EP.grown (EP.below (HE.out.alloc _) (Below.refl _ _).drew) hgrow4 (fun q e => by have := hne q e; have := HBP.out; omega)
           have HW4 : Hid (w4.ownsRow (bp + 1) 2 1 (.slice (some ⟨gg', 0, none⟩) (k + 1) cc') (k + 1) _) := hown4
           clear hp4 hown4 hgrow4 hne))
        all_goals
          go_wp2
          go_roundw
          case rel =>
            refine ⟨k + 1, _, by omega, by go_num, HE4.out.set (by have := HBP.out; omega), heap_setCell_same _ _ _ _ _ _ HP4.out, ?_⟩
            rw [HNX.out, List.map_append]
            exact owns_set HW4.out (by omega)
          case measure => simp [intOf]; omega
      · have hkl : k = K := by omega
        subst hkl
        obtain ⟨q0, q1⟩ := cells2 HE.out.2.2
        have qf := fun i => frozen_of_row _ _ i _ _ HE.out.2.2
        have HRN : Hid (w.heap.size + 1 ≠ bp) := Nat.ne_of_lt HBP.out
        rcases own_shape HW.out with rfl | ⟨gq, cq, rfl⟩
        · go_wp2
          refine bodyPost_ret (v := .tuple #[.agg #[.slice none 0 0, .slice none 0 0], .bool true]) (by simp [results, Try.results7, go_sem, q0, q1]) rfl ⟨_, rfl, ?_, ?_⟩
          · repeat (first | with_reducible exact HE.out.b | refine Below.setCell ?_ (by simp <;> omega) _)
          · exact owns_base (ownsRow_setCell_below (ownsRow_setCell_below HW.out (by simp; have := HBP.out; omega) _) (by simp; have := HBP.out; omega) _) (by have := HBP.out; omega)
        · go_wp2
          refine bodyPost_ret (v := .tuple #[.agg #[.slice none 0 0, .slice (some ⟨gq, 0, none⟩) k cq], .bool true]) (by simp [results, Try.results7, go_sem, q0, q1]) rfl ⟨_, rfl, ?_, ?_⟩
          · repeat (first | with_reducible exact HE.out.b | refine Below.setCell ?_ (by simp <;> omega) _)
          · exact owns_base (ownsRow_setCell_below (ownsRow_setCell_below HW.out (by simp; have := HBP.out; omega) _) (by simp; have := HBP.out; omega) _) (by have := HBP.out; omega)

end Go.Proofs.Ytfcplmageokdiaf
