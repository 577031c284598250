import Derived.Test.YtcapkcallaajaaaGreatDoorPack1
import Derived.Laws.MakeOwn
namespace Go.Proofs.YtcapkcallaajaaaGreatDoor
open Go.RowKit
structure RT where
 v : Int
 a : Option Addr
 ids : List Int
 c : Nat
def rt0 : RT := ⟨0, none, [], 0⟩
instance : Inhabited RT := ⟨rt0⟩
def RT.key (r : RT) : Int × List Int := (r.v, r.ids)
def rtCells (r : RT) : List Value := [.int .i64 r.v, .slice r.a r.ids.length r.c]
def rowR (R : List RT) : List Value := R.flatMap rtCells
theorem rowR_cons (r : RT) (R : List RT) : rowR (r :: R) = rtCells r ++ rowR R := by simp [rowR]
theorem rowR_app (R S : List RT) : rowR (R ++ S) = rowR R ++ rowR S := by simp [rowR]
theorem rowR_len (R : List RT) : (rowR R).length = R.length * 2 := by
 induction R with
 | nil => rfl
 | cons r R ih => rw [rowR_cons, List.length_append, ih]; simp [rtCells]; omega
theorem rowR_at : ∀ (R : List RT) (j : Nat), j < R.length -> (rowR R)[j * 2]? = some (.int .i64 (R.getD j rt0).v) /\ (rowR R)[j * 2 + 1]? = some (.slice (R.getD j rt0).a (R.getD j rt0).ids.length (R.getD j rt0).c)
 | [], j, h => by simp at h
 | r :: R, 0, _ => by rw [rowR_cons]; exact ⟨rfl, rfl⟩
 | r :: R, j + 1, h => by
   have ih := rowR_at R j (by simpa using h)
   rw [rowR_cons]
   have e1 : (j + 1) * 2 = j * 2 + 2 := by omega
   have e2 : (j + 1) * 2 + 1 = j * 2 + 1 + 2 := by omega
   rw [e2, e1]
   simpa [rtCells] using ih
def RoutesAt (w : World) (ra : Option Addr) (R : List RT) : Prop := ∀ j, j < R.length -> ∃ b off, ra = some ⟨b, off, none⟩ /\ w.cell? ⟨b, off + j * 2, none⟩ = some (.int .i64 (R.getD j rt0).v) /\ w.cell? ⟨b, off + j * 2 + 1, none⟩ = some (.slice (R.getD j rt0).a (R.getD j rt0).ids.length (R.getD j rt0).c) /\ IntsAt w (R.getD j rt0).a (R.getD j rt0).ids
theorem RoutesAt.below {w w' : World} {ra : Option Addr} {R : List RT} (h : RoutesAt w ra R) (hb : Below w.heap.size w w') : RoutesAt w' ra R := fun j hj => by
 obtain ⟨b, off, e, h1, h2, h3⟩ := h j hj
 exact ⟨b, off, e, (hb.cell (p := ⟨b, off + j * 2, none⟩) (block_lt_of_cell h1)).trans h1, (hb.cell (p := ⟨b, off + j * 2 + 1, none⟩) (block_lt_of_cell h2)).trans h2, h3.below hb⟩
def Apt (S : List RT) (la : Option Addr) : Prop := (la :: S.map RT.a).Pairwise (fun x y => x = none ∨ x ≠ y)
theorem Apt.keys {S T : List RT} {la : Option Addr} (h : Apt S la) (e : T.map RT.a = S.map RT.a) : Apt T la := by unfold Apt at h ⊢; rw [e]; exact h
theorem Apt.left {S : List RT} {la : Option Addr} (h : Apt S la) {t : RT} (ht : t ∈ S) : la = none ∨ la ≠ t.a := (List.pairwise_cons.1 h).1 t.a (List.mem_map_of_mem ht)
theorem Apt.head {P Q : List RT} {s t : RT} {la : Option Addr} (h : Apt (P ++ s :: Q) la) (ht : t ∈ P) : t.a = none ∨ t.a ≠ s.a := by
 have h1 := (List.pairwise_cons.1 h).2
 rw [List.map_append, List.map_cons] at h1
 exact (List.pairwise_append.1 h1).2.2 t.a (List.mem_map_of_mem ht) s.a (by simp)
theorem Apt.tail {P Q : List RT} {s t : RT} {la : Option Addr} (h : Apt (P ++ s :: Q) la) (ht : t ∈ Q) : s.a = none ∨ s.a ≠ t.a := by
 have h1 := (List.pairwise_cons.1 h).2
 rw [List.map_append, List.map_cons] at h1
 exact (List.pairwise_cons.1 (List.pairwise_append.1 h1).2.1).1 t.a (List.mem_map_of_mem ht)
theorem key_at {R S : List RT} (h : S.map RT.key = R.map RT.key) (j : Nat) : (S.getD j rt0).v = (R.getD j rt0).v /\ (S.getD j rt0).ids = (R.getD j rt0).ids := by
 have hl : S.length = R.length := by simpa using congrArg List.length h
 rcases Nat.lt_or_ge j R.length with hj | hj
 · have e : (S.map RT.key)[j]? = (R.map RT.key)[j]? := by rw [h]
   rw [List.getElem?_map, List.getElem?_map, List.getElem?_eq_getElem (by omega), List.getElem?_eq_getElem hj] at e
   simp only [Option.map_some, Option.some.injEq, RT.key, Prod.mk.injEq] at e
   simp only [List.getD_eq_getElem?_getD, List.getElem?_eq_getElem hj, List.getElem?_eq_getElem (show j < S.length by omega), Option.getD_some]
   exact e
 · have e1 : R.getD j rt0 = rt0 := by rw [List.getD_eq_getElem?_getD, List.getElem?_eq_none hj]; rfl
   have e2 : S.getD j rt0 = rt0 := by rw [List.getD_eq_getElem?_getD, List.getElem?_eq_none (show S.length <= j by omega)]; rfl
   rw [e1, e2]
   exact ⟨rfl, rfl⟩
set_option maxHeartbeats 1000000 in
theorem eqRouteS_same (ra sa : Option Addr) (rc sc n : Nat) (R S : List RT) (w : World) (hA : RoutesAt w ra R) (hB : RoutesAt w sa S) (hk : S.map RT.key = R.map RT.key) (hR : R.length = n) (hn : n <= 1048576) (hi : ∀ r ∈ R, r.ids.length <= 1048576) :
 Calls Tryz.prog 39 #[.slice ra n rc, .slice sa n sc] w fun e w' => e = .returned (.bool true) /\ Below w.heap.size w w' := by
 have HA : Hid (RoutesAt w ra R) := hA
 have HB : Hid (RoutesAt w sa S) := hB
 have HK : Hid (S.map RT.key = R.map RT.key) := hk
 have HR : Hid (R.length = n) := hR
 have HS : Hid (S.length = n) := by show _ = _; rw [<- hR]; simpa using congrArg List.length hk
 have HI : Hid (∀ r ∈ R, r.ids.length <= 1048576) := hi
 clear hA hB hk hR hi
 go_enter Tryz.func39, Tryz.ntmps39
 go_wp2_with fail
 go_loopw [5] (fun ti wr => ∃ i : Nat, i <= n /\ ti = .int .i64 i /\ Below w.heap.size w wr) (fun ti _ => n - (intOf ti).toNat)
 case atStart => exact ⟨0, Nat.zero_le _, rfl, Below.refl _ _⟩
 case round =>
  obtain ⟨i, hi, rfl, hb⟩ := hrel
  have B1 : Hid (Below w.heap.size w wr) := hb
  clear hb
  by_cases hlt : i < n
  · obtain ⟨b1, o1, e1, c1, c2, i1⟩ := (HA.out.below B1.out) i (by rw [HR.out]; exact hlt)
    obtain ⟨b2, o2, e2, d1, d2, i2⟩ := (HB.out.below B1.out) i (by rw [HS.out]; exact hlt)
    have hkey := key_at HK.out i
    have him : (R.getD i rt0).ids.length <= 1048576 := HI.out _ (by
     have : i < R.length := by rw [HR.out]; exact hlt
     rw [List.getD_eq_getElem?_getD, List.getElem?_eq_getElem this]; simp)
    subst e1 e2
    generalize R.getD i rt0 = r at *
    generalize S.getD i rt0 = s at *
    obtain ⟨rv, rra, rids, rcc⟩ := r
    obtain ⟨sv, ssa, sids, scc⟩ := s
    simp only at hkey c1 c2 i1 d1 d2 i2 him
    obtain ⟨rfl, rfl⟩ := hkey
    have ER : Hid (∀ W, Below wr.heap.size wr W -> Calls Tryz.prog 71 #[.agg #[.int .i64 sv, .slice rra sids.length rcc], .agg #[.int .i64 sv, .slice ssa sids.length scc]] W fun e w' => e = .returned (.bool true) /\ Below W.heap.size W w') := fun W hb => eqRoute_same sv rra ssa rcc scc sids W (i1.below hb) (i2.below hb) (by omega)
    clear i1 i2
    have hin : (i : Int) < n := by omega
    have z1 := fun s : Kin wr => s.cell c1
    have z2 := fun s : Kin wr => s.cell c2
    have z3 := fun s : Kin wr => s.cell d1
    have z4 := fun s : Kin wr => s.cell d2
    have hkin := Kin.there wr
    generalize sids.length = m at *
    go_wp2_with fail
    refine wp_region_kin (by kernel_rfl) (by kernel_rfl) ?_
    repeat (go_big_quiet_step ((go_at_call 71; with_reducible exact Kin.call (ER.out _ (Kin.below _)))))
    refine wpQuiet_nil ?_
    rintro _ ⟨s1, rfl⟩
    clear z1 z2 z3 z4 hkin
    go_wp2
    go_roundw
    case rel => exact ⟨i + 1, by omega, by first | rfl | go_num, B1.out.trans (s1.below.mono B1.out.size)⟩
    case measure => simp [intOf]; omega
  · have hin : ¬ ((i : Int) < n) := by omega
    go_wp2
    go_ret
    exact ⟨rfl, B1.out⟩
set_option maxHeartbeats 1000000 in
theorem eqPlan_same (ra sa la ma : Option Addr) (rc sc n lc mc : Nat) (R S : List RT) (L : List Int) (w : World) (hA : RoutesAt w ra R) (hB : RoutesAt w sa S) (hk : S.map RT.key = R.map RT.key) (hR : R.length = n) (hn : n <= 1048576) (hi : ∀ r ∈ R, r.ids.length <= 1048576) (hL : IntsAt w la L) (hM : IntsAt w ma L) (hll : L.length <= 1048576) :
 Calls Tryz.prog 18 #[.agg #[.slice ra n rc, .slice la L.length lc], .agg #[.slice sa n sc, .slice ma L.length mc]] w fun e w' => e = .returned (.bool true) /\ Below w.heap.size w w' := by
 have HA : Hid (RoutesAt w ra R) := hA
 have HB : Hid (RoutesAt w sa S) := hB
 have HL : Hid (IntsAt w la L) := hL
 have HM : Hid (IntsAt w ma L) := hM
 have B0 : Hid (Below w.heap.size w ((w.alloc (.cells #[.slice ra n rc, .slice la L.length lc] 31)).alloc (.cells #[.slice sa n sc, .slice ma L.length mc] 31))) := ((Below.refl _ _).alloc (Nat.le_refl _) _).alloc (by simp) _
 have G0 : Hid (((w.alloc (.cells #[.slice ra n rc, .slice la L.length lc] 31)).alloc (.cells #[.slice sa n sc, .slice ma L.length mc] 31)).heap[w.heap.size]? = some (.cells #[.slice ra n rc, .slice la L.length lc] 31 (0, 0))) := heap_alloc2_old _ _ _
 have G1 : Hid (((w.alloc (.cells #[.slice ra n rc, .slice la L.length lc] 31)).alloc (.cells #[.slice sa n sc, .slice ma L.length mc] 31)).heap[w.heap.size + 1]? = some (.cells #[.slice sa n sc, .slice ma L.length mc] 31 (0, 0))) := heap_alloc2_new _ _ _
 clear hA hB hL hM
 obtain ⟨c0, c1⟩ := cells2 G0.out
 obtain ⟨d0, d1⟩ := cells2 G1.out
 go_enter Tryz.func18, Tryz.ntmps18
 go_wp2_with fail
 clear c0 c1 d0 d1
 generalize (w.alloc (.cells #[.slice ra n rc, .slice la L.length lc] 31)).alloc (.cells #[.slice sa n sc, .slice ma L.length mc] 31) = W0 at *
 refine (eqRouteS_same ra sa rc sc n R S W0 (HA.out.below B0.out) (HB.out.below B0.out) hk hR hn hi).mono ?_
 rintro e w1 ⟨rfl, hb⟩
 have B1 : Hid (Below w.heap.size w w1) := B0.out.trans (hb.mono B0.out.size)
 obtain ⟨c0, c1⟩ := cells2 (below_row hb (row_lt G0.out) G0.out)
 obtain ⟨d0, d1⟩ := cells2 (below_row hb (row_lt G1.out) G1.out)
 clear hb B0 G0 G1
 go_wp2_with fail
 clear c0 c1 d0 d1
 refine (eqInts_any la ma lc mc L L w1 (HL.out.below B1.out) (HM.out.below B1.out) (by omega)).mono ?_
 rintro e w2 ⟨rfl, hb⟩
 have B2 : Hid (Below w.heap.size w w2) := B1.out.trans (hb.mono B1.out.size)
 clear hb
 rw [show decide (L = L) = true from decide_eq_true rfl]
 go_wp2
 go_ret
 exact ⟨rfl, B2.out⟩
end Go.Proofs.YtcapkcallaajaaaGreatDoor
