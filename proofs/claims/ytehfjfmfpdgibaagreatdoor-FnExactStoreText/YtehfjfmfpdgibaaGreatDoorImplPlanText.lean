import Derived.Test.YtehfjfmfpdgibaaGreatDoorPack10
import Derived.Test.YtehfjfmfpdgibaaGreatDoorPack20
import Derived.Test.YtehfjfmfpdgibaaGreatDoorAppendNo0
import Derived.Test.YtehfjfmfpdgibaaGreatDoorInsOne
namespace Go.Proofs.YtehfjfmfpdgibaaGreatDoor
open Go.RowKit
theorem Wrt.ints {B b g n c base : Nat} {zs : List Int} {w w' : World} (h : Wrt B b w w') (ho : w.ownsRow base 2 1 (.slice (some ⟨g, 0, none⟩) n c) n (zs.map (Value.int .i64))) (hb : b < base) : IntsAt w' (some ⟨g, 0, none⟩) zs := by
 have hi := owns_ints ho
 obtain ⟨_, ⟨h1, _⟩ | ⟨g', cap, cur, h1, h2, h3, _⟩⟩ := ho
 · cases h1
 · simp at h1
   obtain ⟨rfl, rfl⟩ := h1
   have h4 := h.row h3 (by omega) (by decide)
   intro j hj
   obtain ⟨b', off', e, hc⟩ := hi j hj
   simp at e
   obtain ⟨rfl, rfl⟩ := e
   refine ⟨g, 0, rfl, ?_⟩
   rw [<- hc]
   unfold World.cell?
   rw [h3, h4]
set_option maxRecDepth 10000 in
set_option maxHeartbeats 4000000 in
theorem implPlanText_any (ra la : Option Addr) (rc lc : Nat) (R : List RT) (L : List Int) (w : World) (hR : RoutesAt w ra R) (hL : IntsAt w la L) (hn : R.length <= 1048576) (hl : L.length <= 1048576) (hi : ∀ r ∈ R, r.ids.length <= 1048576) (had : ∀ r ∈ R, (r.a = none /\ r.ids.length = 0) ∨ ∃ b off, r.a = some ⟨b, off, none⟩) (hT : PW w) :
 Calls Tryz.prog 63 #[.agg #[.slice ra R.length rc, .slice la L.length lc]] w fun e w' => e = .returned (.string (if formB R L = true then txt (planL R L) else txt [])) /\ Below w.heap.size w w' := by
 have HPW : Hid (PW w) := hT
 have HR : Hid (RoutesAt w ra R) := hR
 have HL : Hid (IntsAt w la L) := hL
 have HAD : Hid (∀ r ∈ R, (r.a = none /\ r.ids.length = 0) ∨ ∃ b off, r.a = some ⟨b, off, none⟩) := had
 have C0 : Hid (PX w (w.alloc (.cells #[.slice ra R.length rc, .slice la L.length lc] 46)) #[.slice ra R.length rc, .slice la L.length lc]) := PX.new w _
 have CF := canBe_any ra la rc lc R L _ (HR.out.below C0.out.1) (HL.out.below C0.out.1) hn hl hi
 clear hR hL hi had hT
 obtain ⟨x, HX⟩ : ∃ x, Hid ((if formB R L = true then txt (planL R L) else txt []) = x) := ⟨_, rfl⟩
 rw [HX.out]
 obtain ⟨n, HN⟩ : ∃ n, Hid (R.length = n) := ⟨_, rfl⟩
 obtain ⟨l, HLL⟩ : ∃ l, Hid (L.length = l) := ⟨_, rfl⟩
 rw [HN.out, HLL.out] at C0 CF
 rw [HN.out] at hn ⊢
 rw [HLL.out] at hl ⊢
 obtain ⟨c0, c1⟩ := cells2 C0.out.2
 go_enter Tryz.func63, Tryz.ntmps63
 go_wp2_with fail
 clear c0 c1
 generalize w.alloc (.cells #[.slice ra n rc, .slice la l lc] 46) = W0 at *
 refine CF.mono ?_
 rintro e w1 ⟨rfl, hb⟩
 have C1 : Hid (PX w w1 #[.slice ra n rc, .slice la l lc]) := C0.out.below hb
 clear hb C0 CF
 by_cases hf2 : formB R L = false
 · have HE : Hid (x = txt []) := by show _ = _; rw [<- HX.out, if_neg (by rw [hf2]; simp)]
   rw [hf2]
   clear hf2
   go_wp2
   go_ret
   exact ⟨by rw [HE.out]; rfl, C1.out.1⟩
 have hf : formB R L = true := by simpa using hf2
 have HE : Hid (x = txt (routesL R n ++ lineL wLeft L)) := by show _ = _; rw [<- HX.out, if_pos hf, <- HN.out]; rfl
 have HF : Hid (formB R L = true) := hf
 rw [hf]
 have hn5 : n <= 5 := by rw [<- HN.out]; exact (formB_parts hf).1
 have HLS : Hid (Small L) := (idsB_small (formB_parts hf).2.1).2
 have hl12 : l <= 12 := by rw [<- HLL.out]; exact (idsB_small (formB_parts hf).2.1).1
 have HRL : Hid (∀ k, k <= n -> (routesL R k).length <= 400 * k) := HN.out ▸ routesL_len hf
 clear hf hf2
 have HPW1 : Hid (∀ W', Below w1.heap.size w1 W' -> PW W') := fun W' h => PW.below HPW.out (C1.out.1.trans (h.mono C1.out.1.size)) (Nat.le_refl _)
 have U2 : Hid (BU w1.heap.size w1.heap.size [] (w1.alloc (.cells #[.pointer none, .slice none 0 0] 99))) := BU.new w1.heap.size w1 (Nat.le_refl _)
 have B2 : Hid (Below w1.heap.size w1 (w1.alloc (.cells #[.pointer none, .slice none 0 0] 99))) := (Below.refl _ _).alloc (Nat.le_refl _) _
 obtain ⟨c0, c1⟩ := cells2 (C1.out.below B2.out).2
 go_wp2_with fail
 clear c0 c1
 generalize w1.alloc (.cells #[.pointer none, .slice none 0 0] 99) = W2 at *
 go_loopw [12] (fun ti wr => ∃ k : Nat, k <= n /\ ti = .int .i64 k /\ BU w1.heap.size w1.heap.size (routesL R k) wr /\ Below w1.heap.size w1 wr) (fun ti _ => n - (intOf ti).toNat)
 case atStart => exact ⟨0, Nat.zero_le _, rfl, U2.out, B2.out⟩
 case round =>
  clear U2 B2
  obtain ⟨k, hk, rfl, hu, hb⟩ := hrel
  have UW : Hid (BU w1.heap.size w1.heap.size (routesL R k) wr) := hu
  have BW : Hid (Below w1.heap.size w1 wr) := hb
  have CW : Hid (PX w wr #[.slice ra n rc, .slice la l lc]) := C1.out.below hb
  clear hu hb
  have HTS : Hid ((routesL R k).length <= 20000) := by
   have h1 := HRL.out k hk
   show _ <= _
   omega
  have BUL : Hid (w1.heap.size < wr.heap.size) := UW.out.lt
  by_cases hlt : k < n
  · have hkl : k < R.length := by rw [HN.out]; exact hlt
    have hkn : (k : Int) < n := by omega
    obtain ⟨b, off, rfl, r0, r1, hI⟩ := (HR.out.below CW.out.1) k hkl
    obtain ⟨hsm, hil⟩ := row_smallR HF.out hkl
    have hadk := HAD.out (R.getD k rt0) (by rw [List.getD_eq_getElem?_getD, List.getElem?_eq_getElem hkl]; simp)
    have HSTEP : Hid (routesL R (k + 1) = routesL R k ++ lineL wRoute ((R.getD k rt0).v :: (R.getD k rt0).ids)) := rfl
    generalize R.getD k rt0 = r at *
    obtain ⟨rv, rra, rids, rcc⟩ := r
    simp only at r0 r1 hI hil hsm hadk HSTEP
    have II : Hid (IntsAt wr rra rids) := hI
    have HSM : Hid (Small (rv :: rids)) := hsm
    clear hkl hI hsm
    obtain ⟨m, HM⟩ : ∃ m, Hid (rids.length = m) := ⟨_, rfl⟩
    rw [HM.out] at r1 hil hadk
    have WX : Hid (Below wr.heap.size wr (wr.alloc (.cells #[.int .i64 rv, .slice rra m rcc] 134))) := (Below.refl _ _).alloc (Nat.le_refl _) _
    have RX : Hid ((wr.alloc (.cells #[.int .i64 rv, .slice rra m rcc] 134)).heap[wr.heap.size]? = some (.cells #[.int .i64 rv, .slice rra m rcc] 134 (0, 0))) := heap_alloc_new _ _
    have HS1 : Hid ((wr.alloc (.cells #[.int .i64 rv, .slice rra m rcc] 134)).heap.size = wr.heap.size + 1) := by show _ = _; simp
    go_wp2_with fail
    clear r0 r1
    generalize wr.alloc (.cells #[.int .i64 rv, .slice rra m rcc] 134) = W3 at *
    have hwl : wr.heap.size < W3.heap.size := by rw [HS1.out]; omega
    have CLN : Hid (∀ W, Below W3.heap.size W3 W -> Calls Tryz.prog 110 #[.slice rra m rcc] W fun e w' => ∃ sl, e = .returned sl /\ Below W.heap.size W w' /\ w'.ownsRow W.heap.size 2 1 sl m (rids.map (Value.int .i64))) := fun W hW =>
     clone_any rra rcc m rids W (II.out.below (WX.out.trans (hW.mono WX.out.size))) HM.out (by omega) hadk
    have INS : Hid (∀ (sl : Value) (vb base : Nat) (W : World), W.ownsRow base 2 1 sl m (rids.map (Value.int .i64)) -> base <= W.heap.size -> W.heap[vb]? = some (.cells #[.int .i64 rv] 2 (0, 0)) -> sl.ownBlock ≠ some vb -> Calls Tryz.prog 109 #[sl, .int .i64 0, .slice (some ⟨vb, 0, none⟩) 1 1] W fun e w' => ∃ g' c', e = .returned (.slice (some ⟨g', 0, none⟩) (m + 1) c') /\ Below base W w' /\ w'.ownsRow base 2 1 (.slice (some ⟨g', 0, none⟩) (m + 1) c') (m + 1) ((rv :: rids).map (Value.int .i64))) := fun sl vb base W h1 h2 h3 h4 => by
     have := insert_one sl 0 vb base m rv rids W HM.out h1 h2 h3 h4 (Nat.zero_le _) (by omega)
     rw [show insL rids 0 rv = rv :: rids from rfl] at this
     exact this
    have WLN : Hid (∀ (g c base : Nat) (W : World), Below W3.heap.size W3 W -> w1.heap.size < base -> W.ownsRow base 2 1 (.slice (some ⟨g, 0, none⟩) (m + 1) c) (m + 1) ((rv :: rids).map (Value.int .i64)) -> Calls Tryz.prog 60 #[.pointer (some ⟨w1.heap.size, 0, none⟩), .string ⟨#[114, 111, 117, 116, 101]⟩, .slice (some ⟨g, 0, none⟩) (m + 1) c] W fun e w' => e = .returned (.tuple #[]) /\ BU w1.heap.size w1.heap.size (routesL R (k + 1)) w' /\ Below w1.heap.size w1 w' /\ w'.heap[wr.heap.size]? = some (.cells #[.int .i64 rv, .slice rra m rcc] 134 (0, 0))) := fun g c base W hW hb ho => by
     have hBW : Below wr.heap.size wr W := WX.out.trans (hW.mono WX.out.size)
     have := writeLine_any w1.heap.size w1.heap.size (routesL R k) wRoute (some ⟨g, 0, none⟩) c (rv :: rids) W (UW.out.below hBW) (Nat.le_trans BW.out.size hBW.size) (fun W' h => h.ints ho hb) (fun W' h => HPW1.out W' (BW.out.trans ((hBW.mono BW.out.size).trans h))) HSM.out (by simp only [List.length_cons]; rw [HM.out]; omega) (by simp [wRoute]) (by have := HTS.out; omega)
     rw [show (rv :: rids).length = m + 1 by simp only [List.length_cons]; rw [HM.out], <- HSTEP.out] at this
     exact this.mono fun e w' ⟨h1, h2, h3⟩ => ⟨h1, h2, BW.out.trans ((hBW.mono BW.out.size).trans h3.1), h3.row (below_row hW (row_lt RX.out) RX.out) (Nat.ne_of_gt BUL.out) (by decide)⟩
    have A3 : Hid ((W3.alloc (.cells #[.int .i64 rv] 2)).heap[W3.heap.size]? = some (.cells #[.int .i64 rv] 2 (0, 0))) := heap_alloc_new _ _
    have BA3 : Hid (Below W3.heap.size W3 (W3.alloc (.cells #[.int .i64 rv] 2))) := (Below.refl _ _).alloc (Nat.le_refl _) _
    obtain ⟨q0, q1⟩ := cells2 RX.out
    have kS := And.intro q0 q1
    go_region_held3 (fun W => W.cell? ⟨wr.heap.size, 0, none⟩ = some (.int .i64 rv) /\ W.cell? ⟨wr.heap.size, 1, none⟩ = some (.slice rra m rcc)) (first | with_reducible exact kS | go_keep) ((first
     | (go_at_call 110
        with_reducible refine (CLN.out W3.drew (Below.refl _ _).drew).mono ?_
        rintro e w4 ⟨sl, rfl, hb4, ho4⟩
        have B4 : Hid (Below W3.heap.size W3 w4) := (Below.refl _ _).drew.trans (show Below W3.heap.size W3.drew w4 from hb4)
        have O4 : Hid (w4.ownsRow W3.heap.size 2 1 sl m (rids.map (Value.int .i64))) := by exact ho4
        have kS := And.intro (keepC q0 B4.out) (keepC q1 B4.out)
        clear hb4 ho4)
     | (go_at_call 110
        with_reducible refine (CLN.out (W3.alloc (.cells #[.int .i64 rv] 2)).drew BA3.out.drew).mono ?_
        rintro e w4 ⟨sl, rfl, hb4, ho4⟩
        have B4 : Hid (Below W3.heap.size W3 w4) := BA3.out.drew.trans ((show Below (W3.alloc (.cells #[.int .i64 rv] 2)).heap.size (W3.alloc (.cells #[.int .i64 rv] 2)).drew w4 from hb4).mono BA3.out.size)
        have V4 : Hid (w4.heap[W3.heap.size]? = some (.cells #[.int .i64 rv] 2 (0, 0))) := below_row hb4 (show W3.heap.size < (W3.alloc (.cells #[.int .i64 rv] 2)).drew.heap.size from row_lt A3.out) A3.out
        have O4 : Hid (w4.ownsRow (W3.alloc (.cells #[.int .i64 rv] 2)).heap.size 2 1 sl m (rids.map (Value.int .i64))) := by exact ho4
        have kS := And.intro (keepC q0 B4.out) (keepC q1 B4.out)
        clear hb4 ho4)
     | (go_at_call 109
        with_reducible refine (INS.out sl w4.heap.size W3.heap.size (w4.alloc (.cells #[.int .i64 rv] 2)) (O4.out.alloc _) (by have := B4.out.size; simp; omega) (heap_alloc_new _ _) (fun e => by have := (O4.out.lt _ e).2; omega)).mono ?_
        rintro e w5 ⟨g5, c5, rfl, hb5, ho5⟩
        have B5 : Hid (Below W3.heap.size W3 w5) := (B4.out.alloc B4.out.size _).trans hb5
        have O5 : Hid (w5.ownsRow W3.heap.size 2 1 (.slice (some ⟨g5, 0, none⟩) (m + 1) c5) (m + 1) ((rv :: rids).map (Value.int .i64))) := ho5
        have kS := And.intro (keepC q0 B5.out) (keepC q1 B5.out)
        clear hb5 ho5)
     | (go_at_call 109
        with_reducible refine (INS.out sl W3.heap.size (W3.alloc (.cells #[.int .i64 rv] 2)).heap.size w4 O4.out (by first | exact O4.out.base_le | (have := B4.out.size; have := row_lt V4.out; simp; omega)) V4.out (fun e => by have := (O4.out.lt _ e).1; simp at this; omega)).mono ?_
        rintro e w5 ⟨g5, c5, rfl, hb5, ho5⟩
        have B5 : Hid (Below W3.heap.size W3 w5) := B4.out.trans (hb5.mono (by simp))
        have O5 : Hid (w5.ownsRow W3.heap.size 2 1 (.slice (some ⟨g5, 0, none⟩) (m + 1) c5) (m + 1) ((rv :: rids).map (Value.int .i64))) := owns_base ho5 (by simp)
        have kS := And.intro (keepC q0 B5.out) (keepC q1 B5.out)
        clear hb5 ho5)
     | (go_at_call 60
        with_reducible refine (WLN.out g5 c5 W3.heap.size w5 B5.out (by have := BUL.out; omega) O5.out).mono ?_
        rintro e w6 ⟨rfl, hu6, hb6, hr6⟩
        have U6 : Hid (BU w1.heap.size w1.heap.size (routesL R (k + 1)) w6) := hu6
        have B6 : Hid (Below w1.heap.size w1 w6) := hb6
        have kS := cells2 hr6
        clear hu6 hb6 hr6)))
    all_goals
     go_wp2_with fail
     go_roundw
     case rel => exact ⟨k + 1, by omega, by go_num, U6.out, B6.out⟩
     case measure => simp [intOf]; omega
  · have hnlt : ¬ ((k : Int) < (n : Int)) := by omega
    have HK : Hid (k = n) := by show _ = _; omega
    have HEE : Hid (x = txt (routesL R k ++ lineL wLeft L)) := by
     show _ = _
     rw [HE.out, HK.out]
    have HCL := writeLine_any w1.heap.size w1.heap.size (routesL R k) wLeft la lc L wr UW.out BW.out.size (fun W' h => HL.out.below (CW.out.1.trans (h.1.mono C1.out.1.size))) (fun W' h => HPW1.out W' (BW.out.trans h)) HLS.out (by rw [HLL.out]; omega) (by simp [wLeft]) (by have := HTS.out; omega)
    rw [HLL.out] at HCL
    obtain ⟨c0, c1⟩ := cells2 CW.out.2
    go_wp2_with fail
    clear c0 c1
    refine HCL.mono ?_
    rintro e w2 ⟨rfl, hu, hb⟩
    have B3 : Hid (Below w1.heap.size w1 w2) := BW.out.trans hb.1
    have CS := string_any w1.heap.size w1.heap.size _ w2 hu (by unfold lineL; simp)
    rw [<- HEE.out] at CS
    clear hb hu HCL
    go_wp2_with fail
    refine CS.mono ?_
    rintro e w3 ⟨rfl, hb⟩
    have B4 : Hid (Below w1.heap.size w1 w3) := B3.out.trans hb.1
    clear hb CS
    go_wp2
    go_ret
    exact ⟨rfl, C1.out.1.trans (B4.out.mono C1.out.1.size)⟩
end Go.Proofs.YtehfjfmfpdgibaaGreatDoor
