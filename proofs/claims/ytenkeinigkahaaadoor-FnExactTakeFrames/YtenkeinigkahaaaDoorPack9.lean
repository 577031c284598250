import Derived.Test.YtenkeinigkahaaaDoorPack2
import Derived.Test.YtenkeinigkahaaaDoorPack7
import Derived.Test.YtenkeinigkahaaaDoorKinTail
namespace Go.Proofs.YtenkeinigkahaaaDoor
open Go.RowKit

theorem infoS16 : (Tryd.prog.info? 9).map (fun i => (i.zero, i.size, i.bytes)) = some (some (Value.string ⟨#[]⟩), 1, 16) := by kernel_rfl
theorem own_nilS (W : World) (base : Nat) (e : TypeId) : W.ownsRow base e 1 (.slice none 0 0) 0 ([] : List Value) := ⟨rfl, .inl ⟨rfl, rfl⟩⟩
theorem own_newS (W : World) : (W.alloc (.cells #[] 9)).ownsRow W.heap.size 9 1 (.slice (some ⟨W.heap.size, 0, none⟩) 0 0) 0 ([] : List Value) := World.ownsRow_made W #[] 0 (Nat.le_refl _) (by unfold maxLen; omega) (by simp)
theorem one_row (W : World) (T : TypeId) (x : Value) : ∀ j u, [x][j]? = some u → (W.alloc (.cells #[x] T)).cell? ⟨W.heap.size, 0 + j, none⟩ = some u := by
  intro j u hu
  match j, hu with
  | 0, hu =>
    simp at hu
    subst hu
    rw [cell_of_row _ _ _ _ _ _ (heap_alloc_new _ _)]
    rfl
  | j + 1, hu => simp at hu
def sizeS : Value → Nat
  | .string x => x.size
  | _ => 0

set_option maxRecDepth 100000 in
set_option maxHeartbeats 2000000 in
theorem implTakeFrames_any (s : ByteArray) (hs : s.size ≤ 1048576) (w : World) (hT : TabW w) :
    Calls Tryd.prog 8 #[.string s] w fun e w' => ∃ k v, e = .returned (.tuple #[v, .int .i64 ((tkS s k).2 : Nat)]) ∧ frB s (tkS s k).2 = false ∧ Below w.heap.size w w' ∧ w'.ownsRow w.heap.size 9 1 v (tkS s k).1.length ((tkS s k).1.map Value.string) := by
  have T0 : Hid (TabW w) := hT
  clear hT
  have FF : Hid (∀ W i b, TabW W → i ≤ s.size → frB s i = b → Calls Tryd.prog 21 #[.string (s.extract i s.size)] W fun e w' => ∃ d, e = .returned (.tuple #[.string d, .bool b]) ∧ (b = true → d = frD s i) ∧ Below W.heap.size W w') := fun W i b hW hi hb => by
    have := firstFrame_any (s.extract i s.size) (by rw [ext_size _ _ _ (Nat.le_refl _)]; omega) W hW b (by rw [frB_ext s i hi]; exact hb)
    refine this.mono ?_
    rintro e w' ⟨d, rfl, hd, hbl⟩
    refine ⟨d, rfl, fun h => ?_, hbl⟩
    subst h
    rw [hd rfl, frD_ext s i hb]
  have hs0 : s.extract 0 s.size = s := by
    apply ba_ext (by rw [ext_size _ _ _ (Nat.le_refl _)]; omega)
    intro i hi
    rw [ext_size _ _ _ (Nat.le_refl _)] at hi
    rw [byt_ext s 0 s.size i (by omega), Nat.zero_add]
  have FF0 : Hid (∀ b, frB s 0 = b → Calls Tryd.prog 21 #[.string s] w fun e w' => ∃ d, e = .returned (.tuple #[.string d, .bool b]) ∧ (b = true → d = frD s 0) ∧ Below w.heap.size w w') := fun b hb => by
    have := FF.out w 0 b T0.out (Nat.zero_le _) hb
    rw [hs0] at this
    exact this
  have HS0 : Hid (s.extract 0 s.size = s) := hs0
  clear hs0
  obtain ⟨b0, HB0⟩ : ∃ b, Hid (frB s 0 = b) := ⟨_, rfl⟩
  go_enter Tryd.func8, Tryd.ntmps8
  go_wp2_with fail
  refine (FF0.out b0 HB0.out).mono ?_
  rintro e w1 ⟨d0, rfl, hd0, hb⟩
  have B1 : Hid (Below w.heap.size w w1) := hb
  have D0 : Hid (b0 = true → d0 = frD s 0) := hd0
  clear hb hd0 FF0
  go_wp2_with fail
  go_loopw [4, 5, 6, 7] (fun tl tr td tb wr => ∃ (k : Nat) (d : ByteArray) (b : Bool), tr = .string (s.extract (tkS s k).2 s.size) ∧ td = .string d ∧ tb = .bool b ∧ frB s (tkS s k).2 = b ∧ (b = true → d = frD s (tkS s k).2) ∧ wr.ownsRow w.heap.size 9 1 tl (tkS s k).1.length ((tkS s k).1.map Value.string) ∧ Below w.heap.size w wr) (fun _ tr _ _ _ => sizeS tr)
  case atStart => exact ⟨0, d0, b0, by rw [show (tkS s 0).2 = 0 from rfl, HS0.out], rfl, rfl, HB0.out, D0.out, own_nilS _ _ _, B1.out⟩
  case round =>
    clear B1 D0 HB0 HS0
    obtain ⟨k, d, b, rfl, rfl, rfl, hb, hd, ho, hbl⟩ := hrel
    have hle := tkS_le s k
    have HB : Hid (frB s (tkS s k).2 = b) := hb
    have HDD : Hid (b = true → d = frD s (tkS s k).2) := hd
    have O1 : Hid (wr.ownsRow w.heap.size 9 1 u4 (tkS s k).1.length ((tkS s k).1.map Value.string)) := ho
    have B1 : Hid (Below w.heap.size w wr) := hbl
    clear hb hd ho hbl
    obtain ⟨i, HI⟩ : ∃ i, Hid ((tkS s k).2 = i) := ⟨_, rfl⟩
    obtain ⟨l, HLl⟩ : ∃ l, Hid ((tkS s k).1 = l) := ⟨_, rfl⟩
    obtain ⟨n, HNl⟩ : ∃ n, Hid (l.length = n) := ⟨_, rfl⟩
    rw [HI.out, HLl.out, HNl.out] at hle
    rw [HI.out] at HB HDD ⊢
    rw [HLl.out, HNl.out] at O1
    have hrs : (s.extract i s.size).size = s.size - i := ext_size _ _ _ (Nat.le_refl _)
    obtain ⟨r, HR⟩ : ∃ r, Hid (s.extract i s.size = r) := ⟨_, rfl⟩
    rw [HR.out] at hrs ⊢
    cases b
    · have hsub : (s.size : Int) - r.size = (i : Int) := by omega
      go_wp2_with fail
      go_ret2
      exact ⟨k, u4, by rw [HI.out]; simp; omega, by rw [HI.out]; exact HB.out, B1.out, by rw [HLl.out, HNl.out]; exact O1.out⟩
    · have hd := HDD.out rfl
      obtain ⟨h1, h2, h3, h4⟩ := frB_true HB.out
      have hds : d.size = wrdAt s i := by rw [hd]; exact frD_size h3
      have HK : Hid (tkS s (k + 1) = (l ++ [d], i + 8 + d.size)) := by
        show _ = _
        rw [tkS_yes (by rw [HI.out]; exact HB.out), HI.out, HLl.out, hd, ← hds, hd]
      have hid : i + 8 + d.size ≤ s.size := by omega
      have hlong : d.size ≤ 1000000 := by omega
      clear h1 h2 h3 h4 hds hd HDD
      go_wp2_with fail
      refine (strClone_any d wr (by omega)).mono ?_
      rintro e w2 ⟨rfl, hb2⟩
      have B2 : Hid (Below w.heap.size w w2) := B1.out.trans (hb2.mono B1.out.size)
      have O2 : Hid (w2.ownsRow w.heap.size 9 1 u4 n (l.map Value.string)) := own_blw O1.out hb2
      clear hb2 B1 O1
      have BA : Hid (Below w.heap.size w (w2.alloc (.cells #[.string d] 9))) := B2.out.alloc B2.out.size _
      have HRX : Hid (r.extract (8 + d.size) (s.size - i) = s.extract (i + 8 + d.size) s.size) := by
        show _ = _
        rw [← HR.out, ext_ext s i s.size _ _ (by omega), show i + (8 + d.size) = i + 8 + d.size by omega, show i + (s.size - i) = s.size by omega]
      have hr8 : (8 : Int) + d.size ≤ r.size := by omega
      go_wp2_with (
        at_builtin
        refine append_vals Tryd.underlying25 infoS16 rfl (by decide) _ rfl _ _ rfl w.heap.size _ n (l.map Value.string) rfl (O2.out.alloc _) w2.heap.size 0 1 1 [.string d] rfl rfl (one_row w2 _ _) (by simp [Value.oneCell']) (by omega) (by omega) (Nat.le_trans B2.out.size (by simp)) ?_
        intro v' w4 hown hg _ hnl
        have O4 : Hid (w4.ownsRow w.heap.size 9 1 v' (n + 1) ((l ++ [d]).map Value.string)) := by show World.ownsRow _ _ _ _ _ _ _; rw [List.map_append]; exact hown
        have B4 : Hid (Below w.heap.size w w4) := BA.out.grown hg BA.out.size (fun k e => (O2.out.lt k e).1)
        clear hown hg hnl)
      rw [HRX.out]
      obtain ⟨j, HJ⟩ : ∃ j, Hid (i + 8 + d.size = j) := ⟨_, rfl⟩
      rw [HJ.out] at hid HK HRX ⊢
      have hij : i < j := by rw [← HJ.out]; omega
      obtain ⟨b2, HB2⟩ : ∃ b, Hid (frB s j = b) := ⟨_, rfl⟩
      refine (FF.out w4 j b2 (T0.out.below B4.out) hid HB2.out).mono ?_
      rintro e w5 ⟨d5, rfl, hd5, hb5⟩
      have B5 : Hid (Below w.heap.size w w5) := B4.out.trans (hb5.mono B4.out.size)
      have O5 : Hid (w5.ownsRow w.heap.size 9 1 v' (n + 1) ((l ++ [d]).map Value.string)) := own_blw O4.out hb5
      have D5 : Hid (b2 = true → d5 = frD s j) := hd5
      clear hb5 hd5 B4 O4
      have hms : (s.extract j s.size).size = s.size - j := ext_size _ _ _ (Nat.le_refl _)
      obtain ⟨rj, HRJ⟩ : ∃ r, Hid (s.extract j s.size = r) := ⟨_, rfl⟩
      rw [HRJ.out] at hms ⊢
      go_wp2
      go_roundw
      case rel =>
        refine ⟨k + 1, d5, b2, ?_, rfl, rfl, ?_, ?_, ?_, B5.out⟩
        · rw [HK.out, HRJ.out]
        · rw [HK.out]; exact HB2.out
        · rw [HK.out]; exact D5.out
        · rw [HK.out]; simpa [HNl.out] using O5.out
      case measure => simp [sizeS]; omega

/-- The number of the first so many bytes. -/
def pwr (s : ByteArray) (i : Nat) : Nat → Nat
  | 0 => 0
  | j + 1 => 256 * pwr s i j + byt s (i + j)
theorem pwr_four (s : ByteArray) (i : Nat) : pwr s i 4 = wrdAt s i := by
  simp only [pwr, wrdAt, Nat.add_zero]
  omega
theorem pwr_lt (s : ByteArray) (i : Nat) : ∀ j, pwr s i j < 256 ^ j
  | 0 => by simp [pwr]
  | j + 1 => by
    have h1 := pwr_lt s i j
    have h2 := byt_lt s (i + j)
    simp only [pwr, Nat.pow_succ]
    omega
theorem pwr_small (s : ByteArray) (i j : Nat) (h : j ≤ 4) : pwr s i j < 4294967296 := by
  have h1 := pwr_lt s i j
  have h2 : 256 ^ j ≤ 256 ^ 4 := Nat.pow_le_pow_right (by omega) h
  omega

set_option maxRecDepth 100000 in
set_option maxHeartbeats 2000000 in
theorem specTakeFrames_any (s : ByteArray) (hs : s.size ≤ 1048576) (w : World) :
    Calls Tryd.prog 9 #[.string s] w fun e w' => ∃ k v, e = .returned (.tuple #[v, .int .i64 ((tkS s k).2 : Nat)]) ∧ frB s (tkS s k).2 = false ∧ Below w.heap.size w w' ∧ w'.ownsRow w.heap.size 9 1 v (tkS s k).1.length ((tkS s k).1.map Value.string) := by
  have OB : Hid (Below w.heap.size w (w.alloc (.cells #[] 9))) := (Below.refl _ _).alloc (Nat.le_refl _) _
  go_enter Tryd.func9, Tryd.ntmps9
  go_wp2_with fail
  go_loopw [4, 5] (fun tl ti wr => ∃ (k : Nat), ti = .int .i64 ((tkS s k).2 : Nat) ∧ wr.ownsRow w.heap.size 9 1 tl (tkS s k).1.length ((tkS s k).1.map Value.string) ∧ Below w.heap.size w wr) (fun _ ti _ => s.size - (intOf ti).toNat)
  case atStart => exact ⟨0, rfl, own_newS w, OB.out⟩
  case round =>
    clear OB
    obtain ⟨k, rfl, ho, hbl⟩ := hrel
    have hle := tkS_le s k
    have O1 : Hid (wr.ownsRow w.heap.size 9 1 u4 (tkS s k).1.length ((tkS s k).1.map Value.string)) := ho
    have B1 : Hid (Below w.heap.size w wr) := hbl
    clear ho hbl
    obtain ⟨i, HI⟩ : ∃ i, Hid ((tkS s k).2 = i) := ⟨_, rfl⟩
    obtain ⟨l, HLl⟩ : ∃ l, Hid ((tkS s k).1 = l) := ⟨_, rfl⟩
    obtain ⟨n, HNl⟩ : ∃ n, Hid (l.length = n) := ⟨_, rfl⟩
    rw [HI.out, HLl.out, HNl.out] at hle
    rw [HLl.out, HNl.out] at O1
    rw [HI.out]
    by_cases h8 : i + 8 ≤ s.size
    · have h8' : (i : Int) + 8 ≤ s.size := by omega
      go_wp2_with fail
      go_loopw [6, 7] (fun tn tj wr2 => ∃ (j : Nat), j ≤ 4 ∧ tj = .int .i64 j ∧ tn = .int .i64 (pwr s i j : Nat) ∧ wr2 = wr) (fun _ tj _ => 4 - (intOf tj).toNat)
      case atStart => exact ⟨0, by omega, rfl, rfl, rfl⟩
      case round =>
        obtain ⟨j, hj, rfl, rfl, rfl⟩ := hrel
        have hps := pwr_small s i j hj
        have hpn : pwr s i (j + 1) = 256 * pwr s i j + byt s (i + j) := rfl
        by_cases hj4 : j < 4
        · have hbl := byt_lt s (i + j)
          have hbi := byt_idx s (i + j) (by omega)
          have hij : (i : Int) + j < s.size := by omega
          generalize byt s (i + j) = b at *
          generalize pwr s i j = p at *
          go_wp2_with fail
          exact ⟨⟨j + 1, by omega, by first | rfl | go_num, by rw [hpn]; simp, trivial⟩, by simp [intOf]; omega⟩
        · have hj' : j = 4 := by omega
          subst hj'
          have HP : Hid (pwr s i 4 = wrdAt s i) := pwr_four s i
          clear hpn hj4 hj
          rw [HP.out] at hps ⊢
          clear HP
          obtain ⟨m, HM⟩ : ∃ m, Hid (wrdAt s i = m) := ⟨_, rfl⟩
          rw [HM.out] at hps ⊢
          have hkin := Kin.there wr
          by_cases hbig : 1000000 < m
          · have hbig' : (1000000 : Int) < m := by omega
            have HB : Hid (frB s i = false) := by
              show _ = _
              unfold frB
              rw [HM.out, decide_eq_false (show ¬ m ≤ 1000000 by omega)]
              simp
            go_wp2_with fail
            refine wp_region_kin (by kernel_rfl) (by kernel_rfl) ?_
            repeat (go_big_quiet_step (fail))
            refine wpQuiet_nil ?_
            rintro _ ⟨s1, rfl⟩
            clear hkin
            go_wp2_with fail
            go_ret2
            exact ⟨k, u4, by rw [HI.out]; rfl, by rw [HI.out]; exact HB.out, B1.out.trans (s1.below.mono B1.out.size), by rw [HLl.out, HNl.out]; exact own_blw O1.out s1.below⟩
          · have hdb : decide ((1000000 : Int) < (m : Int)) = false := decide_eq_false (by omega)
            by_cases hlong : s.size < i + 8 + m
            · have hlong' : (s.size : Int) < i + 8 + m := by omega
              have HB : Hid (frB s i = false) := by
                show _ = _
                unfold frB
                rw [HM.out, decide_eq_false (show ¬ i + 8 + m ≤ s.size by omega)]
                simp
              have hdl : decide ((s.size : Int) < (i : Int) + 8 + (m : Int)) = true := decide_eq_true (by omega)
              go_wp2_with fail
              refine wp_region_kin (by kernel_rfl) (by kernel_rfl) ?_
              repeat (go_big_quiet_step (fail))
              refine wpQuiet_nil ?_
              rintro _ ⟨s1, rfl⟩
              clear hkin
              go_wp2_with fail
              go_ret2
              exact ⟨k, u4, by rw [HI.out]; rfl, by rw [HI.out]; exact HB.out, B1.out.trans (s1.below.mono B1.out.size), by rw [HLl.out, HNl.out]; exact own_blw O1.out s1.below⟩
            · have hdl : decide ((s.size : Int) < (i : Int) + 8 + (m : Int)) = false := decide_eq_false (by omega)
              obtain ⟨d, HD⟩ : ∃ d, Hid (s.extract (i + 8) (i + 8 + m) = d) := ⟨_, rfl⟩
              have hds : d.size = m := by rw [← HD.out, ext_size _ _ _ (by omega)]; omega
              obtain ⟨t, HTt⟩ : ∃ t, Hid (s.extract (i + 4) (i + 8) = t) := ⟨_, rfl⟩
              obtain ⟨x, HX⟩ : ∃ x, Hid (sumV d = x) := ⟨_, rfl⟩
              have hxl : x < 4294967296 := by rw [← HX.out]; exact sumV_lt d
              have HIF : Hid (fourB x = t ↔ x = wrdAt s (i + 4)) := by
                show _ ↔ _
                rw [← HTt.out]
                exact four_iff hxl (by omega)
              have HDF : Hid (d = frD s i) := by
                show d = _
                rw [← HD.out]
                unfold frD
                rw [HM.out]
              have LS : Hid (∀ W, Calls Tryd.prog 24 #[.string d] W fun e w' => e = .returned (.int .u32 x) ∧ Below W.heap.size W w') := fun W => by
                have := l13Sum_any d (by omega) W
                rw [HX.out] at this
                exact this
              obtain ⟨f, HF⟩ : ∃ f, Hid (fourB x = f) := ⟨_, rfl⟩
              have LF : Hid (∀ W, Calls Tryd.prog 23 #[.int .u32 x] W fun e w' => e = .returned (.string f) ∧ Below W.heap.size W w') := fun W => by
                have := l13Four_any x hxl W
                rw [HF.out] at this
                exact this
              have hD := HD.out
              have hTt := HTt.out
              rw [HF.out] at HIF
              by_cases hft : f = t
              · have HB : Hid (frB s i = true) := by
                  show _ = _
                  rw [frB_iff, HM.out, ← HDF.out, HX.out]
                  exact ⟨h8, by omega, by omega, HIF.out.1 hft⟩
                have HK : Hid (tkS s (k + 1) = (l ++ [d], i + 8 + m)) := by
                  show _ = _
                  rw [tkS_yes (by rw [HI.out]; exact HB.out), HI.out, HLl.out, ← HDF.out, HM.out]
                have hft2 := str_eq hft
                clear hft HIF HDF HF HX
                go_wp2_with fail
                refine wp_region_kin (by kernel_rfl) (by kernel_rfl) ?_
                repeat (go_big_quiet_step ((first
                  | (go_at_call 24; with_reducible exact Kin.call (LS.out _))
                  | (go_at_call 23; with_reducible exact Kin.call (LF.out _)))))
                refine wpQuiet_nil ?_
                rintro _ ⟨s1, rfl⟩
                clear hkin LS LF hft2
                have B2 : Hid (Below w.heap.size w s1.w) := B1.out.trans (s1.below.mono B1.out.size)
                have O2 : Hid (s1.w.ownsRow w.heap.size 9 1 u4 n (l.map Value.string)) := own_blw O1.out s1.below
                generalize s1.w = w2 at *
                clear B1 O1
                have BA : Hid (Below w.heap.size w (w2.alloc (.cells #[.string d] 9))) := B2.out.alloc B2.out.size _
                go_wp2_with (
                  at_builtin
                  refine append_vals Tryd.underlying25 infoS16 rfl (by decide) _ rfl _ _ rfl w.heap.size _ n (l.map Value.string) rfl (O2.out.alloc _) w2.heap.size 0 1 1 [.string d] rfl rfl (one_row w2 _ _) (by simp [Value.oneCell']) (by omega) (by omega) (Nat.le_trans B2.out.size (by simp)) ?_
                  intro v' w4 hown hg _ hnl
                  have O4 : Hid (w4.ownsRow w.heap.size 9 1 v' (n + 1) ((l ++ [d]).map Value.string)) := by show World.ownsRow _ _ _ _ _ _ _; rw [List.map_append]; exact hown
                  have B4 : Hid (Below w.heap.size w w4) := BA.out.grown hg BA.out.size (fun k e => (O2.out.lt k e).1)
                  clear hown hg hnl)
                go_roundw
                case rel => exact ⟨k + 1, by rw [HK.out]; first | rfl | go_num, by rw [HK.out]; simpa [HNl.out] using O4.out, B4.out⟩
                case measure => simp [intOf]; omega
              · have HB : Hid (frB s i = false) := by
                  show _ = _
                  cases hq : frB s i
                  · rfl
                  · have := (frB_iff.1 hq).2.2.2
                    rw [← HDF.out, HX.out] at this
                    exact absurd (HIF.out.2 this) hft
                have hft2 := str_ne hft
                go_wp2_with fail
                refine wp_region_kin (by kernel_rfl) (by kernel_rfl) ?_
                repeat (go_big_quiet_step ((first
                  | (go_at_call 24; with_reducible exact Kin.call (LS.out _))
                  | (go_at_call 23; with_reducible exact Kin.call (LF.out _)))))
                refine wpQuiet_nil ?_
                rintro _ ⟨s1, rfl⟩
                clear hkin
                go_wp2_with fail
                go_ret2
                exact ⟨k, u4, by rw [HI.out]; rfl, by rw [HI.out]; exact HB.out, B1.out.trans (s1.below.mono B1.out.size), by rw [HLl.out, HNl.out]; exact own_blw O1.out s1.below⟩
    · have h8' : ¬ ((i : Int) + 8 ≤ s.size) := by omega
      have HB : Hid (frB s i = false) := by
        show _ = _
        unfold frB
        rw [decide_eq_false h8]
        rfl
      go_wp2_with fail
      go_ret2
      exact ⟨k, u4, by rw [HI.out]; rfl, by rw [HI.out]; exact HB.out, B1.out, by rw [HLl.out, HNl.out]; exact O1.out⟩

end Go.Proofs.YtenkeinigkahaaaDoor

namespace Go.Proofs.YtenkeinigkahaaaDoor
open Go.RowKit

theorem TxtsAt.grown {w w' : World} {a : Option Addr} {xs : List ByteArray} {row : Option Nat} {B : Nat} (h : TxtsAt w a xs) (hB : ∀ b off, a = some ⟨b, off, none⟩ → xs ≠ [] → b < B) (hg : w.grownBy w' row) (hr : ∀ k, row = some k → B ≤ k) : TxtsAt w' a xs := fun j hj => by
  obtain ⟨b, off, e, hc⟩ := h j hj
  have hb := hB b off e (by intro hx; rw [hx] at hj; simp at hj)
  refine ⟨b, off, e, hg.cell hc (fun e2 => ?_)⟩
  have := hr b e2.symm
  omega
theorem own_block_ge {w : World} {base n size : Nat} {e : TypeId} {v : Value} {xs : List Value} (h : w.ownsRow base e size v n xs) : ∀ k, v.ownBlock = some k → base ≤ k := fun k e => (h.lt k e).1

set_option maxRecDepth 100000 in
set_option maxHeartbeats 2000000 in
theorem lawTakeFrames (s : ByteArray) (hs : s.size ≤ 9223372036854775807) (w : World) (hT : TabW w) :
    Calls Tryd.prog 5 #[.string s] w fun e w' => e = .returned (.bool true) ∧ Below w.heap.size w w' := by
  by_cases hb : 1048576 < s.size
  · have hb' : (1048576 : Int) < s.size := by omega
    go_enter Tryd.func5, Tryd.ntmps5
    go_wp2
    go_ret
    exact ⟨rfl, Below.refl _ _⟩
  · have hb' : ¬ ((1048576 : Int) < s.size) := by omega
    have T0 : Hid (TabW w) := hT
    clear hT
    go_enter Tryd.func5, Tryd.ntmps5
    go_wp2_with fail
    refine (specTakeFrames_any s (by omega) w).mono ?_
    rintro e w1 ⟨k, v, rfl, hk, hb1, ho⟩
    have B1 : Hid (Below w.heap.size w w1) := hb1
    have HK : Hid (frB s (tkS s k).2 = false) := hk
    have hle := tkS_le s k
    obtain ⟨l, HLl⟩ : ∃ l, Hid ((tkS s k).1 = l) := ⟨_, rfl⟩
    obtain ⟨i, HI⟩ : ∃ i, Hid ((tkS s k).2 = i) := ⟨_, rfl⟩
    have ITF : Hid (∀ W, TabW W → Calls Tryd.prog 8 #[.string s] W fun e w' => ∃ v, e = .returned (.tuple #[v, .int .i64 i]) ∧ Below W.heap.size W w' ∧ w'.ownsRow W.heap.size 9 1 v l.length (l.map Value.string)) := fun W hW => by
      refine (implTakeFrames_any s (by omega) W hW).mono ?_
      rintro e w' ⟨k2, v2, rfl, hk2, hb2, ho2⟩
      rw [tkS_end hk2 HK.out, HLl.out] at ho2
      rw [tkS_end hk2 HK.out, HI.out]
      exact ⟨v2, rfl, hb2, ho2⟩
    rw [HLl.out] at ho
    rw [HI.out]
    obtain ⟨a0, c0, rfl, ht0⟩ := own_txts ho
    have HA0 : Hid (∀ b off, a0 = some ⟨b, off, none⟩ → l ≠ [] → b < w1.heap.size) := fun b off e hl => by
      have h0 : 0 < l.length := by cases l; exact absurd rfl hl; simp
      obtain ⟨b', off', e', hc⟩ := ht0 0 h0
      rw [e] at e'
      simp at e'
      obtain ⟨rfl, rfl⟩ := e'
      exact block_lt_of_cell hc
    have X1 : Hid (TxtsAt w1 a0 l) := ht0
    have hn : l.length ≤ 1048576 := by rw [HLl.out, HI.out] at hle; omega
    clear hk hb1 ho ht0 hle HLl HI HK
    obtain ⟨n, HN⟩ : ∃ n, Hid (l.length = n) := ⟨_, rfl⟩
    rw [HN.out] at hn ⊢
    go_wp2_with fail
    refine (ITF.out w1 (T0.out.below B1.out)).mono ?_
    rintro e w2 ⟨v, rfl, hb2, ho2⟩
    rw [HN.out] at ho2
    have B2 : Hid (Below w.heap.size w w2) := B1.out.trans (hb2.mono B1.out.size)
    have X2 : Hid (TxtsAt w2 a0 l) := X1.out.below hb2
    have O2 : Hid (w2.ownsRow w1.heap.size 9 1 v n (l.map Value.string)) := ho2
    have Y2 : Hid (∃ a c, v = .slice a n c ∧ TxtsAt w2 a l) := by
      have := own_txts (xs := l) (by rw [HN.out]; exact ho2)
      rw [HN.out] at this
      exact this
    clear hb2 ho2 X1
    have EQS : Hid (∀ W v, (∃ a c, v = .slice a n c ∧ TxtsAt W a l) → TxtsAt W a0 l → Calls Tryd.prog 14 #[v, .slice a0 n c0] W fun e w' => e = .returned (.bool true) ∧ Below W.heap.size W w') := by
      rintro W v ⟨a, c, rfl, h1⟩ h2
      exact eqTexts_same a a0 c c0 n l W h1 h2 HN.out hn
    go_wp2_with fail
    refine (EQS.out w2 v Y2.out X2.out).mono ?_
    rintro e w3 ⟨rfl, hb3⟩
    have B3 : Hid (Below w.heap.size w w3) := B2.out.trans (hb3.mono B2.out.size)
    have X3 : Hid (TxtsAt w3 a0 l) := X2.out.below hb3
    have O3 : Hid (w3.ownsRow w1.heap.size 9 1 v n (l.map Value.string)) := own_blw O2.out hb3
    clear hb3 Y2 X2 O2
    go_wp2_with fail
    refine (markTexts_any v n 1 w1.heap.size (l.map Value.string) w3 O3.out (by rw [List.length_map, HN.out]) hn (by omega) (by omega)).mono ?_
    rintro e w4 ⟨rfl, hg4, ho4⟩
    have B4 : Hid (Below w.heap.size w w4) := B3.out.grown hg4 B3.out.size (fun k e => Nat.le_trans B1.out.size (own_block_ge O3.out k e))
    have X4 : Hid (TxtsAt w4 a0 l) := X3.out.grown HA0.out hg4 (fun k e => own_block_ge O3.out k e)
    have O4 : Hid (w4.ownsRow w1.heap.size 9 1 v n (mkL 1 n)) := ho4
    clear hg4 ho4 X3 O3
    obtain ⟨m, HM⟩ : ∃ m, Hid (1 + n = m) := ⟨_, rfl⟩
    have HLD : Hid (∀ W, W.ownsRow w1.heap.size 9 1 v n (mkL 1 n) → Calls Tryd.prog 16 #[v, .int .i64 1] W fun e w' => e = .returned (.int .i64 (m : Int)) ∧ Below W.heap.size W w') := fun W h => by
      have := heldTexts_any v n 1 w1.heap.size W h hn (by omega) (by omega)
      rw [HM.out] at this
      exact this
    rw [HM.out]
    have hm0 : ¬ ((m : Int) < 0) := by omega
    have hmm : ((m : Int) != (m : Int)) = false := by simp
    go_wp2_with fail
    refine (HLD.out w4 O4.out).mono ?_
    rintro e w5 ⟨rfl, hb5⟩
    have B5 : Hid (Below w.heap.size w w5) := B4.out.trans (hb5.mono B4.out.size)
    have X5 : Hid (TxtsAt w5 a0 l) := X4.out.below hb5
    have O5 : Hid (w5.ownsRow w1.heap.size 9 1 v n (mkL 1 n)) := own_blw O4.out hb5
    clear hb5 X4 O4
    go_wp2_with fail
    refine (ITF.out w5 (T0.out.below B5.out)).mono ?_
    rintro e w6 ⟨v6, rfl, hb6, ho6⟩
    rw [HN.out] at ho6
    have B6 : Hid (Below w.heap.size w w6) := B5.out.trans (hb6.mono B5.out.size)
    have X6 : Hid (TxtsAt w6 a0 l) := X5.out.below hb6
    have O6 : Hid (w6.ownsRow w1.heap.size 9 1 v n (mkL 1 n)) := own_blw O5.out hb6
    have Y6 : Hid (∃ a c, v6 = .slice a n c ∧ TxtsAt w6 a l) := by
      have := own_txts (xs := l) (by rw [HN.out]; exact ho6)
      rw [HN.out] at this
      exact this
    clear hb6 ho6 X5 O5
    go_wp2_with fail
    refine (EQS.out w6 v6 Y6.out X6.out).mono ?_
    rintro e w7 ⟨rfl, hb7⟩
    have B7 : Hid (Below w.heap.size w w7) := B6.out.trans (hb7.mono B6.out.size)
    have O7 : Hid (w7.ownsRow w1.heap.size 9 1 v n (mkL 1 n)) := own_blw O6.out hb7
    clear hb7 X6 Y6 O6
    go_wp2_with fail
    refine (HLD.out w7 O7.out).mono ?_
    rintro e w8 ⟨rfl, hb8⟩
    have B8 : Hid (Below w.heap.size w w8) := B7.out.trans (hb8.mono B7.out.size)
    clear hb8
    go_wp2
    go_ret
    exact ⟨rfl, B8.out⟩

end Go.Proofs.YtenkeinigkahaaaDoor
