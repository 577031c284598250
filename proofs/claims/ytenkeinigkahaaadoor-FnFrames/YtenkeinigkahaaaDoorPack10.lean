import Derived.Test.YtenkeinigkahaaaDoorPack1
import Derived.Test.YtenkeinigkahaaaDoorPack2
import Derived.Test.YtenkeinigkahaaaDoorPack4
import Derived.Test.YtenkeinigkahaaaDoorPack8
import Derived.Test.YtenkeinigkahaaaDoorKinTail
namespace Go.Proofs.YtenkeinigkahaaaDoor
open Go.RowKit

theorem infoS16 : (Tryd.prog.info? 9).map (fun i => (i.zero, i.size, i.bytes)) = some (some (Value.string ⟨#[]⟩), 1, 16) := by kernel_rfl
theorem own_nilS (W : World) (base : Nat) (e : TypeId) : W.ownsRow base e 1 (.slice none 0 0) 0 ([] : List Value) := ⟨rfl, .inl ⟨rfl, rfl⟩⟩
theorem own_newS (W : World) : (W.alloc (.cells #[] 9)).ownsRow W.heap.size 9 1 (.slice (some ⟨W.heap.size, 0, none⟩) 0 0) 0 ([] : List Value) := World.ownsRow_made W #[] 0 (Nat.le_refl _) (by unfold maxLen; omega) (by simp)
theorem one_row (W : World) (T : TypeId) (x : Value) : ∀ j u, [x][j]? = some u → (W.alloc (.cells #[x] T)).cell? ⟨W.heap.size, 0 + j, none⟩ = some u := by
  intro j u hu
  match j, hu with
  | 0, hu =>
    simp at hu
    subst hu
    rw [cell_of_row _ _ _ _ _ _ (heap_alloc_new _ _)]
    rfl
  | j + 1, hu => simp at hu
def sizeS : Value → Nat
  | .string x => x.size
  | _ => 0

set_option maxRecDepth 100000 in
set_option maxHeartbeats 2000000 in
theorem implTakeFrames_any (s : ByteArray) (hs : s.size ≤ 1048576) (w : World) (hT : TabW w) :
    Calls Tryd.prog 8 #[.string s] w fun e w' => ∃ k v, e = .returned (.tuple #[v, .int .i64 ((tkS s k).2 : Nat)]) ∧ frB s (tkS s k).2 = false ∧ Below w.heap.size w w' ∧ w'.ownsRow w.heap.size 9 1 v (tkS s k).1.length ((tkS s k).1.map Value.string) := by
  have T0 : Hid (TabW w) := hT
  clear hT
  have FF : Hid (∀ W i b, TabW W → i ≤ s.size → frB s i = b → Calls Tryd.prog 21 #[.string (s.extract i s.size)] W fun e w' => ∃ d, e = .returned (.tuple #[.string d, .bool b]) ∧ (b = true → d = frD s i) ∧ Below W.heap.size W w') := fun W i b hW hi hb => by
    have := firstFrame_any (s.extract i s.size) (by rw [ext_size _ _ _ (Nat.le_refl _)]; omega) W hW b (by rw [frB_ext s i hi]; exact hb)
    refine this.mono ?_
    rintro e w' ⟨d, rfl, hd, hbl⟩
    refine ⟨d, rfl, fun h => ?_, hbl⟩
    subst h
    rw [hd rfl, frD_ext s i hb]
  have hs0 : s.extract 0 s.size = s := by
    apply ba_ext (by rw [ext_size _ _ _ (Nat.le_refl _)]; omega)
    intro i hi
    rw [ext_size _ _ _ (Nat.le_refl _)] at hi
    rw [byt_ext s 0 s.size i (by omega), Nat.zero_add]
  have FF0 : Hid (∀ b, frB s 0 = b → Calls Tryd.prog 21 #[.string s] w fun e w' => ∃ d, e = .returned (.tuple #[.string d, .bool b]) ∧ (b = true → d = frD s 0) ∧ Below w.heap.size w w') := fun b hb => by
    have := FF.out w 0 b T0.out (Nat.zero_le _) hb
    rw [hs0] at this
    exact this
  have HS0 : Hid (s.extract 0 s.size = s) := hs0
  clear hs0
  obtain ⟨b0, HB0⟩ : ∃ b, Hid (frB s 0 = b) := ⟨_, rfl⟩
  go_enter Tryd.func8, Tryd.ntmps8
  go_wp2_with fail
  refine (FF0.out b0 HB0.out).mono ?_
  rintro e w1 ⟨d0, rfl, hd0, hb⟩
  have B1 : Hid (Below w.heap.size w w1) := hb
  have D0 : Hid (b0 = true → d0 = frD s 0) := hd0
  clear hb hd0 FF0
  go_wp2_with fail
  go_loopw [4, 5, 6, 7] (fun tl tr td tb wr => ∃ (k : Nat) (d : ByteArray) (b : Bool), tr = .string (s.extract (tkS s k).2 s.size) ∧ td = .string d ∧ tb = .bool b ∧ frB s (tkS s k).2 = b ∧ (b = true → d = frD s (tkS s k).2) ∧ wr.ownsRow w.heap.size 9 1 tl (tkS s k).1.length ((tkS s k).1.map Value.string) ∧ Below w.heap.size w wr) (fun _ tr _ _ _ => sizeS tr)
  case atStart => exact ⟨0, d0, b0, by rw [show (tkS s 0).2 = 0 from rfl, HS0.out], rfl, rfl, HB0.out, D0.out, own_nilS _ _ _, B1.out⟩
  case round =>
    clear B1 D0 HB0 HS0
    obtain ⟨k, d, b, rfl, rfl, rfl, hb, hd, ho, hbl⟩ := hrel
    have hle := tkS_le s k
    have HB : Hid (frB s (tkS s k).2 = b) := hb
    have HDD : Hid (b = true → d = frD s (tkS s k).2) := hd
    have O1 : Hid (wr.ownsRow w.heap.size 9 1 u4 (tkS s k).1.length ((tkS s k).1.map Value.string)) := ho
    have B1 : Hid (Below w.heap.size w wr) := hbl
    clear hb hd ho hbl
    obtain ⟨i, HI⟩ : ∃ i, Hid ((tkS s k).2 = i) := ⟨_, rfl⟩
    obtain ⟨l, HLl⟩ : ∃ l, Hid ((tkS s k).1 = l) := ⟨_, rfl⟩
    obtain ⟨n, HNl⟩ : ∃ n, Hid (l.length = n) := ⟨_, rfl⟩
    rw [HI.out, HLl.out, HNl.out] at hle
    rw [HI.out] at HB HDD ⊢
    rw [HLl.out, HNl.out] at O1
    have hrs : (s.extract i s.size).size = s.size - i := ext_size _ _ _ (Nat.le_refl _)
    obtain ⟨r, HR⟩ : ∃ r, Hid (s.extract i s.size = r) := ⟨_, rfl⟩
    rw [HR.out] at hrs ⊢
    cases b
    · have hsub : (s.size : Int) - r.size = (i : Int) := by omega
      go_wp2_with fail
      go_ret2
      exact ⟨k, u4, by rw [HI.out]; simp; omega, by rw [HI.out]; exact HB.out, B1.out, by rw [HLl.out, HNl.out]; exact O1.out⟩
    · have hd := HDD.out rfl
      obtain ⟨h1, h2, h3, h4⟩ := frB_true HB.out
      have hds : d.size = wrdAt s i := by rw [hd]; exact frD_size h3
      have HK : Hid (tkS s (k + 1) = (l ++ [d], i + 8 + d.size)) := by
        show _ = _
        rw [tkS_yes (by rw [HI.out]; exact HB.out), HI.out, HLl.out, hd, ← hds, hd]
      have hid : i + 8 + d.size ≤ s.size := by omega
      have hlong : d.size ≤ 1000000 := by omega
      clear h1 h2 h3 h4 hds hd HDD
      go_wp2_with fail
      refine (strClone_any d wr (by omega)).mono ?_
      rintro e w2 ⟨rfl, hb2⟩
      have B2 : Hid (Below w.heap.size w w2) := B1.out.trans (hb2.mono B1.out.size)
      have O2 : Hid (w2.ownsRow w.heap.size 9 1 u4 n (l.map Value.string)) := own_blw O1.out hb2
      clear hb2 B1 O1
      have BA : Hid (Below w.heap.size w (w2.alloc (.cells #[.string d] 9))) := B2.out.alloc B2.out.size _
      have HRX : Hid (r.extract (8 + d.size) (s.size - i) = s.extract (i + 8 + d.size) s.size) := by
        show _ = _
        rw [← HR.out, ext_ext s i s.size _ _ (by omega), show i + (8 + d.size) = i + 8 + d.size by omega, show i + (s.size - i) = s.size by omega]
      have hr8 : (8 : Int) + d.size ≤ r.size := by omega
      go_wp2_with (
        at_builtin
        refine append_vals Tryd.underlying25 infoS16 rfl (by decide) _ rfl _ _ rfl w.heap.size _ n (l.map Value.string) rfl (O2.out.alloc _) w2.heap.size 0 1 1 [.string d] rfl rfl (one_row w2 _ _) (by simp [Value.oneCell']) (by omega) (by omega) (Nat.le_trans B2.out.size (by simp)) ?_
        intro v' w4 hown hg _ hnl
        have O4 : Hid (w4.ownsRow w.heap.size 9 1 v' (n + 1) ((l ++ [d]).map Value.string)) := by show World.ownsRow _ _ _ _ _ _ _; rw [List.map_append]; exact hown
        have B4 : Hid (Below w.heap.size w w4) := BA.out.grown hg BA.out.size (fun k e => (O2.out.lt k e).1)
        clear hown hg hnl)
      rw [HRX.out]
      obtain ⟨j, HJ⟩ : ∃ j, Hid (i + 8 + d.size = j) := ⟨_, rfl⟩
      rw [HJ.out] at hid HK HRX ⊢
      have hij : i < j := by rw [← HJ.out]; omega
      obtain ⟨b2, HB2⟩ : ∃ b, Hid (frB s j = b) := ⟨_, rfl⟩
      refine (FF.out w4 j b2 (T0.out.below B4.out) hid HB2.out).mono ?_
      rintro e w5 ⟨d5, rfl, hd5, hb5⟩
      have B5 : Hid (Below w.heap.size w w5) := B4.out.trans (hb5.mono B4.out.size)
      have O5 : Hid (w5.ownsRow w.heap.size 9 1 v' (n + 1) ((l ++ [d]).map Value.string)) := own_blw O4.out hb5
      have D5 : Hid (b2 = true → d5 = frD s j) := hd5
      clear hb5 hd5 B4 O4
      have hms : (s.extract j s.size).size = s.size - j := ext_size _ _ _ (Nat.le_refl _)
      obtain ⟨rj, HRJ⟩ : ∃ r, Hid (s.extract j s.size = r) := ⟨_, rfl⟩
      rw [HRJ.out] at hms ⊢
      go_wp2
      go_roundw
      case rel =>
        refine ⟨k + 1, d5, b2, ?_, rfl, rfl, ?_, ?_, ?_, B5.out⟩
        · rw [HK.out, HRJ.out]
        · rw [HK.out]; exact HB2.out
        · rw [HK.out]; exact D5.out
        · rw [HK.out]; simpa [HNl.out] using O5.out
      case measure => simp [sizeS]; omega

/-- The number of the first so many bytes. -/
def pwr (s : ByteArray) (i : Nat) : Nat → Nat
  | 0 => 0
  | j + 1 => 256 * pwr s i j + byt s (i + j)
theorem pwr_four (s : ByteArray) (i : Nat) : pwr s i 4 = wrdAt s i := by
  simp only [pwr, wrdAt, Nat.add_zero]
  omega
theorem pwr_lt (s : ByteArray) (i : Nat) : ∀ j, pwr s i j < 256 ^ j
  | 0 => by simp [pwr]
  | j + 1 => by
    have h1 := pwr_lt s i j
    have h2 := byt_lt s (i + j)
    simp only [pwr, Nat.pow_succ]
    omega
theorem pwr_small (s : ByteArray) (i j : Nat) (h : j ≤ 4) : pwr s i j < 4294967296 := by
  have h1 := pwr_lt s i j
  have h2 : 256 ^ j ≤ 256 ^ 4 := Nat.pow_le_pow_right (by omega) h
  omega

set_option maxRecDepth 100000 in
set_option maxHeartbeats 2000000 in
theorem specTakeFrames_any (s : ByteArray) (hs : s.size ≤ 1048576) (w : World) :
    Calls Tryd.prog 9 #[.string s] w fun e w' => ∃ k v, e = .returned (.tuple #[v, .int .i64 ((tkS s k).2 : Nat)]) ∧ frB s (tkS s k).2 = false ∧ Below w.heap.size w w' ∧ w'.ownsRow w.heap.size 9 1 v (tkS s k).1.length ((tkS s k).1.map Value.string) := by
  have OB : Hid (Below w.heap.size w (w.alloc (.cells #[] 9))) := (Below.refl _ _).alloc (Nat.le_refl _) _
  go_enter Tryd.func9, Tryd.ntmps9
  go_wp2_with fail
  go_loopw [4, 5] (fun tl ti wr => ∃ (k : Nat), ti = .int .i64 ((tkS s k).2 : Nat) ∧ wr.ownsRow w.heap.size 9 1 tl (tkS s k).1.length ((tkS s k).1.map Value.string) ∧ Below w.heap.size w wr) (fun _ ti _ => s.size - (intOf ti).toNat)
  case atStart => exact ⟨0, rfl, own_newS w, OB.out⟩
  case round =>
    clear OB
    obtain ⟨k, rfl, ho, hbl⟩ := hrel
    have hle := tkS_le s k
    have O1 : Hid (wr.ownsRow w.heap.size 9 1 u4 (tkS s k).1.length ((tkS s k).1.map Value.string)) := ho
    have B1 : Hid (Below w.heap.size w wr) := hbl
    clear ho hbl
    obtain ⟨i, HI⟩ : ∃ i, Hid ((tkS s k).2 = i) := ⟨_, rfl⟩
    obtain ⟨l, HLl⟩ : ∃ l, Hid ((tkS s k).1 = l) := ⟨_, rfl⟩
    obtain ⟨n, HNl⟩ : ∃ n, Hid (l.length = n) := ⟨_, rfl⟩
    rw [HI.out, HLl.out, HNl.out] at hle
    rw [HLl.out, HNl.out] at O1
    rw [HI.out]
    by_cases h8 : i + 8 ≤ s.size
    · have h8' : (i : Int) + 8 ≤ s.size := by omega
      go_wp2_with fail
      go_loopw [6, 7] (fun tn tj wr2 => ∃ (j : Nat), j ≤ 4 ∧ tj = .int .i64 j ∧ tn = .int .i64 (pwr s i j : Nat) ∧ wr2 = wr) (fun _ tj _ => 4 - (intOf tj).toNat)
      case atStart => exact ⟨0, by omega, rfl, rfl, rfl⟩
      case round =>
        obtain ⟨j, hj, rfl, rfl, rfl⟩ := hrel
        have hps := pwr_small s i j hj
        have hpn : pwr s i (j + 1) = 256 * pwr s i j + byt s (i + j) := rfl
        by_cases hj4 : j < 4
        · have hbl := byt_lt s (i + j)
          have hbi := byt_idx s (i + j) (by omega)
          have hij : (i : Int) + j < s.size := by omega
          generalize byt s (i + j) = b at *
          generalize pwr s i j = p at *
          go_wp2_with fail
          exact ⟨⟨j + 1, by omega, by first | rfl | go_num, by rw [hpn]; simp, trivial⟩, by simp [intOf]; omega⟩
        · have hj' : j = 4 := by omega
          subst hj'
          have HP : Hid (pwr s i 4 = wrdAt s i) := pwr_four s i
          clear hpn hj4 hj
          rw [HP.out] at hps ⊢
          clear HP
          obtain ⟨m, HM⟩ : ∃ m, Hid (wrdAt s i = m) := ⟨_, rfl⟩
          rw [HM.out] at hps ⊢
          have hkin := Kin.there wr
          by_cases hbig : 1000000 < m
          · have hbig' : (1000000 : Int) < m := by omega
            have HB : Hid (frB s i = false) := by
              show _ = _
              unfold frB
              rw [HM.out, decide_eq_false (show ¬ m ≤ 1000000 by omega)]
              simp
            go_wp2_with fail
            refine wp_region_kin (by kernel_rfl) (by kernel_rfl) ?_
            repeat (go_big_quiet_step (fail))
            refine wpQuiet_nil ?_
            rintro _ ⟨s1, rfl⟩
            clear hkin
            go_wp2_with fail
            go_ret2
            exact ⟨k, u4, by rw [HI.out]; rfl, by rw [HI.out]; exact HB.out, B1.out.trans (s1.below.mono B1.out.size), by rw [HLl.out, HNl.out]; exact own_blw O1.out s1.below⟩
          · have hdb : decide ((1000000 : Int) < (m : Int)) = false := decide_eq_false (by omega)
            by_cases hlong : s.size < i + 8 + m
            · have hlong' : (s.size : Int) < i + 8 + m := by omega
              have HB : Hid (frB s i = false) := by
                show _ = _
                unfold frB
                rw [HM.out, decide_eq_false (show ¬ i + 8 + m ≤ s.size by omega)]
                simp
              have hdl : decide ((s.size : Int) < (i : Int) + 8 + (m : Int)) = true := decide_eq_true (by omega)
              go_wp2_with fail
              refine wp_region_kin (by kernel_rfl) (by kernel_rfl) ?_
              repeat (go_big_quiet_step (fail))
              refine wpQuiet_nil ?_
              rintro _ ⟨s1, rfl⟩
              clear hkin
              go_wp2_with fail
              go_ret2
              exact ⟨k, u4, by rw [HI.out]; rfl, by rw [HI.out]; exact HB.out, B1.out.trans (s1.below.mono B1.out.size), by rw [HLl.out, HNl.out]; exact own_blw O1.out s1.below⟩
            · have hdl : decide ((s.size : Int) < (i : Int) + 8 + (m : Int)) = false := decide_eq_false (by omega)
              obtain ⟨d, HD⟩ : ∃ d, Hid (s.extract (i + 8) (i + 8 + m) = d) := ⟨_, rfl⟩
              have hds : d.size = m := by rw [← HD.out, ext_size _ _ _ (by omega)]; omega
              obtain ⟨t, HTt⟩ : ∃ t, Hid (s.extract (i + 4) (i + 8) = t) := ⟨_, rfl⟩
              obtain ⟨x, HX⟩ : ∃ x, Hid (sumV d = x) := ⟨_, rfl⟩
              have hxl : x < 4294967296 := by rw [← HX.out]; exact sumV_lt d
              have HIF : Hid (fourB x = t ↔ x = wrdAt s (i + 4)) := by
                show _ ↔ _
                rw [← HTt.out]
                exact four_iff hxl (by omega)
              have HDF : Hid (d = frD s i) := by
                show d = _
                rw [← HD.out]
                unfold frD
                rw [HM.out]
              have LS : Hid (∀ W, Calls Tryd.prog 24 #[.string d] W fun e w' => e = .returned (.int .u32 x) ∧ Below W.heap.size W w') := fun W => by
                have := l13Sum_any d (by omega) W
                rw [HX.out] at this
                exact this
              obtain ⟨f, HF⟩ : ∃ f, Hid (fourB x = f) := ⟨_, rfl⟩
              have LF : Hid (∀ W, Calls Tryd.prog 23 #[.int .u32 x] W fun e w' => e = .returned (.string f) ∧ Below W.heap.size W w') := fun W => by
                have := l13Four_any x hxl W
                rw [HF.out] at this
                exact this
              have hD := HD.out
              have hTt := HTt.out
              rw [HF.out] at HIF
              by_cases hft : f = t
              · have HB : Hid (frB s i = true) := by
                  show _ = _
                  rw [frB_iff, HM.out, ← HDF.out, HX.out]
                  exact ⟨h8, by omega, by omega, HIF.out.1 hft⟩
                have HK : Hid (tkS s (k + 1) = (l ++ [d], i + 8 + m)) := by
                  show _ = _
                  rw [tkS_yes (by rw [HI.out]; exact HB.out), HI.out, HLl.out, ← HDF.out, HM.out]
                have hft2 := str_eq hft
                clear hft HIF HDF HF HX
                go_wp2_with fail
                refine wp_region_kin (by kernel_rfl) (by kernel_rfl) ?_
                repeat (go_big_quiet_step ((first
                  | (go_at_call 24; with_reducible exact Kin.call (LS.out _))
                  | (go_at_call 23; with_reducible exact Kin.call (LF.out _)))))
                refine wpQuiet_nil ?_
                rintro _ ⟨s1, rfl⟩
                clear hkin LS LF hft2
                have B2 : Hid (Below w.heap.size w s1.w) := B1.out.trans (s1.below.mono B1.out.size)
                have O2 : Hid (s1.w.ownsRow w.heap.size 9 1 u4 n (l.map Value.string)) := own_blw O1.out s1.below
                generalize s1.w = w2 at *
                clear B1 O1
                have BA : Hid (Below w.heap.size w (w2.alloc (.cells #[.string d] 9))) := B2.out.alloc B2.out.size _
                go_wp2_with (
                  at_builtin
                  refine append_vals Tryd.underlying25 infoS16 rfl (by decide) _ rfl _ _ rfl w.heap.size _ n (l.map Value.string) rfl (O2.out.alloc _) w2.heap.size 0 1 1 [.string d] rfl rfl (one_row w2 _ _) (by simp [Value.oneCell']) (by omega) (by omega) (Nat.le_trans B2.out.size (by simp)) ?_
                  intro v' w4 hown hg _ hnl
                  have O4 : Hid (w4.ownsRow w.heap.size 9 1 v' (n + 1) ((l ++ [d]).map Value.string)) := by show World.ownsRow _ _ _ _ _ _ _; rw [List.map_append]; exact hown
                  have B4 : Hid (Below w.heap.size w w4) := BA.out.grown hg BA.out.size (fun k e => (O2.out.lt k e).1)
                  clear hown hg hnl)
                go_roundw
                case rel => exact ⟨k + 1, by rw [HK.out]; first | rfl | go_num, by rw [HK.out]; simpa [HNl.out] using O4.out, B4.out⟩
                case measure => simp [intOf]; omega
              · have HB : Hid (frB s i = false) := by
                  show _ = _
                  cases hq : frB s i
                  · rfl
                  · have := (frB_iff.1 hq).2.2.2
                    rw [← HDF.out, HX.out] at this
                    exact absurd (HIF.out.2 this) hft
                have hft2 := str_ne hft
                go_wp2_with fail
                refine wp_region_kin (by kernel_rfl) (by kernel_rfl) ?_
                repeat (go_big_quiet_step ((first
                  | (go_at_call 24; with_reducible exact Kin.call (LS.out _))
                  | (go_at_call 23; with_reducible exact Kin.call (LF.out _)))))
                refine wpQuiet_nil ?_
                rintro _ ⟨s1, rfl⟩
                clear hkin
                go_wp2_with fail
                go_ret2
                exact ⟨k, u4, by rw [HI.out]; rfl, by rw [HI.out]; exact HB.out, B1.out.trans (s1.below.mono B1.out.size), by rw [HLl.out, HNl.out]; exact own_blw O1.out s1.below⟩
    · have h8' : ¬ ((i : Int) + 8 ≤ s.size) := by omega
      have HB : Hid (frB s i = false) := by
        show _ = _
        unfold frB
        rw [decide_eq_false h8]
        rfl
      go_wp2_with fail
      go_ret2
      exact ⟨k, u4, by rw [HI.out]; rfl, by rw [HI.out]; exact HB.out, B1.out, by rw [HLl.out, HNl.out]; exact O1.out⟩

end Go.Proofs.YtenkeinigkahaaaDoor

namespace Go.Proofs.YtenkeinigkahaaaDoor
open Go.RowKit

set_option maxHeartbeats 400000 in
theorem lawFnFrames_big (a : Option Addr) (c len : Nat) (w : World) (hl : len ≤ 9223372036854775807) (h : 1048576 < len) :
    Calls Tryd.prog 3 #[.slice a len c] w fun e w' => e = .returned (.bool true) ∧ Below w.heap.size w w' := by
  have hd : decide (1048576 < len) = true := decide_eq_true h
  go_enter Tryd.func3, Tryd.ntmps3
  go_wp2_with (go_at_call 6; refine (big_any a c len w hl).mono ?_; rintro e w1 ⟨rfl, hw1⟩; subst w1; rw [hd])
  go_ret
  exact ⟨rfl, Below.refl _ _⟩

/-- A slice of texts, its room. -/
structure TX (w : World) (v : Value) (l : List ByteArray) : Prop where
  s : (v = .slice none 0 0 ∧ l = []) ∨ ∃ g c, v = .slice (some ⟨g, 0, none⟩) l.length c ∧ l.length ≤ c
  t : ∀ a n c, v = .slice a n c → TxtsAt w a l
theorem TX.below {w w' : World} {v : Value} {l : List ByteArray} (h : TX w v l) (hb : Below w.heap.size w w') : TX w' v l := ⟨h.s, fun a n c e => (h.t a n c e).below hb⟩
theorem TX.of_own {w : World} {base : Nat} {v : Value} {l : List ByteArray} (h : w.ownsRow base 9 1 v l.length (l.map Value.string)) : TX w v l := by
  refine ⟨?_, fun a n c e => ?_⟩
  · rcases own_kinds h with ⟨e, h0⟩ | ⟨g, c, rfl, _, _⟩
    · exact .inl ⟨e, List.eq_nil_of_length_eq_zero h0⟩
    · exact .inr ⟨g, c, rfl, own_capg h⟩
  · obtain ⟨a', c', e', ht⟩ := own_txts h
    rw [e] at e'
    injection e' with e1
    rw [e1]
    exact ht

set_option maxRecDepth 10000 in
set_option maxHeartbeats 4000000 in
theorem lawFnFrames (a : Option Addr) (ca : Nat) (bs : List Int) (w : World) (hA : CodeAt w a bs) (hl : bs.length ≤ 1048576) (hT : TabW w) :
    Calls Tryd.prog 3 #[.slice a bs.length ca] w fun e w' => e = .returned (.bool true) ∧ Below w.heap.size w w' := by
  have HA : Hid (CodeAt w a bs) := hA
  have T0 : Hid (TabW w) := hT
  clear hA hT
  have hd : decide (1048576 < bs.length) = false := decide_eq_false (by omega)
  go_enter Tryd.func3, Tryd.ntmps3
  go_wp2_with fail
  refine (big_any a ca bs.length w (by omega)).mono ?_
  rintro e w1 ⟨rfl, hw1⟩
  subst w1
  rw [hd]
  clear hd
  have DFO : Hid (∀ W, Below w.heap.size w W → Calls Tryd.prog 12 #[.slice a bs.length ca] W fun e w' => ∃ s : ByteArray, e = .returned (.string s) ∧ s.size ≤ 8 ∧ Below W.heap.size W w') := fun W hb => by
    refine drawFrameOf_any a ca bs W (fun j hj => ?_) hl
    obtain ⟨b, off, e, hc, hv⟩ := HA.out j hj
    exact ⟨b, off, e, (hb.cell (p := ⟨b, off + j, none⟩) (block_lt_of_cell hc)).trans hc, hv⟩
  go_wp2_with fail
  refine (drawTakeFrames_any a ca bs w HA.out hl).mono ?_
  rintro e w1 ⟨s, rfl, hs, hb1⟩
  have B1 : Hid (Below w.heap.size w w1) := hb1
  clear hb1
  obtain ⟨N, HLb⟩ : ∃ v, Hid (bs.length = v) := ⟨_, rfl⟩
  rw [HLb.out] at hl DFO ⊢
  go_wp2_with fail
  refine (implTakeFrames_any s (by omega) w1 (T0.out.below B1.out)).mono ?_
  rintro e w2 ⟨k, v, rfl, hk, hb2, ho2⟩
  have hle := tkS_le s k
  have HCT : Hid (catF (tkS s k).1 = s.extract 0 (tkS s k).2) := catF_tk s k
  have HSM : Hid (∀ x ∈ (tkS s k).1, x.size ≤ 1000000) := tk_small s k
  have HK : Hid (frB s (tkS s k).2 = false) := hk
  have STF : Hid (∀ W, Calls Tryd.prog 9 #[.string s] W fun e w' => ∃ v, e = .returned (.tuple #[v, .int .i64 ((tkS s k).2 : Nat)]) ∧ Below W.heap.size W w' ∧ TX w' v (tkS s k).1) := fun W => by
    refine (specTakeFrames_any s (by omega) W).mono ?_
    rintro e w' ⟨k2, v2, rfl, hk2, hb, ho⟩
    rw [tkS_end hk2 HK.out] at ho ⊢
    exact ⟨v2, rfl, hb, TX.of_own ho⟩
  obtain ⟨l, HLl⟩ : ∃ l, Hid ((tkS s k).1 = l) := ⟨_, rfl⟩
  obtain ⟨n, HN⟩ : ∃ i, Hid ((tkS s k).2 = i) := ⟨_, rfl⟩
  rw [HLl.out] at ho2 HCT HSM STF hle
  rw [HN.out] at HCT STF hle ⊢
  clear hk HK HLl HN
  obtain ⟨nl, HNL⟩ : ∃ i, Hid (l.length = i) := ⟨_, rfl⟩
  have hnl : 8 * nl ≤ n := by rw [← HNL.out]; exact hle.2
  have hns : n ≤ s.size := hle.1
  have X2 : Hid (TX w2 v l) := TX.of_own ho2
  have B2 : Hid (Below w.heap.size w w2) := B1.out.trans (hb2.mono B1.out.size)
  clear hb2 ho2 B1 hle
  go_wp2_with fail
  refine (STF.out w2).mono ?_
  rintro e w3 ⟨v3, rfl, hb3, hx3⟩
  have X3 : Hid (TX w3 v l ∧ TX w3 v3 l) := ⟨X2.out.below hb3, hx3⟩
  have B3 : Hid (Below w.heap.size w w3) := B2.out.trans (hb3.mono B2.out.size)
  clear hb3 hx3 X2 B2 STF
  have STX : Hid (∀ W v1 v2 (xs : List ByteArray), TX W v1 xs → TX W v2 xs → xs.length ≤ 1048576 → Calls Tryd.prog 10 #[v1, v2] W fun e w' => e = .returned (.bool true) ∧ Below W.heap.size W w') := fun W v1 v2 xs h1 h2 hx => by
    obtain ⟨a1, c1, e1⟩ : ∃ a c, v1 = .slice a xs.length c := by
      rcases h1.s with ⟨e, rfl⟩ | ⟨g, c, e, _⟩
      · exact ⟨none, 0, e⟩
      · exact ⟨_, c, e⟩
    obtain ⟨a2, c2, e2⟩ : ∃ a c, v2 = .slice a xs.length c := by
      rcases h2.s with ⟨e, rfl⟩ | ⟨g, c, e, _⟩
      · exact ⟨none, 0, e⟩
      · exact ⟨_, c, e⟩
    have t1 := h1.t _ _ _ e1
    have t2 := h2.t _ _ _ e2
    subst e1 e2
    exact sameTexts_same a1 a2 c1 c2 xs.length xs W t1 t2 rfl hx
  have hnI : ((n : Int) != (n : Int)) = false := by simp
  have hnn : ¬ ((s.size : Int) < (n : Int)) := by omega
  have hdn : decide (s.size < n) = false := decide_eq_false (by omega)
  have hdn2 : decide ((s.size : Int) < (n : Int)) = false := decide_eq_false hnn
  go_wp2_with fail
  refine (STX.out w3 v v3 l X3.out.1 X3.out.2 (by rw [HNL.out]; omega)).mono ?_
  rintro e w4 ⟨rfl, hb4⟩
  have X4 : Hid (TX w4 v l) := X3.out.1.below hb4
  have B4 : Hid (Below w.heap.size w w4) := B3.out.trans (hb4.mono B3.out.size)
  clear hb4 X3 B3
  obtain ⟨al, cl, hv, HAL⟩ : ∃ al cl, v = .slice al nl cl ∧ Hid ((al = none ∧ nl = 0 ∧ cl = 0) ∨ ∃ g, al = some ⟨g, 0, none⟩ ∧ nl ≤ cl) := by
    rcases X4.out.s with ⟨e, h0⟩ | ⟨g, c, e, hc⟩
    · have hz : nl = 0 := by rw [← HNL.out, h0]; rfl
      exact ⟨none, 0, by rw [e, hz], .inl ⟨rfl, hz, rfl⟩⟩
    · rw [HNL.out] at e hc
      exact ⟨_, c, e, .inr ⟨g, rfl, hc⟩⟩
  subst hv
  have L4 : Hid (TxtsAt w4 al l) := X4.out.t _ _ _ rfl
  clear X4
  have IFO : Hid (∀ W (x : ByteArray), Below w.heap.size w W → x.size ≤ 1048576 → Calls Tryd.prog 11 #[.string x] W fun e w' => e = .returned (.string (frV x)) ∧ Below W.heap.size W w') := fun W x hb hx => implFrameOf_any x hx W (T0.out.below hb)
  have ITF : Hid (∀ W (x : ByteArray) j, Below w.heap.size w W → x.size ≤ 1048576 → frB x (tkS x j).2 = false → Calls Tryd.prog 8 #[.string x] W fun e w' => ∃ v, e = .returned (.tuple #[v, .int .i64 ((tkS x j).2 : Nat)]) ∧ Below W.heap.size W w' ∧ TX w' v (tkS x j).1) := fun W x j hb hx hj => by
    refine (implTakeFrames_any x hx W (T0.out.below hb)).mono ?_
    rintro e w' ⟨k2, v2, rfl, hk2, hb, ho⟩
    rw [tkS_end hk2 hj] at ho ⊢
    exact ⟨v2, rfl, hb, TX.of_own ho⟩
  have HCS : Hid (∀ i, i ≤ nl → (catF (l.take i)).size ≤ n) := fun i hi => by
    have h1 : (catF l).size = n := by rw [HCT.out, ext_size _ _ _ hns]; omega
    have hm : ∀ m, i + m ≤ nl → (catF (l.take i)).size ≤ (catF (l.take (i + m))).size := by
      intro m
      induction m with
      | zero => intro _; exact Nat.le_refl _
      | succ m ih =>
        intro hm
        have := ih (by omega)
        rw [show i + (m + 1) = i + m + 1 by omega, catF_take l (i + m) (by rw [HNL.out]; omega), ByteArray.size_append]
        omega
    have := hm (nl - i) (by omega)
    rw [show i + (nl - i) = nl by omega, ← HNL.out, List.take_length, h1] at this
    exact this
  go_wp2_with fail
  go_loopw [8, 9] (fun ts ti wr => ∃ i : Nat, i ≤ nl ∧ ti = .int .i64 i ∧ ts = .string (catF (l.take i)) ∧ Below w4.heap.size w4 wr) (fun _ ti _ => nl - (intOf ti).toNat)
  case atStart => exact ⟨0, Nat.zero_le _, rfl, rfl, Below.refl _ _⟩
  case round =>
    obtain ⟨i, hi, rfl, rfl, hb⟩ := hrel
    have B5 : Hid (Below w.heap.size w wr) := B4.out.trans (hb.mono B4.out.size)
    have C5 : Hid (Below w4.heap.size w4 wr) := hb
    have L5 : Hid (TxtsAt wr al l) := L4.out.below hb
    clear hb
    have hci := HCS.out i hi
    by_cases hlt : i < nl
    · have hin : (i : Int) < nl := by omega
      obtain ⟨b1, o1, e1, c1'⟩ := L5.out i (by rw [HNL.out]; exact hlt)
      have HX : Hid (catF (l.take (i + 1)) = catF (l.take i) ++ frV (l.getD i ⟨#[]⟩)) := catF_take l i (by rw [HNL.out]; exact hlt)
      have hxs : (l.getD i ⟨#[]⟩).size ≤ 1000000 := HSM.out _ (by
        have : i < l.length := by rw [HNL.out]; exact hlt
        rw [List.getD_eq_getElem?_getD, List.getElem?_eq_getElem this]; simp)
      subst e1
      generalize l.getD i ⟨#[]⟩ = x at *
      generalize catF (l.take i) = t at *
      go_wp2_with fail
      refine (IFO.out wr x B5.out (by omega)).mono ?_
      rintro e w6 ⟨rfl, hb6⟩
      have C6 : Hid (Below w4.heap.size w4 w6) := C5.out.trans (hb6.mono C5.out.size)
      have hfs := frV_size x
      clear hb6 B5 C5 L5 c1'
      generalize frV x = f at *
      go_wp2
      first
        | exact ⟨⟨i + 1, by omega, by first | rfl | go_num, by rw [HX.out], C6.out⟩, by simp [intOf]; omega⟩
        | (go_roundw
           case rel => exact ⟨i + 1, by omega, by first | rfl | go_num, by rw [HX.out], C6.out⟩
           case measure => simp [intOf]; omega)
    · have hin : i = nl := by omega
      subst hin
      have HAll : Hid (catF (l.take i) = s.extract 0 n) := by show _ = _; rw [← HNL.out, List.take_length]; exact HCT.out
      rw [HAll.out] at hci ⊢
      have hsn : (s.extract 0 n).size = n := by rw [ext_size _ _ _ hns]; omega
      obtain ⟨al', HAl⟩ : ∃ t, Hid (s.extract 0 n = t) := ⟨_, rfl⟩
      rw [HAl.out] at hsn HCT ⊢
      clear hci hlt HAll HCS C5
      go_wp2_with fail
      refine (DFO.out wr B5.out).mono ?_
      rintro e w6 ⟨t, rfl, ht, hb6⟩
      have B6 : Hid (Below w.heap.size w w6) := B5.out.trans (hb6.mono B5.out.size)
      have L6 : Hid (TxtsAt w6 al l) := L5.out.below hb6
      clear hb6 B5 L5
      go_wp2_with fail
      refine (IFO.out w6 t B6.out (by omega)).mono ?_
      rintro e w7 ⟨rfl, hb7⟩
      have B7 : Hid (Below w.heap.size w w7) := B6.out.trans (hb7.mono B6.out.size)
      have L7 : Hid (TxtsAt w7 al l) := L6.out.below hb7
      clear hb7 B6 L6
      have hfs := frV_size t
      have HP1 : Hid (tkS (al' ++ frV t) (i + 1) = (l ++ [t], (al' ++ frV t).size)) := by
        show _ = _
        have := parse_all (i + 1) (l ++ [t]) ⟨#[]⟩ (by simp [HNL.out]) (fun x hx => by
          rcases List.mem_append.1 hx with hx | hx
          · exact HSM.out x hx
          · have : x = t := by simpa using hx
            rw [this]
            omega)
        rw [app_nil, catF_snoc, HCT.out] at this
        exact this
      have HP2 : Hid (frB (al' ++ frV t) (tkS (al' ++ frV t) (i + 1)).2 = false) := by show _ = _; rw [HP1.out]; exact frB_end _
      have hus : (al' ++ frV t).size = n + (frV t).size := by rw [ByteArray.size_append, hsn]
      have ITF1 : Hid (∀ W, Below w.heap.size w W → Calls Tryd.prog 8 #[.string (al' ++ frV t)] W fun e w' => ∃ v, e = .returned (.tuple #[v, .int .i64 ((n + (frV t).size : Nat) : Int)]) ∧ Below W.heap.size W w' ∧ TX w' v (l ++ [t])) := fun W hb => by
        have := ITF.out W (al' ++ frV t) (i + 1) hb (by omega) HP2.out
        rw [HP1.out, hus] at this
        exact this
      have IFO1 : Hid (∀ W, Below w.heap.size w W → Calls Tryd.prog 11 #[.string t] W fun e w' => e = .returned (.string (frV t)) ∧ Below W.heap.size W w') := fun W hb => IFO.out W t hb (by omega)
      clear hus HP1 HP2
      generalize frV t = f at *
      go_wp2_with fail
      refine (ITF1.out w7 B7.out).mono ?_
      rintro e w8 ⟨v8, rfl, hb8, hx8⟩
      have B8 : Hid (Below w.heap.size w w8) := B7.out.trans (hb8.mono B7.out.size)
      have L8 : Hid (TxtsAt w8 al l) := L7.out.below hb8
      have X8 : Hid (TX w8 v8 (l ++ [t])) := hx8
      clear hb8 hx8 B7 L7 ITF1
      obtain ⟨kk, r1, r2, r3, hkk⟩ : ∃ kk : Nat, (N : Int) % ((n : Int) + 1) = (kk : Int) ∧ (N : Int).tmod ((n : Int) + 1) = (kk : Int) ∧ (kk : Int) ≤ n ∧ kk ≤ n := by
        have h1 := Nat.mod_lt N (show 0 < n + 1 by omega)
        have h2 : (N : Int) % ((n : Int) + 1) = ((N % (n + 1) : Nat) : Int) := by rw [Int.natCast_emod]; rfl
        exact ⟨N % (n + 1), h2, by rw [Int.tmod_eq_emod_of_nonneg (by omega), h2], by omega, by omega⟩
      obtain ⟨g8, c8, e8, hc8⟩ : ∃ g c, v8 = .slice (some ⟨g, 0, none⟩) (i + 1) c ∧ i + 1 ≤ c := by
        rcases X8.out.s with ⟨_, h0⟩ | ⟨g, c, e, hc⟩
        · simp at h0
        · have hl8 : (l ++ [t]).length = i + 1 := by simp [HNL.out]
          rw [hl8] at e hc
          exact ⟨g, c, e, hc⟩
      subst e8
      have Y8 : Hid (w8.cell? ⟨g8, i, none⟩ = some (.string t)) := by
        obtain ⟨b, off, e, hc⟩ := X8.out.t _ _ _ rfl i (by simp [HNL.out])
        simp at e
        obtain ⟨rfl, rfl⟩ := e
        rw [Nat.zero_add] at hc
        have : (l ++ [t]).getD i ⟨#[]⟩ = t := by rw [List.getD_eq_getElem?_getD, List.getElem?_append_right (by rw [HNL.out]; exact Nat.le_refl _), HNL.out, Nat.sub_self]; rfl
        rw [this] at hc
        exact hc
      clear X8
      have hne1 : (n : Int) + 1 ≠ 0 := by omega
      have hasz : ((al'.size : Nat) : Int) = (n : Int) := by rw [hsn]
      obtain ⟨j9, i9, hi9, hE9, hF9⟩ : ∃ j i9, i9 ≤ i ∧ tkS (al'.extract 0 kk) j = (l.take i9, (catF (l.take i9)).size) ∧ frB (al'.extract 0 kk) (tkS (al'.extract 0 kk) j).2 = false := by
        have hz : (al'.extract 0 kk).size = kk := by rw [ext_size _ _ _ (by omega)]; omega
        have hex : ∃ j, frB (al'.extract 0 kk) (tkS (al'.extract 0 kk) j).2 = false := by
          apply Classical.byContradiction
          intro hno
          have hall : ∀ j, 8 * j ≤ (tkS (al'.extract 0 kk) j).2 := by
            intro j
            induction j with
            | zero => simp
            | succ j ih =>
              have ht : frB (al'.extract 0 kk) (tkS (al'.extract 0 kk) j).2 = true := by
                cases hq : frB (al'.extract 0 kk) (tkS (al'.extract 0 kk) j).2
                · exact absurd ⟨j, hq⟩ hno
                · rfl
              rw [tkS_yes ht]
              simp only
              omega
          have h1 := hall (kk + 1)
          have h2 := (tkS_le (al'.extract 0 kk) (kk + 1)).1
          rw [hz] at h2
          omega
        obtain ⟨j, hj⟩ := hex
        obtain ⟨i9, hi9, h9⟩ := parse_cut l HSM.out kk (by rw [HCT.out, hsn]; exact hkk) j
        rw [HCT.out] at h9
        exact ⟨j, i9, by rw [HNL.out] at hi9; exact hi9, h9, hj⟩
      obtain ⟨fw, HFW⟩ : ∃ x, Hid (al'.extract 0 kk = x) := ⟨_, rfl⟩
      have ITF9 : Hid (∀ W, Below w.heap.size w W → Calls Tryd.prog 8 #[.string fw] W fun e w' => ∃ v z, e = .returned (.tuple #[v, .int .i64 z]) ∧ Below W.heap.size W w' ∧ TX w' v (l.take i9)) := fun W hb => by
        have := ITF.out W (al'.extract 0 kk) j9 hb (by rw [ext_size _ _ _ (by omega)]; omega) hF9
        rw [hE9] at this
        rw [← HFW.out]
        refine this.mono ?_
        rintro e w' ⟨v, rfl, h1, h2⟩
        exact ⟨v, _, rfl, h1, h2⟩
      clear hE9 hF9 ITF
      have hFW := HFW.out
      go_wp2_with fail
      refine (ITF9.out w8 B8.out).mono ?_
      rintro e w9 ⟨v9, z9, rfl, hb9, hx9⟩
      have B9 : Hid (Below w.heap.size w w9) := B8.out.trans (hb9.mono B8.out.size)
      have L9 : Hid (TxtsAt w9 al l) := L8.out.below hb9
      have Y9 : Hid (w9.cell? ⟨g8, i, none⟩ = some (.string t)) := (hb9.cell (p := ⟨g8, i, none⟩) (block_lt_of_cell Y8.out)).trans Y8.out
      have X9 : Hid (TX w9 v9 (l.take i9)) := hx9
      have hl9 : (l.take i9).length = i9 := by rw [List.length_take, HNL.out]; omega
      obtain ⟨a9, c9, e9⟩ : ∃ a c, v9 = .slice a i9 c := by
        rcases hx9.s with ⟨e, h0⟩ | ⟨g, c, e, _⟩
        · rw [h0] at hl9
          exact ⟨none, 0, by rw [e, ← hl9]; rfl⟩
        · rw [hl9] at e
          exact ⟨_, c, e⟩
      subst e9
      have ST9 : Hid (∀ W, Below w9.heap.size w9 W → Calls Tryd.prog 10 #[.slice a9 i9 c9, .slice al i9 cl] W fun e w' => e = .returned (.bool true) ∧ Below W.heap.size W w') := fun W hb =>
        sameTexts_same a9 al c9 cl i9 (l.take i9) W ((X9.out.t _ _ _ rfl).below hb) ((L9.out.below hb).take i9) hl9 (by omega)
      clear hb9 hx9 B8 L8 Y8 X9 L9 ITF9 hl9 hFW
      have hAl := HAl.out
      have haa : (al'.toList == al'.toList) = true := beq_self_eq_true _
      have htt : (t.toList == t.toList) = true := beq_self_eq_true _
      have hi9' : (i9 : Int) ≤ (i : Int) := by omega
      have hY := Y9.out
      have hii : (i : Int) < (i : Int) + 1 := by omega
      rcases HAL.out with ⟨e1, e2, e3⟩ | ⟨g, e1, hcl⟩
      · subst e1 e2 e3
        have hi0 : i9 = 0 := by omega
        subst hi0
        clear HAL
        go_wp2_with fail
        refine (IFO1.out w9 B9.out).mono ?_
        rintro e w10 ⟨rfl, hb10⟩
        have C10 : Hid (Below w9.heap.size w9 w10) := hb10
        clear hb10
        go_wp2_with fail
        refine (ST9.out w10 C10.out).mono ?_
        rintro e w11 ⟨rfl, hb11⟩
        have B11 : Hid (Below w.heap.size w w11) := B9.out.trans ((C10.out.trans (hb11.mono C10.out.size)).mono B9.out.size)
        clear hb11
        go_wp2
        go_ret
        exact ⟨by first | rfl | simp, B11.out⟩
      · subst e1
        clear HAL
        have h9c : i9 ≤ cl := by omega
        go_wp2_with fail
        refine (IFO1.out w9 B9.out).mono ?_
        rintro e w10 ⟨rfl, hb10⟩
        have C10 : Hid (Below w9.heap.size w9 w10) := hb10
        clear hb10
        go_wp2_with fail
        refine (ST9.out w10 C10.out).mono ?_
        rintro e w11 ⟨rfl, hb11⟩
        have B11 : Hid (Below w.heap.size w w11) := B9.out.trans ((C10.out.trans (hb11.mono C10.out.size)).mono B9.out.size)
        clear hb11
        go_wp2
        go_ret
        exact ⟨by first | rfl | simp, B11.out⟩

theorem lawFnFrames_all (a : Option Addr) (c : Nat) (bs : List Int) (w : World) (hA : CodeAt w a bs) (hl : bs.length ≤ 9223372036854775807) (hT : TabW w) :
    Calls Tryd.prog 3 #[.slice a bs.length c] w fun e w' => e = .returned (.bool true) ∧ Below w.heap.size w w' := by
  by_cases h : bs.length ≤ 1048576
  · exact lawFnFrames a c bs w hA h hT
  · exact lawFnFrames_big a c _ w hl (by omega)

end Go.Proofs.YtenkeinigkahaaaDoor
