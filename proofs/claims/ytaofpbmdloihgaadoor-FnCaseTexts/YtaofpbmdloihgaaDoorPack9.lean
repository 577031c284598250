import Derived.Test.YtaofpbmdloihgaaDoorPack1
import Derived.Test.YtaofpbmdloihgaaDoorPack8
import Derived.Laws.BytesArg
namespace Go.Proofs.YtaofpbmdloihgaaDoor
open Go.RowKit

/-- What a drawn text answers: one that is no longer than hi; the reader alone has changed. -/
def TextOk (w : World) (q : Nat) (a : Option Addr) (bs : List Int) (c : Nat) (hi : Nat) (e : Ending) (w' : World) : Prop :=
  ∃ (s : ByteArray) (p' : Nat), e = .returned (.string s) ∧ s.size ≤ hi ∧ RD w' q a bs c p' ∧ w.grownBy w' (some q)
theorem grown_blw {w w1 w2 : World} {row : Option Nat} (h : w.grownBy w1 row) (hb : Below w1.heap.size w1 w2) : w.grownBy w2 row :=
  ⟨hb.os.trans h.os, hb.tape.trans h.tape, hb.output.trans h.output, Nat.le_trans h.size hb.size, fun j hj hne => (hb.block j (Nat.lt_of_lt_of_le hj h.size)).trans (h.block j hj hne)⟩
theorem grown_of_below {w w1 : World} (q : Option Nat) (hb : Below w.heap.size w w1) : w.grownBy w1 q :=
  ⟨hb.os, hb.tape, hb.output, hb.size, fun j hj _ => hb.block j hj⟩
theorem grown_trn {w w1 w2 : World} {q : Nat} (h1 : w.grownBy w1 (some q)) (h2 : w1.grownBy w2 (some q)) : w.grownBy w2 (some q) := grown_trans h1 h2

/-- A row of texts, none longer than hi. -/
def TextsRow (w : World) (g : Nat) (cs : Array Value) (hi : Nat) : Prop := (∃ T, w.heap[g]? = some (.cells cs T (0, 0))) ∧ ∀ j, j < cs.size → ∃ s : ByteArray, cs[j]? = some (.string s) ∧ s.size ≤ hi
theorem TextsRow.at {w : World} {g : Nat} {cs : Array Value} {hi j : Nat} (h : TextsRow w g cs hi) (hj : j < cs.size) : ∃ s : ByteArray, w.cell? ⟨g, j, none⟩ = some (.string s) ∧ s.size ≤ hi := by
  obtain ⟨⟨T, hr⟩, hc⟩ := h
  obtain ⟨s, e, hs⟩ := hc j hj
  exact ⟨s, by rw [cell_of_row _ _ j _ _ _ hr, e], hs⟩
theorem TextsRow.grown {w w' : World} {g q : Nat} {cs : Array Value} {hi : Nat} (h : TextsRow w g cs hi) (hg : w.grownBy w' (some q)) (hne : g ≠ q) : TextsRow w' g cs hi := by
  obtain ⟨⟨T, hr⟩, hc⟩ := h
  exact ⟨⟨T, (hg.block g (row_lt hr) (fun e => hne (by injection e))).trans hr⟩, hc⟩

end Go.Proofs.YtaofpbmdloihgaaDoor

namespace Go.Proofs.YtaofpbmdloihgaaDoor
open Go.RowKit

theorem infoB1' : (Tryd.prog.info? 5).map (fun i => (i.zero, i.size, i.bytes)) = some (some (Value.int .u8 0), 1, 1) := by kernel_rfl
theorem own_newB (W : World) : (W.alloc (.cells #[] 5)).ownsRow W.heap.size 5 1 (.slice (some ⟨W.heap.size, 0, none⟩) 0 0) 0 ([] : List Value) := World.ownsRow_made W #[] 0 (Nat.le_refl _) (by unfold maxLen; omega) (by simp)
theorem one_rowB (W : World) (T : TypeId) (x : Value) : ∀ j u, [x][j]? = some u → (W.alloc (.cells #[x] T)).cell? ⟨W.heap.size, 0 + j, none⟩ = some u := by
  intro j u hu
  match j, hu with
  | 0, hu =>
    simp at hu
    subst hu
    rw [cell_of_row _ _ _ _ _ _ (heap_alloc_new _ _)]
    rfl
  | j + 1, hu => simp at hu

/-- The reader stays where what is new to the call is written. -/
theorem RD.own {w W W' : World} {q : Nat} {a : Option Addr} {bs : List Int} {c p0 p : Nat} {row : Option Nat} (h0 : RD w q a bs c p0) (h : RD W q a bs c p) (hg : W.grownBy W' row) (hr : ∀ k, row = some k → w.heap.size ≤ k) : RD W' q a bs c p := by
  have hq : q < w.heap.size := row_lt h0.1
  refine ⟨(hg.block q (row_lt h.1) (fun e => ?_)).trans h.1, h.2.1, fun j hj => ?_, h.2.2.2⟩
  · have := hr q e.symm
    omega
  · obtain ⟨b, off, e, hne, hc, hv⟩ := h.2.2.1 j hj
    obtain ⟨b', off', e', _, hc', _⟩ := h0.2.2.1 j hj
    rw [e] at e'
    simp at e'
    obtain ⟨rfl, rfl⟩ := e'
    have hb : b < w.heap.size := block_lt_of_cell hc'
    refine ⟨b, off, e, hne, hg.cell hc (fun e2 => ?_), hv⟩
    have := hr b e2.symm
    omega
/-- As grownBy, where what else was written is new to the call. -/
theorem grown_ownX {w W W' : World} {q row : Option Nat} (h : w.grownBy W q) (hg : W.grownBy W' row) (hr : ∀ k, row = some k → w.heap.size ≤ k) : w.grownBy W' q :=
  ⟨hg.os.trans h.os, hg.tape.trans h.tape, hg.output.trans h.output, Nat.le_trans h.size hg.size, fun j hj hne => (hg.block j (Nat.lt_of_lt_of_le hj h.size) (fun e => by have := hr j e.symm; omega)).trans (h.block j hj hne)⟩
theorem own_grownX {w W' : World} {base n size q : Nat} {e : TypeId} {v : Value} {xs : List Value} (h : w.ownsRow base e size v n xs) (hg : w.grownBy W' (some q)) (hq : q < base) : W'.ownsRow base e size v n xs := by
  obtain ⟨h1, h2 | ⟨g, cap, cur, h2, h3, h4, h5⟩⟩ := h
  · exact ⟨h1, .inl h2⟩
  · exact ⟨h1, .inr ⟨g, cap, cur, h2, h3, (hg.block g (row_lt h4) (fun e => by injection e with e; omega)).trans h4, h5⟩⟩

set_option maxHeartbeats 1000000 in
theorem bytes_any (q p c most : Nat) (a : Option Addr) (bs : List Int) (w : World) (h : RD w q a bs c p) (hm : most ≤ 1000) :
    Calls Tryd.prog 47 #[.pointer (some ⟨q, 0, none⟩), .int .i64 most] w (TextOk w q a bs c most) := by
  have hq : q < w.heap.size := row_lt h.1
  have BA : Hid (Below w.heap.size w (w.alloc (.cells #[] 5))) := (Below.refl w.heap.size w).alloc (Nat.le_refl _) _
  have R0 : Hid (RD (w.alloc (.cells #[] 5)) q a bs c p) := h.below BA.out
  have O0 : Hid ((w.alloc (.cells #[] 5)).ownsRow w.heap.size 5 1 (.slice (some ⟨w.heap.size, 0, none⟩) 0 0) 0 ([] : List Value)) := own_newB w
  have H : Hid (RD w q a bs c p) := h
  clear h
  go_enter Tryd.func47, Tryd.ntmps47
  go_wp2_with fail
  generalize w.alloc (.cells #[] 5) = W0 at *
  have hmm : ((most : Int) + 1) ≤ 65536 := by omega
  refine (below_any q p c ((most : Int) + 1) a bs W0 R0.out hmm).mono ?_
  rintro e w1 ⟨v, p1, rfl, hv0, hv1, hr, hg⟩
  obtain ⟨k, rfl⟩ := Int.eq_ofNat_of_zero_le hv0
  have hk : k ≤ most := by omega
  have R1 : Hid (RD w1 q a bs c p1) := hr
  have G1 : Hid (w.grownBy w1 (some q)) := grown_trn (grown_of_below _ BA.out) hg
  have O1 : Hid (w1.ownsRow w.heap.size 5 1 (.slice (some ⟨w.heap.size, 0, none⟩) 0 0) 0 (([] : List Int).map (Value.int .u8))) := own_grownX O0.out hg hq
  clear hr hg hv0 hv1 R0 O0
  go_wp2_with fail
  go_loopw [5, 6] (fun tl ti wr => ∃ (i p2 : Nat) (xs : List Int), i ≤ k ∧ xs.length + i = k ∧ ti = .int .i64 i ∧ RD wr q a bs c p2 ∧ w.grownBy wr (some q) ∧ wr.ownsRow w.heap.size 5 1 tl xs.length (xs.map (Value.int .u8)) ∧ tl ≠ .slice none 0 0) (fun _ ti _ => (intOf ti).toNat)
  case atStart => exact ⟨k, p1, [], Nat.le_refl _, by simp, rfl, R1.out, G1.out, O1.out, by simp⟩
  case round =>
    clear R1 G1 O1
    obtain ⟨i, p2, xs, hi, hxi, rfl, hr, hg, ho, hnl⟩ := hrel
    have R1 : Hid (RD wr q a bs c p2) := hr
    have G1 : Hid (w.grownBy wr (some q)) := hg
    obtain ⟨g, cg, rfl⟩ := own_smg ho hnl
    have O1 : Hid (wr.ownsRow w.heap.size 5 1 (.slice (some ⟨g, 0, none⟩) xs.length cg) xs.length (xs.map (Value.int .u8))) := ho
    clear hr hg ho hnl
    by_cases h0 : 0 < i
    · have h0' : (0 : Int) < i := by omega
      go_wp2_with fail
      refine (below_any q p2 c 256 a bs wr R1.out (by omega)).mono ?_
      rintro e w2 ⟨v, p3, rfl, hv0, hv1, hr, hg⟩
      have R2 : Hid (RD w2 q a bs c p3) := hr
      have G2 : Hid (w.grownBy w2 (some q)) := grown_trn G1.out hg
      have O2 : Hid (w2.ownsRow w.heap.size 5 1 (.slice (some ⟨g, 0, none⟩) xs.length cg) xs.length (xs.map (Value.int .u8))) := own_grownX O1.out hg hq
      clear hr hg R1 G1 O1
      have hv256 : v < 256 := by have : max (256 : Int) 1 = 256 := by decide
                                 omega
      clear hv1
      have BA2 : Hid (Below w2.heap.size w2 (w2.alloc (.cells #[.int .u8 v] 5))) := (Below.refl _ _).alloc (Nat.le_refl _) _
      obtain ⟨n, HN⟩ : ∃ n, Hid (xs.length = n) := ⟨_, rfl⟩
      rw [HN.out] at hxi O2 ⊢
      go_wp2_with (
        at_builtin
        refine append_vals Tryd.underlying22 infoB1' rfl (by decide) _ rfl _ _ rfl w.heap.size _ n (xs.map (Value.int .u8)) rfl (O2.out.alloc _) w2.heap.size 0 1 1 [.int .u8 v] rfl rfl (one_rowB w2 _ _) (by simp [Value.oneCell']) (by omega) (by omega) (Nat.le_trans G2.out.size (by simp)) ?_
        intro v' w4 hown hg _ hnl
        have hro : ∀ k, (Value.slice (some ⟨g, 0, none⟩) n cg).ownBlock = some k → w.heap.size ≤ k := fun k e => (O2.out.lt k e).1
        have O4 : Hid (w4.ownsRow w.heap.size 5 1 v' (n + 1) ((xs ++ [v]).map (Value.int .u8))) := by show World.ownsRow _ _ _ _ _ _ _; rw [List.map_append]; exact hown
        have R4 : Hid (RD w4 q a bs c p3) := RD.own H.out (R2.out.below BA2.out) hg hro
        have G4 : Hid (w.grownBy w4 (some q)) := grown_ownX (grown_blw G2.out BA2.out) hg hro
        have N4 : Hid (v' ≠ .slice none 0 0) := not_nilg hnl ⟨_, _, _, rfl⟩
        clear hown hg hnl hro)
      go_roundw
      case rel => exact ⟨i - 1, p3, xs ++ [v], by omega, by simp [HN.out]; omega, by first | rfl | (congr 1; omega) | go_num, R4.out, G4.out, by simpa [HN.out] using O4.out, N4.out⟩
      case measure => simp [intOf]; omega
    · have hi0 : i = 0 := by omega
      subst hi0
      have hconv := run_convert_bytes_arg (P := Tryd.prog) wr 22 5 Tryd.underlying22 Tryd.underlying5 g 0 xs.length cg xs rfl (fun i hi => by rw [Nat.zero_add]; exact (own_cellV O1.out (k := i) (x := .int .u8 (xs.getD i 0)) (by simp [List.getD, hi])).1) 9 Tryd.underlying9
      have hsz := strOfNums_size xs
      have HX : Hid (xs.length ≤ most) := by show _ ≤ _; omega
      generalize strOfNums xs = t at *
      go_wp2
      go_ret
      exact ⟨t, p2, rfl, by rw [hsz]; exact HX.out, R1.out, G1.out⟩

end Go.Proofs.YtaofpbmdloihgaaDoor

namespace Go.Proofs.YtaofpbmdloihgaaDoor
open Go.RowKit

def fiveT : Array Value := #[.string ⟨#[48]⟩, .string ⟨#[49]⟩, .string ⟨#[32]⟩, .string ⟨#[10]⟩, .string ⟨#[97]⟩]
theorem five_row {w : World} {g : Nat} (h : w.heap[g]? = some (.cells #[.string ⟨#[48]⟩, .string ⟨#[49]⟩, .string ⟨#[32]⟩, .string ⟨#[10]⟩, .string ⟨#[97]⟩] 9 (0, 0))) : TextsRow w g #[.string ⟨#[48]⟩, .string ⟨#[49]⟩, .string ⟨#[32]⟩, .string ⟨#[10]⟩, .string ⟨#[97]⟩] 1 := by
  refine ⟨⟨_, h⟩, fun j hj => ?_⟩
  match j, hj with
  | 0, _ => exact ⟨_, rfl, by decide⟩
  | 1, _ => exact ⟨_, rfl, by decide⟩
  | 2, _ => exact ⟨_, rfl, by decide⟩
  | 3, _ => exact ⟨_, rfl, by decide⟩
  | 4, _ => exact ⟨_, rfl, by decide⟩

set_option maxHeartbeats 2000000 in
theorem hurt_any (q p c : Nat) (a : Option Addr) (bs : List Int) (s : ByteArray) (hi : Nat) (w : World) (h : RD w q a bs c p) (hs : s.size ≤ hi) (hh : hi ≤ 60000) :
    Calls Tryd.prog 24 #[.pointer (some ⟨q, 0, none⟩), .string s] w (TextOk w q a bs c (hi + 2)) := by
  have hq : q < w.heap.size := row_lt h.1
  have H : Hid (RD w q a bs c p) := h
  clear h
  go_enter Tryd.func24, Tryd.ntmps24
  go_wp2_with fail
  refine (below_any q p c 6 a bs w H.out (by omega)).mono ?_
  rintro e w1 ⟨v, p1, rfl, hv0, hv1, hr, hg⟩
  have R1 : Hid (RD w1 q a bs c p1) := hr
  have G1 : Hid (w.grownBy w1 (some q)) := hg
  clear hr hg hv1
  by_cases h0 : v = 0
  · subst h0
    go_wp2_with fail
    refine (bytes_any q p1 c 2 a bs w1 R1.out (by omega)).mono ?_
    rintro e w2 ⟨t, p2, rfl, ht, hr, hg⟩
    have R2 : Hid (RD w2 q a bs c p2) := hr
    have G2 : Hid (w.grownBy w2 (some q)) := grown_trn G1.out hg
    clear hr hg R1 G1
    have hsz : (s ++ t).size = s.size + t.size := ByteArray.size_append
    have hle : (s ++ t).size ≤ hi + 2 := by omega
    clear hsz
    go_wp2
    go_ret
    exact ⟨_, p2, rfl, hle, R2.out, G2.out⟩
  · have hb0 : (v == 0) = false := by simpa using h0
    by_cases h1 : v = 1
    · subst h1
      have hle : ((s.size : Int) + 1) ≤ 65536 := by omega
      go_wp2_with fail
      refine (below_any q p1 c ((s.size : Int) + 1) a bs w1 R1.out hle).mono ?_
      rintro e w2 ⟨v, p2, rfl, hv0, hv1, hr, hg⟩
      have R2 : Hid (RD w2 q a bs c p2) := hr
      have G2 : Hid (w.grownBy w2 (some q)) := grown_trn G1.out hg
      clear hr hg R1 G1
      obtain ⟨k, rfl⟩ := Int.eq_ofNat_of_zero_le hv0
      have hk : k ≤ s.size := by omega
      have hk' : (k : Int) ≤ s.size := by omega
      have hsz : (s.extract 0 k).size ≤ hi + 2 := by rw [ByteArray.size_extract]; omega
      clear hv1
      go_wp2
      go_ret
      exact ⟨_, p2, rfl, hsz, R2.out, G2.out⟩
    · have hb1 : (v == 1) = false := by simpa using h1
      have FIN : ∀ W p2, RD W q a bs c p2 → w.grownBy W (some q) → TextOk w q a bs c (hi + 2) (.returned (.string s)) W := fun W p2 h1 h2 => ⟨s, p2, rfl, by omega, h1, h2⟩
      by_cases h2 : v = 2
      · subst h2
        by_cases hpos : 0 < s.size
        · have hpos' : (0 : Int) < s.size := by omega
          have hle : (s.size : Int) ≤ 65536 := by omega
          go_wp2_with fail
          refine (below_any q p1 c (s.size : Int) a bs w1 R1.out hle).mono ?_
          rintro e w2 ⟨v, p2, rfl, hv0, hv1, hr, hg⟩
          have R2 : Hid (RD w2 q a bs c p2) := hr
          have G2 : Hid (w.grownBy w2 (some q)) := grown_trn G1.out hg
          clear hr hg R1 G1
          obtain ⟨k, rfl⟩ := Int.eq_ofNat_of_zero_le hv0
          have hk : k < s.size := by omega
          have hk' : (k : Int) ≤ s.size := by omega
          have hk1 : (k : Int) + 1 ≤ s.size := by omega
          have hk3 : (0 : Int) ≤ (k : Int) + 1 := by omega
          have hkl : (k : Int) < s.size := by omega
          clear hv1
          have hq2 : q < w2.heap.size := row_lt R2.out.1
          go_wp2_with fail
          have hk1 : (k : Int) + 1 ≤ s.size := by omega
          have hk5 : ¬ ((k : Int) + 1 < 0) := by omega
          have hw1 : IntKind.i64.wrap ((k : Int) + 1) = (k : Int) + 1 := IntWalk.i64_in _ (by omega)
          have hw2 : wrap64 ((k : Int) + 1) = (k : Int) + 1 := IntWalk.wrap64_in _ (by omega)
          go_region_with (first
            | (go_at_call 27
               with_reducible refine (below_any q p2 c 5 a bs w2.drew (R2.out.below (Below.refl _ _).drew) (by omega)).mono ?_
               rintro e w3 ⟨v3, p3, rfl, hv30, hv31, hr3, hg3⟩
               have R3 : Hid (RD w3 q a bs c p3) := hr3
               have G3 : Hid (w.grownBy w3 (some q)) := grown_trn (grown_blw G2.out (Below.refl _ _).drew) hg3
               obtain ⟨j, rfl⟩ := Int.eq_ofNat_of_zero_le hv30
               have hj : j < 5 := by omega
               have hj' : (j : Int) < 5 := by omega
               obtain ⟨t, hct, hts⟩ := (five_row (heap_alloc_new w3 (.cells #[.string ⟨#[48]⟩, .string ⟨#[49]⟩, .string ⟨#[32]⟩, .string ⟨#[10]⟩, .string ⟨#[97]⟩] 9))).at (j := j) (by simpa using hj)
               clear hr3 hg3 hv31
               have hk1 : (k : Int) + 1 ≤ s.size := by omega
               have hk5 : ¬ ((k : Int) + 1 < 0) := by omega)
            | (go_at_call 27
               with_reducible refine (below_any q p2 c 5 a bs (w2.alloc (.cells #[.string ⟨#[48]⟩, .string ⟨#[49]⟩, .string ⟨#[32]⟩, .string ⟨#[10]⟩, .string ⟨#[97]⟩] 9)).drew (R2.out.below ((Below.refl _ _).alloc (Nat.le_refl _) _).drew) (by omega)).mono ?_
               rintro e w3 ⟨v3, p3, rfl, hv30, hv31, hr3, hg3⟩
               have R3 : Hid (RD w3 q a bs c p3) := hr3
               have G3 : Hid (w.grownBy w3 (some q)) := grown_trn (grown_blw G2.out ((Below.refl _ _).alloc (Nat.le_refl _) _).drew) hg3
               obtain ⟨j, rfl⟩ := Int.eq_ofNat_of_zero_le hv30
               have hj : j < 5 := by omega
               have hj' : (j : Int) < 5 := by omega
               obtain ⟨t, hct, hts⟩ := ((five_row (w := (w2.alloc (.cells #[.string ⟨#[48]⟩, .string ⟨#[49]⟩, .string ⟨#[32]⟩, .string ⟨#[10]⟩, .string ⟨#[97]⟩] 9)).drew) (heap_alloc_new w2 (.cells #[.string ⟨#[48]⟩, .string ⟨#[49]⟩, .string ⟨#[32]⟩, .string ⟨#[10]⟩, .string ⟨#[97]⟩] 9))).grown hg3 (by omega)).at (j := j) (by simpa using hj)
               clear hr3 hg3 hv31
               have hk1 : (k : Int) + 1 ≤ s.size := by omega
               have hk5 : ¬ ((k : Int) + 1 < 0) := by omega))
          all_goals
            have hsz : (s.extract 0 k ++ t ++ s.extract (k + 1) s.size).size ≤ hi + 2 := by
              rw [ByteArray.size_append, ByteArray.size_append, ByteArray.size_extract, ByteArray.size_extract]
              omega
            generalize s.extract 0 k ++ t ++ s.extract (k + 1) s.size = r at *
            go_wp2
            go_ret
            first
              | exact ⟨r, p3, rfl, hsz, R3.out, G3.out⟩
              | exact ⟨r, p3, rfl, hsz, R3.out.below ((Below.refl _ _).alloc (Nat.le_refl _) _), grown_blw G3.out ((Below.refl _ _).alloc (Nat.le_refl _) _)⟩
        · have hpos' : ¬ ((0 : Int) < s.size) := by omega
          go_wp2
          go_ret
          exact FIN _ _ R1.out G1.out
      · have hb2 : (v == 2) = false := by simpa using h2
        go_wp2
        go_ret
        exact FIN _ _ R1.out G1.out

end Go.Proofs.YtaofpbmdloihgaaDoor
