import Derived.Test.YtaofpbmdloihgaaDoorPack1
import Derived.Test.YtaofpbmdloihgaaDoorPack8
import Derived.Test.YtaofpbmdloihgaaDoorPack17
import Derived.Test.YtaofpbmdloihgaaDoorPack18
import Derived.Deep.RegionHeld3
namespace Go.Proofs.YtaofpbmdloihgaaDoor
open Go.RowKit

theorem grown_ownR {w0 w1 w2 : World} {q : Nat} {row : Option Nat} (h : w0.grownBy w1 (some q)) (hg : w1.grownBy w2 row) (hr : ∀ g, row = some g → w0.heap.size ≤ g) : w0.grownBy w2 (some q) :=
  ⟨hg.os.trans h.os, hg.tape.trans h.tape, hg.output.trans h.output, Nat.le_trans h.size hg.size, fun k hk hne => by
    rw [hg.block k (Nat.lt_of_lt_of_le hk h.size) (fun e => by have := hr k e.symm; omega)]
    exact h.block k hk hne⟩
theorem RX.grown {w w' : World} {q : Nat} {s : List UInt8} {row : Option Nat} (h : RX w q s) (hg : w.grownBy w' row) (hr : some q ≠ row) : RX w' q s := by
  unfold RX at *
  rw [hg.block q (row_lt h) hr]
  exact h
theorem RX.alloc {w : World} {q : Nat} {s : List UInt8} (h : RX w q s) (o : Obj) : RX (w.alloc o) q s := (heap_alloc_old _ _ (row_lt h)).trans h
theorem grown_allocR {w0 w1 : World} {q : Nat} (h : w0.grownBy w1 (some q)) (o : Obj) : w0.grownBy (w1.alloc o) (some q) :=
  grown_ownR h (World.grownBy_alloc w1 o none) (fun _ e => by cases e)

theorem idsF_blank (k : Nat) (t : List UInt8) : idsF (k + 1) (32 :: t) = match idF t with | none => none | some (v, r) => (match idsF k r with | none => none | some (l, r2) => some (v :: l, r2)) := by
  simp only [idsF, if_pos, idF]
  cases numF t with
  | none => rfl
  | some q =>
    obtain ⟨n, r⟩ := q
    simp only
    split <;> rfl
theorem idsF_full (t : List UInt8) : idsF 0 (32 :: t) = none := by simp [idsF]
theorem idsF_end (k : Nat) (s : List UInt8) (h : List.isPrefixOf [32] s = false) : idsF k s = if List.isPrefixOf [10] s = true then some ([], s.drop 1) else none := by
  cases s with
  | nil => cases k <;> simp [idsF]
  | cons c s =>
    have hc : ¬ c = 32 := fun e => by subst e; simp at h
    by_cases h10 : c = 10
    · subst h10
      cases k <;> simp [idsF]
    · have : ¬ (10 : UInt8) = c := fun e => h10 e.symm
      cases k <;> simp [idsF, hc, h10, this]
/-- What is read behind what was read. -/
def ppd (acc : List Int) (o : Option (List Int × List UInt8)) : Option (List Int × List UInt8) := match o with | none => none | some (l, r) => some (acc ++ l, r)
theorem ppd_snoc (acc : List Int) (v : Int) (k : Nat) (r : List UInt8) : ppd (acc ++ [v]) (idsF k r) = ppd acc (match idsF k r with | none => none | some (l, r2) => some (v :: l, r2)) := by
  unfold ppd
  cases idsF k r with
  | none => rfl
  | some q => obtain ⟨l, r2⟩ := q; simp
theorem blank_is {s : List UInt8} (h : List.isPrefixOf [32] s = true) : s = 32 :: s.drop 1 := by
  have := prefix_is h
  simpa using this

def slLen : Value → Nat
  | .slice _ n _ => n
  | _ => 0
theorem own_sl {w : World} {base size n : Nat} {e : TypeId} {v : Value} {xs : List Value} (h : w.ownsRow base e size v n xs) : ∃ a c, v = .slice a n c ∧ ∀ g, v.ownBlock = some g → base ≤ g := by
  obtain ⟨_, ⟨rfl, rfl⟩ | ⟨g, c, cur, rfl, hb, _⟩⟩ := h
  · exact ⟨none, 0, rfl, fun g e => by simp [Value.ownBlock] at e⟩
  · exact ⟨some ⟨g, 0, none⟩, c, rfl, fun g' e => by simp [Value.ownBlock] at e; omega⟩
theorem own_kept {w w' : World} {base size n q : Nat} {e : TypeId} {v : Value} {xs : List Value} (h : w.ownsRow base e size v n xs) (hg : w.grownBy w' (some q)) (hq : q < base) : w'.ownsRow base e size v n xs := by
  obtain ⟨_, _, _, hb⟩ := own_sl h
  refine h.kept hg ?_
  cases hv : v.ownBlock with
  | none => exact .inl rfl
  | some g => right; intro e; simp at e; have := hb g hv; omega

end Go.Proofs.YtaofpbmdloihgaaDoor

namespace Go.Proofs.YtaofpbmdloihgaaDoor
open Go.RowKit

theorem ppd_snocG (acc : List Int) (v : Int) (o : Option (List Int × List UInt8)) : ppd (acc ++ [v]) o = ppd acc (match o with | none => none | some (l, r2) => some (v :: l, r2)) := by
  unfold ppd
  cases o with
  | none => rfl
  | some q => obtain ⟨l, r2⟩ := q; simp
theorem ppd_nil (o : Option (List Int × List UInt8)) : ppd [] o = o := by cases o <;> rfl
theorem numsF_zero (s : List UInt8) : numsF 0 s = if List.isPrefixOf [10] s = true then some ([], s.drop 1) else none := by rw [numsF]
theorem numsF_succ (k : Nat) (s : List UInt8) : numsF (k + 1) s = if List.isPrefixOf [32] s = true then (match numF (s.drop 1) with
    | none => none
    | some (n, r) => match numsF k r with | none => none | some (l, r2) => some ((n : Int) :: l, r2)) else none := by rw [numsF]; rfl

set_option maxHeartbeats 2000000 in
theorem numbers_any (q k : Nat) (s : List UInt8) (w : World) (h : RX w q s) (hs : s.length ≤ 1000000000) (hk : k ≤ 900) :
    Calls Tryd.prog 57 #[.pointer (some ⟨q, 0, none⟩), .int .i64 (k : Int)] w fun e w' => (∃ l r sl, numsF k s = some (l, r) ∧ e = .returned sl ∧ RX w' q r ∧ w.grownBy w' (some q) ∧ w'.ownsRow w.heap.size 2 1 sl l.length (l.map (Value.int .i64))) ∨ (numsF k s = none ∧ e = .panicked GV ∧ w.grownBy w' (some q)) := by
  have HQ : Hid (q < w.heap.size) := row_lt h
  have HR : Hid (RX w q s) := h
  have HO : Hid (w.ownsRow w.heap.size 2 1 (.slice none 0 0) 0 (([] : List Int).map (Value.int .i64))) := ⟨by simp, .inl ⟨rfl, rfl⟩⟩
  clear h
  go_enter Tryd.func57, Tryd.ntmps57
  go_wp2_with fail
  go_loopw [5, 7] (fun t ti wr => ∃ (acc : List Int) (rest : List UInt8), acc.length ≤ k ∧ ti = .int .i64 (acc.length : Int) ∧ rest.length ≤ s.length ∧ numsF k s = ppd acc (numsF (k - acc.length) rest) ∧ RX wr q rest ∧ w.grownBy wr (some q) ∧ wr.ownsRow w.heap.size 2 1 t acc.length (acc.map (Value.int .i64))) (fun _ ti _ => k - (intOf ti).toNat)
  case atStart => exact ⟨[], s, by simp, rfl, Nat.le_refl _, by rw [ppd_nil]; rfl, HR.out, grown_refl _ _, HO.out⟩
  case round =>
    clear HR HO
    obtain ⟨acc, rest, ha, rfl, hrl, hi, hr, hg, ho⟩ := hrel
    obtain ⟨sa, sc, e, hob⟩ := own_sl ho
    subst e
    have HI : Hid (numsF k s = ppd acc (numsF (k - acc.length) rest)) := hi
    have HR : Hid (RX wr q rest) := hr
    have HG : Hid (w.grownBy wr (some q)) := hg
    have HO : Hid (wr.ownsRow w.heap.size 2 1 (.slice sa acc.length sc) acc.length (acc.map (Value.int .i64))) := ho
    clear hi hr hg ho hob
    obtain ⟨m, HM⟩ : ∃ m, Hid (acc.length = m) := ⟨_, rfl⟩
    rw [HM.out] at ha HI HO ⊢
    by_cases hm : m < k
    · have hmI : (m : Int) < (k : Int) := by omega
      have HI1 := HI.out
      rw [show k - m = (k - (m + 1)) + 1 by omega, numsF_succ] at HI1
      cases h32 : List.isPrefixOf [32] rest
      · have C1 := take_no q rest [32] wr HR.out (by omega) h32
        change Calls Tryd.prog 56 #[.pointer (some ⟨q, 0, none⟩), .string ⟨#[32]⟩] wr _ at C1
        have HF : Hid (numsF k s = none) := by show _ = _; rw [HI1, h32]; rfl
        clear h32 HI1
        go_wp2_with fail
        refine C1.mono ?_
        rintro e w' ⟨rfl, rfl⟩
        exact ⟨rfl, .inr ⟨HF.out, rfl, HG.out⟩⟩
      · have C1 := take_yes q rest [32] wr HR.out (by omega) h32
        change Calls Tryd.prog 56 #[.pointer (some ⟨q, 0, none⟩), .string ⟨#[32]⟩] wr _ at C1
        obtain ⟨t, ht⟩ : ∃ t, rest.drop 1 = t := ⟨_, rfl⟩
        have ed : rest.drop ([32] : List UInt8).length = t := ht
        rw [ed] at C1
        have htl : t.length ≤ rest.length := by rw [← ht, List.length_drop]; omega
        have HI2 : Hid (numsF k s = ppd acc (match numF t with | none => none | some (n, r) => match numsF (k - (m + 1)) r with | none => none | some (l, r2) => some ((n : Int) :: l, r2))) := by
          show _ = _
          rw [HI1, h32, ht]
          rfl
        clear h32 ed ht HI1
        go_wp2_with fail
        refine C1.mono ?_
        rintro e w2 ⟨rfl, hr2, hg2⟩
        have R2 : Hid (RX w2 q t) := hr2
        have G2 : Hid (w.grownBy w2 (some q)) := grown_trans HG.out hg2
        have O2 : Hid (w2.ownsRow w.heap.size 2 1 (.slice sa m sc) m (acc.map (Value.int .i64))) := own_kept HO.out hg2 HQ.out
        clear hr2 hg2 C1 HR HG HO
        have C2 := number_any q t w2 R2.out (by omega)
        go_wp2_with fail
        refine C2.mono ?_
        rintro e w3 (⟨v, r, hv, rfl, hr3, hg3⟩ | ⟨hv, rfl, rfl⟩)
        · have hvl : r.length ≤ t.length := by
            have := congrArg List.length (numF_is hv).1
            rw [List.length_append] at this
            omega
          have HI3 : Hid (numsF k s = ppd (acc ++ [(v : Int)]) (numsF (k - (m + 1)) r)) := by
            show _ = _
            rw [HI2.out, hv, ppd_snocG]
          have R3 : Hid (RX w3 q r) := hr3
          have G3 : Hid (w.grownBy w3 (some q)) := grown_trans G2.out hg3
          have O3 : Hid (w3.ownsRow w.heap.size 2 1 (.slice sa m sc) m (acc.map (Value.int .i64))) := own_kept O2.out hg3 HQ.out
          have HZ3 : Hid (w.heap.size ≤ w3.heap.size) := G3.out.size
          clear hv hr3 hg3 C2 R2 G2 O2 HI2
          obtain ⟨x, HX⟩ : ∃ x : Int, Hid ((v : Int) = x) := ⟨_, rfl⟩
          rw [HX.out] at HI3 ⊢
          go_wp2_with (
            at_builtin
            refine append_int _ rfl _ _ rfl w.heap.size (.slice sa m sc) m _ rfl (O3.out.alloc _) ⟨w3.heap.size, 0, none⟩ 1 (.int .i64 x) rfl (cell_new1 _ _ _ _ (by simp)) rfl (by omega) (by have := HZ3.out; simp; omega) ?_
            intro v' w4 ho4 hg4
            have G4 : Hid (w.grownBy w4 (some q)) := grown_ownR (grown_allocR G3.out _) hg4 (fun g e => by obtain ⟨_, _, _, hb⟩ := own_sl O3.out; exact hb g e)
            have R4 : Hid (RX w4 q r) := (R3.out.alloc _).grown hg4 (fun e => by obtain ⟨_, _, _, hb⟩ := own_sl O3.out; have := hb q e.symm; have := HQ.out; omega)
            have O4 : Hid (w4.ownsRow w.heap.size 2 1 v' (m + 1) ((acc ++ [x]).map (Value.int .i64))) := by rw [List.map_append]; exact ho4
            clear hg4 ho4)
          have hlen : (acc ++ [x]).length = m + 1 := by rw [List.length_append, HM.out]; rfl
          obtain ⟨sa4, sc4, e4, -⟩ := own_sl O4.out
          subst e4
          go_roundw
          case rel => exact ⟨acc ++ [x], r, by rw [hlen]; omega, by rw [hlen]; first | rfl | go_num, by omega, by rw [hlen]; exact HI3.out, R4.out, G4.out, by rw [hlen]; exact O4.out⟩
          case measure => simp [intOf]; omega
        · have HF : Hid (numsF k s = none) := by show _ = _; rw [HI2.out, hv]; rfl
          exact ⟨rfl, .inr ⟨HF.out, rfl, G2.out⟩⟩
    · have hmI : ¬ ((m : Int) < (k : Int)) := by omega
      have HI1 := HI.out
      rw [show k - m = 0 by omega, numsF_zero] at HI1
      cases h10 : List.isPrefixOf [10] rest
      · have C1 := take_no q rest [10] wr HR.out (by omega) h10
        change Calls Tryd.prog 56 #[.pointer (some ⟨q, 0, none⟩), .string ⟨#[10]⟩] wr _ at C1
        have HF : Hid (numsF k s = none) := by show _ = _; rw [HI1, h10]; rfl
        clear h10 HI1
        go_wp2_with fail
        refine C1.mono ?_
        rintro e w' ⟨rfl, rfl⟩
        exact ⟨rfl, .inr ⟨HF.out, rfl, HG.out⟩⟩
      · have C1 := take_yes q rest [10] wr HR.out (by omega) h10
        change Calls Tryd.prog 56 #[.pointer (some ⟨q, 0, none⟩), .string ⟨#[10]⟩] wr _ at C1
        have HF : Hid (numsF k s = some (acc, rest.drop 1)) := by show _ = _; rw [HI1, h10]; simp [ppd]
        clear h10 HI1
        go_wp2_with fail
        refine C1.mono ?_
        rintro e w2 ⟨rfl, hr2, hg2⟩
        have R2 : Hid (RX w2 q (rest.drop 1)) := hr2
        have G2 : Hid (w.grownBy w2 (some q)) := grown_trans HG.out hg2
        have O2 : Hid (w2.ownsRow w.heap.size 2 1 (.slice sa m sc) m (acc.map (Value.int .i64))) := own_kept HO.out hg2 HQ.out
        clear hr2 hg2 C1
        go_wp2
        go_ret
        exact .inl ⟨acc, rest.drop 1, .slice sa m sc, HF.out, rfl, R2.out, G2.out, by rw [HM.out]; exact O2.out⟩

/-- What (*reader).line answers: so many numbers, of the call's own, or it gave up. -/
def LineOk (w : World) (q : Nat) (o : Option (List Int × List UInt8)) (e : Ending) (w' : World) : Prop :=
  (∃ l r sl, o = some (l, r) ∧ e = .returned sl ∧ RX w' q r ∧ w.grownBy w' (some q) ∧ w'.ownsRow w.heap.size 2 1 sl l.length (l.map (Value.int .i64))) ∨ (o = none ∧ e = .panicked GV ∧ w.grownBy w' (some q))

set_option maxHeartbeats 1000000 in
theorem line_any (q k : Nat) (s wd : List UInt8) (w : World) (h : RX w q s) (hs : s.length ≤ 1000000000) (hk : k ≤ 900) :
    Calls Tryd.prog 36 #[.pointer (some ⟨q, 0, none⟩), .string (txt wd), .int .i64 (k : Int)] w (LineOk w q (lineF wd k s)) := by
  have HR : Hid (RX w q s) := h
  have HLF : Hid (lineF wd k s = if wd.isPrefixOf s = true then numsF k (s.drop wd.length) else none) := rfl
  clear h
  cases hp : wd.isPrefixOf s
  · have C1 := take_no q s wd w HR.out (by omega) hp
    have HF : Hid (lineF wd k s = none) := by show _ = _; rw [HLF.out, hp]; rfl
    clear hp
    generalize txt wd = a at *
    go_enter Tryd.func36, Tryd.ntmps36
    go_wp2_with fail
    refine C1.mono ?_
    rintro e w' ⟨rfl, rfl⟩
    exact ⟨rfl, .inr ⟨HF.out, rfl, grown_refl _ _⟩⟩
  · have C1 := take_yes q s wd w HR.out (by omega) hp
    have hdl : (s.drop wd.length).length ≤ 1000000000 := by rw [List.length_drop]; omega
    have HF : Hid (lineF wd k s = numsF k (s.drop wd.length)) := by show _ = _; rw [HLF.out, hp]; rfl
    clear hp
    generalize s.drop wd.length = t at *
    generalize txt wd = a at *
    go_enter Tryd.func36, Tryd.ntmps36
    go_wp2_with fail
    refine C1.mono ?_
    rintro e w2 ⟨rfl, hr2, hg2⟩
    have R2 : Hid (RX w2 q t) := hr2
    have G2 : Hid (w.grownBy w2 (some q)) := hg2
    clear hr2 hg2 C1
    have C2 := numbers_any q k t w2 R2.out hdl hk
    go_wp2_with fail
    refine C2.mono ?_
    rintro e w3 (⟨l, r, sl, hl, rfl, hr3, hg3, ho3⟩ | ⟨hl, rfl, hg3⟩)
    · have HL : Hid (lineF wd k s = some (l, r)) := by show _ = _; rw [HF.out, hl]
      have R3 : Hid (RX w3 q r) := hr3
      have G3 : Hid (w.grownBy w3 (some q)) := grown_trans G2.out hg3
      have O3 : Hid (w3.ownsRow w.heap.size 2 1 sl l.length (l.map (Value.int .i64))) := owns_base ho3 G2.out.size
      clear hl hr3 hg3 ho3 C2
      go_wp2
      go_ret
      exact .inl ⟨l, r, sl, HL.out, rfl, R3.out, G3.out, O3.out⟩
    · have HL : Hid (lineF wd k s = none) := by show _ = _; rw [HF.out, hl]
      exact ⟨rfl, .inr ⟨HL.out, rfl, grown_trans G2.out hg3⟩⟩

end Go.Proofs.YtaofpbmdloihgaaDoor

namespace Go.Proofs.YtaofpbmdloihgaaDoor
open Go.RowKit

theorem infoI9 : (Tryd.prog.info? 2).map (fun i => (i.zero, i.size, i.bytes)) = some (some (Value.int IntKind.i64 0), 1, 8) := by kernel_rfl
/-- What is read behind what was read. -/
def ppl (X : List (List Int)) (o : Option (List (List Int) × List UInt8)) : Option (List (List Int) × List UInt8) := match o with | none => none | some (Y, r) => some (X ++ Y, r)
theorem ppl_snoc (X : List (List Int)) (l : List Int) (o : Option (List (List Int) × List UInt8)) : ppl (X ++ [l]) o = ppl X (match o with | none => none | some (Y, r2) => some (l :: Y, r2)) := by
  unfold ppl
  cases o with
  | none => rfl
  | some q => obtain ⟨Y, r2⟩ := q; simp
theorem ppl_nil (o : Option (List (List Int) × List UInt8)) : ppl [] o = o := by cases o <;> rfl
theorem lnsF_zero (w : List UInt8) (k : Nat) (s : List UInt8) : lnsF w k 0 s = some ([], s) := by rw [lnsF]
theorem lnsF_succ (w : List UInt8) (k m : Nat) (s : List UInt8) : lnsF w k (m + 1) s = match lineF w k s with
    | none => none
    | some (l, r) => match lnsF w k m r with | none => none | some (X, r2) => some (l :: X, r2) := by rw [lnsF]; rfl
theorem set_rowM {W : World} {g k i : Nat} {o : Obj} {v : Value} (h : W.heap[g]? = some o) (hne : g ≠ k) : (W.setCell ⟨k, i, none⟩ v).heap[g]? = some o := by
  rw [heap_setCell_other _ _ _ _ (by simpa using hne)]; exact h
theorem own_src {w : World} {base g m c : Nat} {l : List Int} (h : w.ownsRow base 2 1 (.slice (some ⟨g, 0, none⟩) m c) m (l.map (Value.int .i64))) : ∀ j u, (l.map (Value.int .i64))[j]? = some u → w.cell? ⟨g, 0 + j, none⟩ = some u := fun j u hj => by
  have := h.cells (g := g) rfl j u hj
  rw [add_plain] at this
  exact this
/-- While a matrix is read: the reader, the answer's box, the matrix' box and what it owns. -/
structure MX (w W : World) (q : Nat) (rest : List UInt8) (n : Int) (sl : Value) (zs : List Int) : Prop where
  g : w.grownBy W (some q)
  r : RX W q rest
  z : W.heap[w.heap.size]? = some (.cells #[.int .i64 0, .slice none 0 0] 26 (0, 0))
  p : W.heap[w.heap.size + 1]? = some (.cells #[.int .i64 n, sl] 26 (0, 0))
  o : W.ownsRow (w.heap.size + 2) 2 1 sl zs.length (zs.map (Value.int .i64))
theorem MX.size {w W : World} {q : Nat} {rest : List UInt8} {n : Int} {sl : Value} {zs : List Int} (h : MX w W q rest n sl zs) : w.heap.size + 2 ≤ W.heap.size := row_lt h.p
theorem MX.new {w : World} {q : Nat} {s : List UInt8} (n : Int) (h : RX w q s) : MX w ((w.alloc (.cells #[.int .i64 0, .slice none 0 0] 26)).alloc (.cells #[.int .i64 n, .slice none 0 0] 26)) q s n (.slice none 0 0) [] :=
  ⟨grown_allocR (grown_allocR (grown_refl _ _) _) _, (h.alloc _).alloc _, heap_alloc2_old _ _ _, heap_alloc2_new _ _ _, ⟨by simp, .inl ⟨rfl, rfl⟩⟩⟩
theorem MX.call {w W W' : World} {q : Nat} {rest rest' : List UInt8} {n : Int} {sl : Value} {zs : List Int} (h : MX w W q rest n sl zs) (hq : q < w.heap.size) (hg : W.grownBy W' (some q)) (hr : RX W' q rest') : MX w W' q rest' n sl zs :=
  ⟨grown_trans h.g hg, hr, grown_row hg h.z (by simp; omega), grown_row hg h.p (by simp; omega), own_kept h.o hg (by omega)⟩
theorem MX.drew {w W : World} {q : Nat} {rest : List UInt8} {n : Int} {sl : Value} {zs : List Int} (h : MX w W q rest n sl zs) : MX w W.drew q rest n sl zs :=
  ⟨⟨h.g.os, h.g.tape, h.g.output, h.g.size, h.g.block⟩, h.r, h.z, h.p, h.o.drew⟩
theorem MX.more {w W W' : World} {q : Nat} {rest : List UInt8} {n : Int} {sl v' : Value} {zs ys : List Int} (h : MX w W q rest n sl zs) (hq : q < w.heap.size)
    (hg : W.grownBy W' sl.ownBlock) (ho : W'.ownsRow (w.heap.size + 2) 2 1 v' (zs ++ ys).length ((zs ++ ys).map (Value.int .i64))) : MX w (W'.setCell ⟨w.heap.size + 1, 1, none⟩ v') q rest n v' (zs ++ ys) := by
  have hob : ∀ g, sl.ownBlock = some g → w.heap.size + 2 ≤ g := fun g e => (h.o.lt g e).1
  have hn : ∀ k, k < w.heap.size + 2 → some k ≠ sl.ownBlock := fun k hk e => by have := hob k e.symm; omega
  refine ⟨grown_ownR (grown_ownR h.g hg (fun g e => by have := hob g e; omega)) (grown_set _ _ _ _) (fun g e => by simp at e; omega), ?_, set_rowM (grown_row hg h.z (hn _ (by omega))) (by omega), ?_, owns_set ho (by omega)⟩
  · exact RX.grown (h.r.grown hg (hn q (by omega))) (grown_set _ _ _ _) (by simp; omega)
  · exact heap_setCell_same _ _ _ _ _ _ (grown_row hg h.p (hn _ (by omega)))

/-- What takeMatrix answers. -/
def MatOk (w : World) (q : Nat) (n : Int) (o : Option (List (List Int) × List UInt8)) (e : Ending) (w' : World) : Prop :=
  (∃ X r sl, o = some (X, r) ∧ e = .returned (.agg #[.int .i64 n, sl]) ∧ RX w' q r ∧ w.grownBy w' (some q) ∧ w'.ownsRow (w.heap.size + 2) 2 1 sl X.flatten.length (X.flatten.map (Value.int .i64))) ∨ (o = none ∧ e = .panicked GV ∧ w.grownBy w' (some q))
def matF (n : Int) (s : List UInt8) : Option (List (List Int) × List UInt8) := if inB n 1 16 = true then lnsF wTimes n.toNat n.toNat s else none

set_option maxHeartbeats 4000000 in
set_option maxRecDepth 10000 in
theorem takeMatrix_any (q : Nat) (n : Int) (s : List UInt8) (w : World) (h : RX w q s) (hs : s.length ≤ 1000000000) :
    Calls Tryd.prog 37 #[.pointer (some ⟨q, 0, none⟩), .int .i64 n] w (MatOk w q n (matF n s)) := by
  have HQ : Hid (q < w.heap.size) := row_lt h
  have K0 : Hid (MX w ((w.alloc (.cells #[.int .i64 0, .slice none 0 0] 26)).alloc (.cells #[.int .i64 n, .slice none 0 0] 26)) q s n (.slice none 0 0) []) := MX.new n h
  have G0 : Hid (w.grownBy (w.alloc (.cells #[.int .i64 0, .slice none 0 0] 26)) (some q)) := grown_allocR (grown_refl _ _) _
  have HMF : Hid (matF n s = if inB n 1 16 = true then lnsF wTimes n.toNat n.toNat s else none) := rfl
  clear h
  have C0 := within_any n 1 16 (w.alloc (.cells #[.int .i64 0, .slice none 0 0] 26))
  cases hin : inB n 1 16
  · rw [hin] at C0
    have HF : Hid (matF n s = none) := by show _ = _; rw [HMF.out, hin]; rfl
    clear hin
    go_enter Tryd.func37, Tryd.ntmps37
    go_wp2_with fail
    refine C0.mono ?_
    rintro e w' ⟨rfl, rfl⟩
    go_wp2_with fail
    with_reducible refine (must_no _ _).mono ?_
    rintro e w' ⟨rfl, rfl⟩
    exact ⟨rfl, .inr ⟨HF.out, rfl, G0.out⟩⟩
  · rw [hin] at C0
    have HF : Hid (matF n s = lnsF wTimes n.toNat n.toNat s) := by show _ = _; rw [HMF.out, hin]; rfl
    obtain ⟨k, hk⟩ : ∃ k : Nat, n = (k : Int) := ⟨n.toNat, by unfold inB at hin; simp only [decide_eq_true_eq] at hin; omega⟩
    have hk1 : 1 ≤ k ∧ k ≤ 16 := by unfold inB at hin; simp only [decide_eq_true_eq] at hin; omega
    subst hk
    rw [Int.toNat_natCast] at HF
    clear hin HMF
    go_enter Tryd.func37, Tryd.ntmps37
    go_wp2_with fail
    refine C0.mono ?_
    rintro e w' ⟨rfl, rfl⟩
    go_wp2_with fail
    with_reducible refine (must_yes _ _).mono ?_
    rintro e w' ⟨rfl, rfl⟩
    clear C0
    go_wp2_with fail
    generalize (w.alloc (.cells #[.int .i64 0, .slice none 0 0] 26)).alloc (.cells #[.int .i64 (k : Int), .slice none 0 0] 26) = W0 at *
    go_loopw [13] (fun ti wr => ∃ (i : Nat) (X : List (List Int)) (rest : List UInt8) (sl : Value), i ≤ k ∧ ti = .int .i64 (i : Int) ∧ X.length = i ∧ X.flatten.length = i * k ∧ rest.length ≤ s.length ∧ lnsF wTimes k k s = ppl X (lnsF wTimes k (k - i) rest) ∧ MX w wr q rest k sl X.flatten) (fun ti _ => k - (intOf ti).toNat)
    case atStart => exact ⟨0, [], s, .slice none 0 0, by omega, rfl, rfl, by simp, Nat.le_refl _, by rw [ppl_nil]; rfl, K0.out⟩
    case round =>
      clear K0 G0
      obtain ⟨i, X, rest, sl, hi, rfl, hX, hXl, hrl, hf, hkx⟩ := hrel
      have HX : Hid (lnsF wTimes k k s = ppl X (lnsF wTimes k (k - i) rest)) := hf
      have KW : Hid (MX w wr q rest k sl X.flatten) := hkx
      have HXN : Hid (X.length = i) := hX
      clear hf hkx hX
      obtain ⟨m, HM⟩ : ∃ m, Hid (X.flatten.length = m) := ⟨_, rfl⟩
      rw [HM.out] at hXl
      have hm : m ≤ 256 := by
        have : i * k ≤ 16 * 16 := Nat.mul_le_mul (by omega) (by omega)
        omega
      have HXL : Hid (m = i * k) := hXl
      clear hXl
      obtain ⟨sa, sc, e, -⟩ := own_sl KW.out.o
      rw [HM.out] at e
      subst e
      by_cases hlt : i < k
      · have hltI : (i : Int) < (k : Int) := by omega
        have HX2 : Hid (lnsF wTimes k k s = ppl X (match lineF wTimes k rest with
            | none => none
            | some (l, r) => match lnsF wTimes k (k - (i + 1)) r with | none => none | some (Y, r2) => some (l :: Y, r2))) := by
          show _ = _
          rw [HX.out, show k - i = (k - (i + 1)) + 1 by omega, lnsF_succ]
        have CL : Hid (∀ W, RX W q rest → Calls Tryd.prog 36 #[.pointer (some ⟨q, 0, none⟩), .string ⟨#[116, 105, 109, 101, 115]⟩, .int .i64 (k : Int)] W (LineOk W q (lineF wTimes k rest))) := fun W hW => line_any q k rest wTimes W hW (by omega) (by omega)
        clear HX
        go_wp2_with fail
        refine wp_region_held_drew (S := (fun W => True)) (by kernel_rfl) ?_ (fun hHeld => ?_)
        · exact trivial
        have K2d : Hid (MX w wr.drew q rest k (.slice sa m sc) X.flatten) := KW.out.drew
        clear KW
        generalize wr.drew = V0 at *
        refine wpAnyH_take (i := 0) (v := ?_) rfl (by kernel_rfl) (by kernel_rfl) (by kernel_rfl) (fun _ _ _ h => h) (Or.inl ⟨by kernel_rfl, ?_⟩) hHeld ?_
        rotate_left 1; focus (intro w hSw; (try dsimp only at hSw); (try go_split_ands); go_simp; all_goals (first | done | with_reducible rfl))
        change wpAnyH _ _ _ _ _ _ _ (Act.put _ (some 15) _) _; simp only [Act.put, List.setIfInBounds_toArray, List.set_cons_zero, List.set_cons_succ]
        refine wpAnyH_take (i := 2) (v := ?_) rfl (by kernel_rfl) (by kernel_rfl) (by kernel_rfl) (fun _ _ _ h => h) (Or.inl ⟨by kernel_rfl, ?_⟩) hHeld ?_
        rotate_left 1; focus (intro w hSw; (try dsimp only at hSw); (try go_split_ands); go_simp; all_goals (first | done | with_reducible rfl))
        change wpAnyH _ _ _ _ _ _ _ (Act.put _ (some 17) _) _; simp only [Act.put, List.setIfInBounds_toArray, List.set_cons_zero, List.set_cons_succ]
        refine wpAnyH_take (i := 3) (v := ?_) rfl (by kernel_rfl) (by kernel_rfl) (by kernel_rfl) (fun _ _ _ h => h) (Or.inl ⟨by kernel_rfl, ?_⟩) hHeld ?_
        rotate_left 1; focus (intro w hSw; (try dsimp only at hSw); (try go_split_ands); go_simp; all_goals (first | done | with_reducible rfl))
        change wpAnyH _ _ _ _ _ _ _ (Act.put _ (some 18) _) _; simp only [Act.put, List.setIfInBounds_toArray, List.set_cons_zero, List.set_cons_succ]
        refine wpAnyH_ready (rs := [1, 4]) (by kernel_rfl) (by simp) ?_
        refine AllReadyH.cons rfl (fun K hK => ?_) ?_
        · skip
          obtain ⟨z0, z1⟩ := cells2 K2d.out.p
          go_simp
          refine hK.out _ _ ?_ (fun hHeld => ?_)
          · exact trivial
          clear hK K
          clear z0 z1
          (try simp only [Act.put, List.setIfInBounds_toArray, List.set_cons_zero, List.set_cons_succ])
          refine wpAnyH_ready (rs := [4]) (by kernel_rfl) (by simp) ?_
          refine AllReadyH.cons rfl (fun K hK => ?_) AllReadyH.nil
          go_simp
          refine (CL.out V0 K2d.out.r).mono ?_
          rintro e w3 (⟨l, r3, sl, hv, rfl, hr3, hg3, ho3⟩ | ⟨hv, rfl, hg3⟩)
          rotate_left
          · exact ⟨rfl, .inr ⟨by rw [HF.out, HX2.out, hv]; rfl, rfl, grown_trans K2d.out.g hg3⟩⟩
          obtain ⟨hl1, hl2, -⟩ := lineF_is hv
          have hr3l : r3.length ≤ rest.length := by
            have := congrArg List.length hl1
            rw [List.length_append] at this
            omega
          have K3 : Hid (MX w w3 q r3 k (.slice sa m sc) X.flatten) := K2d.out.call HQ.out hg3 hr3
          have HLL : Hid (l.length = k) := hl2
          rw [hl2] at ho3
          rcases own_kinds ho3 with ⟨_, e0⟩ | ⟨g3, c3, e3, -, -⟩
          · omega
          subst e3
          have O3 : Hid (w3.ownsRow V0.heap.size 2 1 (.slice (some ⟨g3, 0, none⟩) k c3) k (l.map (Value.int .i64))) := ho3
          have HV : Hid (lineF wTimes k rest = some (l, r3)) := hv
          clear hv hr3 hg3 ho3 hl1 hl2
          (try go_wp2_with fail)
          refine hK.out _ _ ?_ (fun hHeld => ?_)
          · exact trivial
          clear hK K
          (try simp only [Act.put, List.setIfInBounds_toArray, List.set_cons_zero, List.set_cons_succ])
          refine wpAnyH_ready (rs := [5]) (by kernel_rfl) (by simp) ?_
          refine AllReadyH.cons rfl (fun K hK => ?_) AllReadyH.nil
          refine step_append_vals Tryd.underlying24 infoI9 (by rfl) (by omega) rfl (.tmp 16) (.tmp 19) rfl (w.heap.size + 2) (.slice sa m sc) m (X.flatten.map (Value.int .i64)) rfl (by have := K3.out.o; rw [HM.out] at this; exact this) g3 0 k c3 (l.map (Value.int .i64)) rfl (by rw [List.length_map, HLL.out]; omega) (own_src O3.out) (by intro u hu; obtain ⟨x, -, rfl⟩ := List.mem_map.1 hu; rfl) (by omega) (by omega) K3.out.size ?_
          intro v' w6 ho hg hbk hz
          rcases own_kinds ho with ⟨_, e0⟩ | ⟨g6, c6, e6, -, -⟩
          · omega
          subst e6
          have K6 : Hid (MX w (w6.setCell ⟨w.heap.size + 1, 1, none⟩ (.slice (some ⟨g6, 0, none⟩) (m + k) c6)) q r3 k (.slice (some ⟨g6, 0, none⟩) (m + k) c6) (X.flatten ++ l)) := K3.out.more HQ.out hg (by
            rw [List.map_append, List.length_append, HM.out, HLL.out]
            exact ho)
          have P6 := grown_row hg K3.out.p (fun e => by have := (K3.out.o.lt _ e.symm).1; omega)
          have f6 := fun i => frozen_of_row _ _ i _ _ P6
          obtain ⟨x6, y6⟩ := cells2 P6
          clear ho hg hbk hz
          refine hK.out _ _ ?_ (fun hHeld => ?_)
          · exact trivial
          clear hK K
          change wpAnyH _ _ _ _ _ _ _ (Act.put _ (some 20) _) _
          (try simp only [Act.put, List.setIfInBounds_toArray, List.set_cons_zero, List.set_cons_succ])
          refine wpAnyH_take (i := 6) (v := ?_) rfl (by kernel_rfl) (by kernel_rfl) (by kernel_rfl) (fun _ _ _ h => h) (Or.inl ⟨by kernel_rfl, ?_⟩) hHeld ?_
          rotate_left 1; focus (intro w hSw; (try dsimp only at hSw); (try go_split_ands); go_simp; all_goals (first | done | with_reducible rfl))
          change wpAnyH _ _ _ _ _ _ _ (Act.put _ (some 21) _) _; simp only [Act.put, List.setIfInBounds_toArray, List.set_cons_zero, List.set_cons_succ]
          refine wpAnyH_ready (rs := [7]) (by kernel_rfl) (by simp) ?_
          refine AllReadyH.cons rfl (fun K hK => ?_) AllReadyH.nil
          go_simp
          refine hK.out _ _ ?_ (fun hHeld => ?_)
          · exact trivial
          clear hK K
          (try simp only [Act.put, List.setIfInBounds_toArray, List.set_cons_zero, List.set_cons_succ])
          refine wpAnyH_done (by kernel_rfl) ?_ _
          have HF3 : Hid (lnsF wTimes k k s = ppl (X ++ [l]) (lnsF wTimes k (k - (i + 1)) r3)) := by
            show _ = _
            rw [HX2.out, HV.out, ppl_snoc]
          have hfl : (X ++ [l]).flatten = X.flatten ++ l := by simp
          generalize w6.setCell ⟨w.heap.size + 1, 1, none⟩ (.slice (some ⟨g6, 0, none⟩) (m + k) c6) = W6 at *
          go_wp2_with fail
          go_roundw
          case rel => exact ⟨i + 1, X ++ [l], r3, _, by omega, by first | rfl | go_num, by rw [List.length_append, HXN.out]; rfl, by rw [hfl, List.length_append, HM.out, HLL.out, Nat.add_mul, HXL.out]; omega, by omega, HF3.out, by rw [hfl]; exact K6.out⟩
          case measure => simp [intOf]; omega
        refine AllReadyH.cons rfl (fun K hK => ?_) AllReadyH.nil
        go_simp
        refine (CL.out V0 K2d.out.r).mono ?_
        rintro e w3 (⟨l, r3, sl, hv, rfl, hr3, hg3, ho3⟩ | ⟨hv, rfl, hg3⟩)
        rotate_left
        · exact ⟨rfl, .inr ⟨by rw [HF.out, HX2.out, hv]; rfl, rfl, grown_trans K2d.out.g hg3⟩⟩
        obtain ⟨hl1, hl2, -⟩ := lineF_is hv
        have hr3l : r3.length ≤ rest.length := by
          have := congrArg List.length hl1
          rw [List.length_append] at this
          omega
        have K3 : Hid (MX w w3 q r3 k (.slice sa m sc) X.flatten) := K2d.out.call HQ.out hg3 hr3
        have HLL : Hid (l.length = k) := hl2
        rw [hl2] at ho3
        rcases own_kinds ho3 with ⟨_, e0⟩ | ⟨g3, c3, e3, -, -⟩
        · omega
        subst e3
        have O3 : Hid (w3.ownsRow V0.heap.size 2 1 (.slice (some ⟨g3, 0, none⟩) k c3) k (l.map (Value.int .i64))) := ho3
        have HV : Hid (lineF wTimes k rest = some (l, r3)) := hv
        clear hv hr3 hg3 ho3 hl1 hl2
        (try go_wp2_with fail)
        refine hK.out _ _ ?_ (fun hHeld => ?_)
        · exact trivial
        clear hK K
        (try simp only [Act.put, List.setIfInBounds_toArray, List.set_cons_zero, List.set_cons_succ])
        refine wpAnyH_ready (rs := [1]) (by kernel_rfl) (by simp) ?_
        refine AllReadyH.cons rfl (fun K hK => ?_) AllReadyH.nil
        obtain ⟨z0, z1⟩ := cells2 K3.out.p
        go_simp
        refine hK.out _ _ ?_ (fun hHeld => ?_)
        · exact trivial
        clear hK K
        clear z0 z1
        (try simp only [Act.put, List.setIfInBounds_toArray, List.set_cons_zero, List.set_cons_succ])
        refine wpAnyH_ready (rs := [5]) (by kernel_rfl) (by simp) ?_
        refine AllReadyH.cons rfl (fun K hK => ?_) AllReadyH.nil
        refine step_append_vals Tryd.underlying24 infoI9 (by rfl) (by omega) rfl (.tmp 16) (.tmp 19) rfl (w.heap.size + 2) (.slice sa m sc) m (X.flatten.map (Value.int .i64)) rfl (by have := K3.out.o; rw [HM.out] at this; exact this) g3 0 k c3 (l.map (Value.int .i64)) rfl (by rw [List.length_map, HLL.out]; omega) (own_src O3.out) (by intro u hu; obtain ⟨x, -, rfl⟩ := List.mem_map.1 hu; rfl) (by omega) (by omega) K3.out.size ?_
        intro v' w6 ho hg hbk hz
        rcases own_kinds ho with ⟨_, e0⟩ | ⟨g6, c6, e6, -, -⟩
        · omega
        subst e6
        have K6 : Hid (MX w (w6.setCell ⟨w.heap.size + 1, 1, none⟩ (.slice (some ⟨g6, 0, none⟩) (m + k) c6)) q r3 k (.slice (some ⟨g6, 0, none⟩) (m + k) c6) (X.flatten ++ l)) := K3.out.more HQ.out hg (by
          rw [List.map_append, List.length_append, HM.out, HLL.out]
          exact ho)
        have P6 := grown_row hg K3.out.p (fun e => by have := (K3.out.o.lt _ e.symm).1; omega)
        have f6 := fun i => frozen_of_row _ _ i _ _ P6
        obtain ⟨x6, y6⟩ := cells2 P6
        clear ho hg hbk hz
        refine hK.out _ _ ?_ (fun hHeld => ?_)
        · exact trivial
        clear hK K
        change wpAnyH _ _ _ _ _ _ _ (Act.put _ (some 20) _) _
        (try simp only [Act.put, List.setIfInBounds_toArray, List.set_cons_zero, List.set_cons_succ])
        refine wpAnyH_take (i := 6) (v := ?_) rfl (by kernel_rfl) (by kernel_rfl) (by kernel_rfl) (fun _ _ _ h => h) (Or.inl ⟨by kernel_rfl, ?_⟩) hHeld ?_
        rotate_left 1; focus (intro w hSw; (try dsimp only at hSw); (try go_split_ands); go_simp; all_goals (first | done | with_reducible rfl))
        change wpAnyH _ _ _ _ _ _ _ (Act.put _ (some 21) _) _; simp only [Act.put, List.setIfInBounds_toArray, List.set_cons_zero, List.set_cons_succ]
        refine wpAnyH_ready (rs := [7]) (by kernel_rfl) (by simp) ?_
        refine AllReadyH.cons rfl (fun K hK => ?_) AllReadyH.nil
        go_simp
        refine hK.out _ _ ?_ (fun hHeld => ?_)
        · exact trivial
        clear hK K
        (try simp only [Act.put, List.setIfInBounds_toArray, List.set_cons_zero, List.set_cons_succ])
        refine wpAnyH_done (by kernel_rfl) ?_ _
        have HF3 : Hid (lnsF wTimes k k s = ppl (X ++ [l]) (lnsF wTimes k (k - (i + 1)) r3)) := by
          show _ = _
          rw [HX2.out, HV.out, ppl_snoc]
        have hfl : (X ++ [l]).flatten = X.flatten ++ l := by simp
        generalize w6.setCell ⟨w.heap.size + 1, 1, none⟩ (.slice (some ⟨g6, 0, none⟩) (m + k) c6) = W6 at *
        go_wp2_with fail
        go_roundw
        case rel => exact ⟨i + 1, X ++ [l], r3, _, by omega, by first | rfl | go_num, by rw [List.length_append, HXN.out]; rfl, by rw [hfl, List.length_append, HM.out, HLL.out, Nat.add_mul, HXL.out]; omega, by omega, HF3.out, by rw [hfl]; exact K6.out⟩
        case measure => simp [intOf]; omega
      · have hltI : ¬ ((i : Int) < (k : Int)) := by omega
        have HX2 : Hid (matF k s = some (X, rest)) := by
          show _ = _
          rw [HF.out, HX.out, show k - i = 0 by omega, lnsF_zero]
          simp [ppl]
        clear HX
        obtain ⟨c0, c1⟩ := cells2 KW.out.p
        obtain ⟨z0, z1⟩ := cells2 KW.out.z
        have zf := fun i => frozen_of_row _ _ i _ _ KW.out.z
        have K3 : Hid (MX w wr q rest k (.slice sa m sc) X.flatten) := KW.out
        go_wp2
        refine bodyPost_ret (v := .agg #[.int .i64 (k : Int), .slice sa m sc]) (by simp [results, Tryd.results37, go_sem, z0, z1]) rfl ?_
        refine .inl ⟨X, rest, _, HX2.out, rfl, ?_, ?_, ?_⟩
        · refine RX.grown (RX.grown K3.out.r (grown_set _ _ _ _) ?_) (grown_set _ _ _ _) ?_ <;> (have := HQ.out; simp; omega)
        · refine grown_ownR (grown_ownR K3.out.g (grown_set _ _ _ _) ?_) (grown_set _ _ _ _) ?_ <;> (intro g e; simp at e; omega)
        · exact owns_set (owns_set K3.out.o (by omega)) (by omega)

end Go.Proofs.YtaofpbmdloihgaaDoor

namespace Go.Proofs.YtaofpbmdloihgaaDoor
open Go.RowKit

theorem infoO6 : (Tryd.prog.info? 45).map (fun i => (i.zero, i.size, i.bytes)) = some (some (.agg #[Value.int IntKind.i64 0, Value.int IntKind.i64 0, Value.int IntKind.i64 0, Value.int IntKind.i64 0, Value.int IntKind.i64 0, Value.int IntKind.i64 0]), 6, 48) := by kernel_rfl
theorem infoV5 : (Tryd.prog.info? 47).map (fun i => (i.zero, i.size, i.bytes)) = some (some (.agg #[Value.int IntKind.i64 0, Value.int IntKind.i64 0, Value.int IntKind.i64 0, Value.int IntKind.i64 0, Value.int IntKind.i64 0]), 5, 40) := by kernel_rfl
theorem whileF_end (w : List UInt8) (k m : Nat) (s : List UInt8) (h : (w ++ [32]).isPrefixOf s = false) : whileF w k m s = some ([], s) := by
  cases m <;> simp [whileF, h]
theorem whileF_full (w : List UInt8) (k : Nat) (s : List UInt8) (h : (w ++ [32]).isPrefixOf s = true) : whileF w k 0 s = none := by simp [whileF, h]
theorem whileF_one (w : List UInt8) (k m : Nat) (s : List UInt8) (h : (w ++ [32]).isPrefixOf s = true) : whileF w k (m + 1) s = match lineF w k s with
    | none => none
    | some (l, r) => match whileF w k m r with | none => none | some (X, r2) => some (l :: X, r2) := by
  rw [whileF, if_pos h]; rfl
theorem own_othC {w : World} {base size n k : Nat} {e T : TypeId} {v : Value} {xs : List Value} {cs : Array Value} {q : Nat × Nat} (h : w.ownsRow base e size v n xs) (hr : w.heap[k]? = some (.cells cs T q)) (hT : T ≠ e) : v.ownBlock ≠ some k := fun he => by
  rcases h.2 with ⟨rfl, _⟩ | ⟨g, c, cur, rfl, _, hg, _⟩
  · cases he
  · simp [Value.ownBlock] at he
    rw [he, hr] at hg
    simp at hg
    exact hT hg.2.1
theorem own_rowC {W W' : World} {base size n : Nat} {e : TypeId} {v : Value} {xs : List Value} {row : Option Nat} (h : W.ownsRow base e size v n xs) (hg : W.grownBy W' row) (hne : ∀ k, row = some k → v.ownBlock ≠ some k) : W'.ownsRow base e size v n xs := by
  refine h.kept hg ?_
  cases hr : row with
  | none => cases hv : v.ownBlock with | none => exact .inl rfl | some _ => right; simp
  | some k => exact .inr (hne k hr)
theorem own_twoC {W : World} {b1 b2 s1 s2 n1 n2 : Nat} {e1 e2 : TypeId} {v1 v2 : Value} {x1 x2 : List Value} (h1 : W.ownsRow b1 e1 s1 v1 n1 x1) (h2 : W.ownsRow b2 e2 s2 v2 n2 x2) (hT : e1 ≠ e2) : ∀ k, v1.ownBlock = some k → v2.ownBlock ≠ some k := fun k e => by
  rcases h1.2 with ⟨rfl, _⟩ | ⟨g, c, cur, rfl, _, hg, _⟩
  · cases e
  · simp [Value.ownBlock] at e
    subst e
    exact own_othC h2 hg hT
theorem own_intsC {w : World} {base size n c : Nat} {e : TypeId} {a : Option Addr} {l : List Int} (h : w.ownsRow base e size (.slice a n c) n (l.map (Value.int .i64))) : IntsAt w a l := fun j hj => by
  rcases h.2 with ⟨e1, e2⟩ | ⟨g, cap, cur, e1, _⟩
  · have := h.1
    rw [e2, List.length_map] at this
    omega
  · simp only [Value.slice.injEq] at e1
    obtain ⟨rfl, -, -⟩ := e1
    have h9 := h.cells (g := g) rfl j (.int .i64 (l.getD j 0)) (by
      rw [List.getElem?_map, List.getElem?_eq_getElem hj, List.getD_eq_getElem?_getD, List.getElem?_eq_getElem hj]
      rfl)
    rw [add_plain] at h9
    exact ⟨g, 0, rfl, h9⟩
/-- While a case is read. -/
structure CX (w W : World) (q : Nat) (rest : List UInt8) (kb : Nat) (n f : Int) (zl ol vl : Value) (zs : List Int) (Y Z : List (List Int)) : Prop where
  g : w.grownBy W (some q)
  r : RX W q rest
  z : W.heap[w.heap.size]? = some (.cells #[.int .i64 0, .slice none 0 0, .slice none 0 0, .slice none 0 0, .int .i64 0] 30 (0, 0))
  p : W.heap[kb]? = some (.cells #[.int .i64 n, zl, ol, vl, .int .i64 f] 30 (0, 0))
  kk : w.heap.size < kb
  oz : W.ownsRow (w.heap.size + 1) 2 1 zl zs.length (zs.map (Value.int .i64))
  oo : W.ownsRow (w.heap.size + 1) 45 6 ol Y.length (Y.flatten.map (Value.int .i64))
  ov : W.ownsRow (w.heap.size + 1) 47 5 vl Z.length (Z.flatten.map (Value.int .i64))
theorem CX.size {w W : World} {q : Nat} {rest : List UInt8} {kb : Nat} {n f : Int} {zl ol vl : Value} {zs : List Int} {Y Z : List (List Int)} (h : CX w W q rest kb n f zl ol vl zs Y Z) : w.heap.size + 1 ≤ W.heap.size := row_lt h.z
theorem CX.call {w W W' : World} {q : Nat} {rest rest' : List UInt8} {kb : Nat} {n f : Int} {zl ol vl : Value} {zs : List Int} {Y Z : List (List Int)} (h : CX w W q rest kb n f zl ol vl zs Y Z) (hq : q < w.heap.size) (hg : W.grownBy W' (some q)) (hr : RX W' q rest') : CX w W' q rest' kb n f zl ol vl zs Y Z :=
  have hk := h.kk
  ⟨grown_trans h.g hg, hr, grown_row hg h.z (by simp; omega), grown_row hg h.p (by simp; omega), h.kk, own_kept h.oz hg (by omega), own_kept h.oo hg (by omega), own_kept h.ov hg (by omega)⟩
theorem CX.below {w W W' : World} {q : Nat} {rest : List UInt8} {kb : Nat} {n f : Int} {zl ol vl : Value} {zs : List Int} {Y Z : List (List Int)} (h : CX w W q rest kb n f zl ol vl zs Y Z) (hb : Below W.heap.size W W') : CX w W' q rest kb n f zl ol vl zs Y Z :=
  ⟨grown_ownR h.g (⟨hb.os, hb.tape, hb.output, hb.size, fun j hj _ => hb.block j hj⟩ : W.grownBy W' none) (fun _ e => by cases e), below_row hb (row_lt h.r) h.r, below_row hb (row_lt h.z) h.z, below_row hb (row_lt h.p) h.p, h.kk, owns_below h.oz hb, owns_below h.oo hb, owns_below h.ov hb⟩
theorem CX.moreO {w W W' : World} {q : Nat} {rest : List UInt8} {kb : Nat} {n f : Int} {zl ol vl v' : Value} {zs l : List Int} {Y Z : List (List Int)} (h : CX w W q rest kb n f zl ol vl zs Y Z) (hq : q < w.heap.size)
    (hg : W.grownBy W' ol.ownBlock) (ho : W'.ownsRow (w.heap.size + 1) 45 6 v' (Y.length + 1) ((Y.flatten ++ l).map (Value.int .i64))) : CX w (W'.setCell ⟨kb, 2, none⟩ v') q rest kb n f zl v' vl zs (Y ++ [l]) Z := by
  have hk := h.kk
  have hob : ∀ g, ol.ownBlock = some g → w.heap.size + 1 ≤ g := fun g e => (h.oo.lt g e).1
  have hn : ∀ k, k < w.heap.size + 1 → some k ≠ ol.ownBlock := fun k hk e => by have := hob k e.symm; omega
  have hkb : some kb ≠ ol.ownBlock := fun e => own_othC h.oo h.p (by decide) e.symm
  have P' := grown_row hg h.p hkb
  have Z' := own_rowC h.oz hg (own_twoC h.oo h.oz (by decide))
  have V' := own_rowC h.ov hg (own_twoC h.oo h.ov (by decide))
  have st : ∀ {base size m : Nat} {e : TypeId} {v : Value} {xs : List Value}, W'.ownsRow base e size v m xs → 30 ≠ e → (W'.setCell ⟨kb, 2, none⟩ v').ownsRow base e size v m xs := fun {base size m e v xs} h9 hT => own_rowC h9 (grown_set _ _ _ _) (fun k e => by cases e; exact own_othC h9 P' hT)
  refine ⟨grown_ownR (grown_ownR h.g hg (fun g e => by have := hob g e; omega)) (grown_set _ _ _ _) (fun g e => by simp at e; omega), ?_, set_rowM (grown_row hg h.z (hn _ (by omega))) (by omega), heap_setCell_same _ _ _ _ _ _ P', h.kk, st Z' (by decide), ?_, st V' (by decide)⟩
  · exact RX.grown (h.r.grown hg (hn q (by omega))) (grown_set _ _ _ _) (by simp; omega)
  · have e1 : (Y ++ [l]).length = Y.length + 1 := by simp
    have e2 : (Y ++ [l]).flatten = Y.flatten ++ l := by simp
    rw [e1, e2]
    exact st ho (by decide)
theorem CX.moreV {w W W' : World} {q : Nat} {rest : List UInt8} {kb : Nat} {n f : Int} {zl ol vl v' : Value} {zs l : List Int} {Y Z : List (List Int)} (h : CX w W q rest kb n f zl ol vl zs Y Z) (hq : q < w.heap.size)
    (hg : W.grownBy W' vl.ownBlock) (ho : W'.ownsRow (w.heap.size + 1) 47 5 v' (Z.length + 1) ((Z.flatten ++ l).map (Value.int .i64))) : CX w (W'.setCell ⟨kb, 3, none⟩ v') q rest kb n f zl ol v' zs Y (Z ++ [l]) := by
  have hk := h.kk
  have hob : ∀ g, vl.ownBlock = some g → w.heap.size + 1 ≤ g := fun g e => (h.ov.lt g e).1
  have hn : ∀ k, k < w.heap.size + 1 → some k ≠ vl.ownBlock := fun k hk e => by have := hob k e.symm; omega
  have hkb : some kb ≠ vl.ownBlock := fun e => own_othC h.ov h.p (by decide) e.symm
  have P' := grown_row hg h.p hkb
  have Z' := own_rowC h.oz hg (own_twoC h.ov h.oz (by decide))
  have O' := own_rowC h.oo hg (own_twoC h.ov h.oo (by decide))
  have st : ∀ {base size m : Nat} {e : TypeId} {v : Value} {xs : List Value}, W'.ownsRow base e size v m xs → 30 ≠ e → (W'.setCell ⟨kb, 3, none⟩ v').ownsRow base e size v m xs := fun {base size m e v xs} h9 hT => own_rowC h9 (grown_set _ _ _ _) (fun k e => by cases e; exact own_othC h9 P' hT)
  refine ⟨grown_ownR (grown_ownR h.g hg (fun g e => by have := hob g e; omega)) (grown_set _ _ _ _) (fun g e => by simp at e; omega), ?_, set_rowM (grown_row hg h.z (hn _ (by omega))) (by omega), heap_setCell_same _ _ _ _ _ _ P', h.kk, st Z' (by decide), st O' (by decide), ?_⟩
  · exact RX.grown (h.r.grown hg (hn q (by omega))) (grown_set _ _ _ _) (by simp; omega)
  · have e1 : (Z ++ [l]).length = Z.length + 1 := by simp
    have e2 : (Z ++ [l]).flatten = Z.flatten ++ l := by simp
    rw [e1, e2]
    exact st ho (by decide)
theorem CX.box {w W : World} {q : Nat} {rest : List UInt8} {kb : Nat} {n f : Int} {zl ol vl : Value} {zs : List Int} {Y Z : List (List Int)} (h : CX w W q rest kb n f zl ol vl zs Y Z) :
    W.cell? ⟨kb, 0, none⟩ = some (.int .i64 n) ∧ W.cell? ⟨kb, 1, none⟩ = some zl ∧ W.cell? ⟨kb, 2, none⟩ = some ol ∧ W.cell? ⟨kb, 3, none⟩ = some vl ∧ W.cell? ⟨kb, 4, none⟩ = some (.int .i64 f) := by
  refine ⟨?_, ?_, ?_, ?_, ?_⟩ <;> (rw [cell_of_row _ _ _ _ _ _ h.p]; rfl)

end Go.Proofs.YtaofpbmdloihgaaDoor

namespace Go.Proofs.YtaofpbmdloihgaaDoor
open Go.RowKit

theorem infoTx : (Tryd.prog.info? 9).map (fun i => (i.zero, i.size, i.bytes)) = some (some (Value.string ⟨#[]⟩), 1, 16) := by kernel_rfl
def strs (l : List (List UInt8)) : List Value := l.map fun x => Value.string (txt x)
theorem strs_snoc (l : List (List UInt8)) (x : List UInt8) : strs (l ++ [x]) = strs l ++ [.string (txt x)] := by simp [strs]
theorem strs_len (l : List (List UInt8)) : (strs l).length = l.length := by simp [strs]
theorem txt_nil (r : List UInt8) : (txt r).toList.isEmpty = decide (r = []) := by
  have e0 : (txt []).toList = [] := by
    unfold ByteArray.toList
    unfold ByteArray.toList.loop
    simp [txt_size]
  by_cases h : r = []
  · subst h
    rw [e0]
    rfl
  · rw [decide_eq_false h]
    have := str_ne (f := txt r) (t := txt []) (fun e => h (txt_inj e))
    rw [e0] at this
    cases hl : (txt r).toList with
    | nil => rw [hl] at this; cases this
    | cons x l => rfl
theorem take_bt (s : List UInt8) (k : Nat) (h : k < s.length) : s.take (k + 1) = s.take k ++ [bt s k] := by
  unfold bt
  rw [List.take_add_one, List.getD_eq_getElem?_getD, List.getElem?_eq_getElem h]
  simp
theorem txt_one (s : List UInt8) (k : Nat) (h : k < s.length) : (txt s).extract k (k + 1) = txt [bt s k] := by
  apply ByteArray.ext
  unfold bt
  rw [List.getD_eq_getElem?_getD, List.getElem?_eq_getElem h]
  simp [txt]
  rw [List.drop_eq_getElem_cons h, List.take_succ_cons, List.take_zero]
theorem one_new (w : World) (x : Value) (T : TypeId) : ∀ (j : Nat) (u : Value), [x][j]? = some u → (w.alloc (.cells #[x] T)).cell? ⟨w.heap.size, 0 + j, none⟩ = some u := fun j u hj => by
  rw [cell_of_row _ _ _ _ _ _ (heap_alloc_new w (.cells #[x] T)), Nat.zero_add]
  match j, hj with
  | 0, hj => simpa using hj

theorem own_sl9 {w : World} {base size n : Nat} {e : TypeId} {v : Value} {xs : List Value} (h : w.ownsRow base e size v n xs) : ∃ a c, v = .slice a n c ∧ ∀ g, v.ownBlock = some g → base ≤ g := by
  obtain ⟨_, ⟨rfl, rfl⟩ | ⟨g, c, cur, rfl, hb, _⟩⟩ := h
  · exact ⟨none, 0, rfl, fun g e => by simp [Value.ownBlock] at e⟩
  · exact ⟨some ⟨g, 0, none⟩, c, rfl, fun g' e => by simp [Value.ownBlock] at e; omega⟩

set_option maxHeartbeats 2000000 in
theorem l2Lines_any (s : List UInt8) (w : World) (hs : s.length ≤ 1048576) :
    Calls Tryd.prog 25 #[.string (txt s)] w fun e w' => ∃ sl, e = .returned (.tuple #[sl, .bool (decide ((sepF 10 s).2 = []))]) ∧ Below w.heap.size w w' ∧ w'.ownsRow w.heap.size 9 1 sl (sepF 10 s).1.length (strs (sepF 10 s).1) := by
  have HS : Hid ((txt s).size = s.length) := txt_size s
  obtain ⟨a, HA⟩ : ∃ a, Hid (txt s = a) := ⟨_, rfl⟩
  obtain ⟨n, HN⟩ : ∃ n, Hid (s.length = n) := ⟨_, rfl⟩
  rw [HA.out]
  rw [HA.out, HN.out] at HS
  rw [HN.out] at hs
  have hn : a.size = n := HS.out
  obtain ⟨O9, H9⟩ : ∃ o, Hid (sepF 10 s = o) := ⟨_, rfl⟩
  rw [H9.out]
  have B0 : Hid (Below w.heap.size w (w.alloc (.cells #[] 9))) := (Below.refl _ _).alloc (Nat.le_refl _) _
  have W0 : Hid ((w.alloc (.cells #[] 9)).ownsRow w.heap.size 9 1 (.slice (some ⟨w.heap.size, 0, none⟩) 0 0) 0 (strs [])) := World.ownsRow_made w #[] 0 (Nat.le_refl _) (by unfold maxLen; omega) (by simp)
  go_enter Tryd.func25, Tryd.ntmps25
  go_wp2_with fail
  go_loopw [4, 5, 6] (fun to tl ti wr => ∃ (k : Nat) (o : List (List UInt8)) (l : List UInt8), k ≤ n ∧ ti = .int .i64 k ∧ sepF 10 (s.take k) = (o, l) ∧ tl = .string (txt l) ∧ Below w.heap.size w wr ∧ wr.ownsRow w.heap.size 9 1 to o.length (strs o)) (fun _ _ ti _ => n - (intOf ti).toNat)
  case atStart => exact ⟨0, [], [], Nat.zero_le _, rfl, rfl, rfl, B0.out, W0.out⟩
  case round =>
    clear B0 W0
    obtain ⟨k, o, l, hk, rfl, hsep, rfl, hb, ho⟩ := hrel
    have HSEP : Hid (sepF 10 (s.take k) = (o, l)) := hsep
    have hlen : o.length ≤ k ∧ l.length ≤ k := by
      have := sep_len (p := 10) (s.take k) [] []
      have e : (s.take k).foldl (sepS 10) ([], []) = (o, l) := hsep
      rw [e, List.length_take] at this
      simp at this
      omega
    obtain ⟨hol, hll⟩ := hlen
    have BW : Hid (Below w.heap.size w wr) := hb
    have OW : Hid (wr.ownsRow w.heap.size 9 1 u4 o.length (strs o)) := ho
    clear hsep hb ho
    obtain ⟨sa, sc, e, -⟩ := own_sl9 OW.out
    subst e
    obtain ⟨m, HM⟩ : ∃ m, Hid (o.length = m) := ⟨_, rfl⟩
    rw [HM.out] at hol OW ⊢
    have hls : (txt l).size ≤ n := by rw [txt_size]; omega
    by_cases hlt : k < n
    · have hltI : (k : Int) < (n : Int) := by omega
      have hka : k < a.size := by rw [hn]; exact hlt
      have hix : ((a[k]'hka).toNat : Int) = ((bt s k).toNat : Int) := by
        have e := HA.out
        subst e
        rw [txt_idx]
      have HT1 : Hid (sepF 10 (s.take (k + 1)) = sepS 10 (o, l) (bt s k)) := by
        show _ = _
        rw [take_bt s k (by rw [HN.out]; exact hlt), sepF_snoc, HSEP.out]
      have hex : a.extract k (k + 1) = txt [bt s k] := by rw [← HA.out]; exact txt_one s k (by rw [HN.out]; exact hlt)
      obtain ⟨x, HXX⟩ : ∃ x : Nat, Hid ((bt s k).toNat = x) := ⟨_, rfl⟩
      rw [HXX.out] at hix
      by_cases h10 : bt s k = 10
      · have hx10 : ((x : Int) == 10) = true := by
          have : x = 10 := by rw [← HXX.out, h10]; rfl
          subst this
          rfl
        have HT2 : Hid (sepF 10 (s.take (k + 1)) = (o ++ [l], [])) := by show _ = _; rw [HT1.out]; simp [sepS, h10]
        clear hex HT1 h10
        go_wp2_with (
          at_builtin
          refine append_vals Tryd.underlying55 infoTx rfl (by decide) _ rfl _ _ rfl w.heap.size _ m (strs o) rfl (OW.out.alloc _) wr.heap.size 0 1 1 [.string (txt l)] rfl rfl (one_new wr _ _) (by simp [Value.oneCell']) (by omega) (by omega) (Nat.le_trans BW.out.size (by simp)) ?_
          intro v' w4 ho4 hg4 hb4 hz4
          have B4 : Hid (Below w.heap.size w w4) := (BW.out.alloc BW.out.size _).grown hg4 (Nat.le_trans BW.out.size (by simp)) (fun g e => (OW.out.lt g e).1)
          have O4 : Hid (w4.ownsRow w.heap.size 9 1 v' (m + 1) (strs (o ++ [l]))) := by rw [strs_snoc]; exact ho4
          clear ho4 hg4 hb4 hz4)
        go_roundw
        case rel => exact ⟨k + 1, o ++ [l], [], by omega, by go_num, HT2.out, rfl, B4.out, by rw [List.length_append, HM.out]; exact O4.out⟩
        case measure => simp [intOf]; omega
      · have hx10 : ((x : Int) == 10) = false := by
          have : ¬ (x = 10) := fun e => h10 (by rw [← UInt8.toNat_inj, HXX.out, e]; rfl)
          simp
          omega
        have HT2 : Hid (sepF 10 (s.take (k + 1)) = (o, l ++ [bt s k])) := by show _ = _; rw [HT1.out]; simp [sepS, h10]
        have HTX : Hid (txt (l ++ [bt s k]) = txt l ++ txt [bt s k]) := by show _ = _; rw [txt_app]
        have h1s : (txt [bt s k]).size = 1 := by rw [txt_size]; rfl
        generalize txt [bt s k] = t1 at *
        generalize txt l = t0 at *
        clear HT1 h10
        have hw1 : IntKind.i64.wrap ((k : Int) + 1) = (k : Int) + 1 := by rw [IntKind.wrap_i64]; omega
        go_wp2_with fail
        go_roundw
        case rel => exact ⟨k + 1, o, l ++ [bt s k], by omega, by go_num, HT2.out, by rw [HTX.out], BW.out, by rw [HM.out]; exact OW.out⟩
        case measure => simp [intOf]; omega
    · have hkn : k = n := by omega
      have HE : Hid (O9 = (o, l)) := by show _ = _; rw [← H9.out, ← HSEP.out, hkn, ← HN.out, List.take_length]
      have hnl : ¬ ((k : Int) < (n : Int)) := by omega
      have HNIL : Hid ((txt l).toList.isEmpty = decide (l = [])) := txt_nil l
      clear hkn
      obtain ⟨bb, HBB⟩ : ∃ b, Hid (decide (l = []) = b) := ⟨_, rfl⟩
      rw [HBB.out] at HNIL
      have hnil := HNIL.out
      generalize txt l = t0 at *
      go_wp2
      go_ret2
      refine ⟨.slice sa m sc, ?_, BW.out, ?_⟩
      · rw [HE.out]
        show _ = Ending.returned (.tuple #[.slice sa m sc, .bool (decide (l = []))])
        rw [HBB.out]
        rfl
      · rw [HE.out]
        simp only
        rw [HM.out]
        exact OW.out

end Go.Proofs.YtaofpbmdloihgaaDoor

namespace Go.Proofs.YtaofpbmdloihgaaDoor
open Go.RowKit

theorem own_oth9 {w : World} {base size n k : Nat} {e T : TypeId} {v : Value} {xs : List Value} {cs : Array Value} {q : Nat × Nat} (h : w.ownsRow base e size v n xs) (hr : w.heap[k]? = some (.cells cs T q)) (hT : T ≠ e) : v.ownBlock ≠ some k := fun he => by
  rcases h.2 with ⟨rfl, _⟩ | ⟨g, c, cur, rfl, _, hg, _⟩
  · cases he
  · simp [Value.ownBlock] at he
    rw [he, hr] at hg
    simp at hg
    exact hT hg.2.1
/-- What is owned of one type is kept where what is owned of another type grows. -/
theorem own_two {w w' : World} {b1 b2 s1 s2 n1 n2 : Nat} {e1 e2 : TypeId} {v1 v2 : Value} {x1 x2 : List Value} (h1 : w.ownsRow b1 e1 s1 v1 n1 x1) (h2 : w.ownsRow b2 e2 s2 v2 n2 x2) (hg : w.grownBy w' v2.ownBlock) (hT : e2 ≠ e1) : w'.ownsRow b1 e1 s1 v1 n1 x1 := by
  refine h1.kept hg ?_
  cases hr : v2.ownBlock with
  | none => cases hv : v1.ownBlock with | none => exact .inl rfl | some _ => right; simp
  | some g =>
    right
    obtain ⟨_, ⟨hz, _⟩ | ⟨g', c, cur, e, _, hrow, _⟩⟩ := h2
    · rw [hz] at hr; cases hr
    · rw [e] at hr
      simp [Value.ownBlock] at hr
      subst hr
      exact own_oth9 h1 hrow hT
theorem intsF_snoc : ∀ (xs : List (List UInt8)) (x : List UInt8), intsF (xs ++ [x]) = match intsF xs with | none => none | some l => match intF x with | none => none | some n => some (l ++ [(n : Int)])
  | [], x => by
    simp only [List.nil_append, intsF]
    cases intF x <;> rfl
  | y :: xs, x => by
    simp only [List.cons_append, intsF]
    rw [intsF_snoc xs x]
    cases intF y with
    | none => rfl
    | some n =>
      simp only
      cases intsF xs with
      | none => rfl
      | some l =>
        simp only
        cases intF x <;> rfl
theorem intsF_bad : ∀ (xs : List (List UInt8)) (j : Nat), j < xs.length → intF (xs.getD j []) = none → intsF xs = none
  | [], j, h, _ => by simp at h
  | y :: xs, 0, _, h => by
    have : intF y = none := by simpa using h
    simp [intsF, this]
  | y :: xs, j + 1, hl, h => by
    have := intsF_bad xs j (by simpa using hl) (by simpa using h)
    simp only [intsF, this]
    cases intF y <;> rfl
theorem getD_snoc_take (xs : List (List UInt8)) (j : Nat) (h : j < xs.length) : xs.take (j + 1) = xs.take j ++ [xs.getD j []] := by
  rw [List.take_add_one, List.getD_eq_getElem?_getD, List.getElem?_eq_getElem h]
  simp
theorem strs_at (xs : List (List UInt8)) (j : Nat) (h : j < xs.length) : (strs xs)[j]? = some (.string (txt (xs.getD j []))) := by
  unfold strs
  rw [List.getElem?_map, List.getD_eq_getElem?_getD, List.getElem?_eq_getElem h]
  rfl
theorem strs_set (o : List (List UInt8)) (l x : List UInt8) : (strs (o ++ [l])).set o.length (.string (txt x)) = strs (o ++ [x]) := by
  simp [strs]
theorem sep_word {p : UInt8} : ∀ (s : List UInt8) (o : List (List UInt8)) (l : List UInt8) (b : Nat), (∀ x ∈ o, x.length ≤ b) → l.length + s.length ≤ b → ∀ x ∈ (s.foldl (sepS p) (o, l)).1, x.length ≤ b
  | [], o, l, b, h, _ => h
  | c :: s, o, l, b, h, hl => by
    rw [List.foldl_cons]
    simp only [List.length_cons] at hl
    by_cases hc : c = p
    · have e : sepS p (o, l) c = (o ++ [l], []) := by simp [sepS, hc]
      rw [e]
      refine sep_word s _ _ b (fun x hx => ?_) (by simp; omega)
      rcases List.mem_append.1 hx with hx | hx
      · exact h x hx
      · rw [List.mem_singleton] at hx; subst hx; omega
    · have e : sepS p (o, l) c = (o, l ++ [c]) := by simp [sepS, hc]
      rw [e]
      exact sep_word s _ _ b h (by simp; omega)

/-- What l2Cut answers: the word and the numbers of the call's own, and true; or nothing. -/
def CutOk (w : World) (s : List UInt8) (e : Ending) (w' : World) : Prop :=
  (∃ wd l sl, cutF s = some (wd, l) ∧ e = .returned (.tuple #[.string (txt wd), sl, .bool true]) ∧ Below w.heap.size w w' ∧ w'.ownsRow w.heap.size 2 1 sl l.length (l.map (Value.int .i64)) ∧ sl ≠ .slice none 0 0) ∨ (cutF s = none ∧ e = .returned (.tuple #[.string ⟨#[]⟩, .slice none 0 0, .bool false]) ∧ Below w.heap.size w w')

set_option maxHeartbeats 4000000 in
set_option maxRecDepth 10000 in
theorem l2Cut_any (s : List UInt8) (w : World) (hs : s.length ≤ 1048576) :
    Calls Tryd.prog 26 #[.string (txt s)] w (CutOk w s) := by
  have HS : Hid ((txt s).size = s.length) := txt_size s
  obtain ⟨a, HA⟩ : ∃ a, Hid (txt s = a) := ⟨_, rfl⟩
  obtain ⟨n, HN⟩ : ∃ n, Hid (s.length = n) := ⟨_, rfl⟩
  rw [HA.out]
  rw [HA.out, HN.out] at HS
  rw [HN.out] at hs
  have hn : a.size = n := HS.out
  have B0 : Hid (Below w.heap.size w (w.alloc (.cells #[.string ⟨#[]⟩] 9))) := (Below.refl _ _).alloc (Nat.le_refl _) _
  have W0 : Hid ((w.alloc (.cells #[.string ⟨#[]⟩] 9)).ownsRow w.heap.size 9 1 (.slice (some ⟨w.heap.size, 0, none⟩) 1 1) 1 (strs [[]])) :=
    ⟨by simp [strs], .inr ⟨w.heap.size, 1, #[.string ⟨#[]⟩], rfl, Nat.le_refl _, heap_alloc_new _ _, by omega, by unfold maxLen; omega, by simp, by simp [strs, txt]⟩⟩
  go_enter Tryd.func26, Tryd.ntmps26
  go_wp2_with fail
  go_loopw [5, 6] (fun to ti wr => ∃ (k : Nat) (o : List (List UInt8)) (l : List UInt8), k ≤ n ∧ ti = .int .i64 k ∧ sepF 32 (s.take k) = (o, l) ∧ Below w.heap.size w wr ∧ wr.ownsRow w.heap.size 9 1 to (o.length + 1) (strs (o ++ [l]))) (fun _ ti _ => n - (intOf ti).toNat)
  case atStart => exact ⟨0, [], [], Nat.zero_le _, rfl, rfl, B0.out, W0.out⟩
  case round =>
    clear B0 W0
    obtain ⟨k, o, l, hk, rfl, hsep, hb, ho⟩ := hrel
    have HSEP : Hid (sepF 32 (s.take k) = (o, l)) := hsep
    have hlen : o.length ≤ k ∧ l.length ≤ k := by
      have := sep_len (p := 32) (s.take k) [] []
      have e : (s.take k).foldl (sepS 32) ([], []) = (o, l) := hsep
      rw [e, List.length_take] at this
      simp at this
      omega
    obtain ⟨hol, hll⟩ := hlen
    have BW : Hid (Below w.heap.size w wr) := hb
    obtain ⟨m, HM⟩ : ∃ m, Hid (o.length = m) := ⟨_, rfl⟩
    rw [HM.out] at hol ho
    rcases own_kinds ho with ⟨_, h0⟩ | ⟨g, c, e, -, -⟩
    · omega
    subst e
    have OW : Hid (wr.ownsRow w.heap.size 9 1 (.slice (some ⟨g, 0, none⟩) (m + 1) c) (m + 1) (strs (o ++ [l]))) := ho
    clear hsep hb ho
    by_cases hlt : k < n
    · have hltI : (k : Int) < (n : Int) := by omega
      have hka : k < a.size := by rw [hn]; exact hlt
      have hix : ((a[k]'hka).toNat : Int) = ((bt s k).toNat : Int) := by
        have e := HA.out
        subst e
        rw [txt_idx]
      have HT1 : Hid (sepF 32 (s.take (k + 1)) = sepS 32 (o, l) (bt s k)) := by
        show _ = _
        rw [take_bt s k (by rw [HN.out]; exact hlt), sepF_snoc, HSEP.out]
      have hex : a.extract k (k + 1) = txt [bt s k] := by rw [← HA.out]; exact txt_one s k (by rw [HN.out]; exact hlt)
      obtain ⟨x, HXX⟩ : ∃ x : Nat, Hid ((bt s k).toNat = x) := ⟨_, rfl⟩
      rw [HXX.out] at hix
      by_cases h32 : bt s k = 32
      · have hx32 : ((x : Int) == 32) = true := by
          have : x = 32 := by rw [← HXX.out, h32]; rfl
          subst this
          rfl
        have HT2 : Hid (sepF 32 (s.take (k + 1)) = (o ++ [l], [])) := by show _ = _; rw [HT1.out]; simp [sepS, h32]
        clear hex HT1 h32
        go_wp2_with (
          at_builtin
          refine append_vals Tryd.underlying55 infoTx rfl (by decide) _ rfl _ _ rfl w.heap.size _ (m + 1) (strs (o ++ [l])) rfl (OW.out.alloc _) wr.heap.size 0 1 1 [.string ⟨#[]⟩] rfl rfl (one_new wr _ _) (by simp [Value.oneCell']) (by omega) (by omega) (Nat.le_trans BW.out.size (by simp)) ?_
          intro v' w4 ho4 hg4 hb4 hz4
          have B4 : Hid (Below w.heap.size w w4) := (BW.out.alloc BW.out.size _).grown hg4 (Nat.le_trans BW.out.size (by simp)) (fun g e => (OW.out.lt g e).1)
          have O4 : Hid (w4.ownsRow w.heap.size 9 1 v' (m + 1 + 1) (strs (o ++ [l] ++ [[]]))) := by rw [strs_snoc (o ++ [l])]; exact ho4
          clear ho4 hg4 hb4 hz4)
        go_roundw
        case rel => exact ⟨k + 1, o ++ [l], [], by omega, by go_num, HT2.out, B4.out, by rw [List.length_append, HM.out]; exact O4.out⟩
        case measure => simp [intOf]; omega
      · have hx32 : ((x : Int) == 32) = false := by
          have : ¬ (x = 32) := fun e => h32 (by rw [← UInt8.toNat_inj, HXX.out, e]; rfl)
          simp
          omega
        have HT2 : Hid (sepF 32 (s.take (k + 1)) = (o, l ++ [bt s k])) := by show _ = _; rw [HT1.out]; simp [sepS, h32]
        have HTX : Hid (txt l ++ txt [bt s k] = txt (l ++ [bt s k])) := by show _ = _; rw [txt_app]
        have h1s : (txt [bt s k]).size = 1 := by rw [txt_size]; rfl
        have hls : (txt l).size ≤ n := by rw [txt_size]; omega
        obtain ⟨c0, f0⟩ := own_cellV (k := m) OW.out (by rw [← HM.out]; simp [strs]; rfl)
        have OP : Hid (∀ v, v = txt (l ++ [bt s k]) → (wr.setCell ⟨g, m, none⟩ (.string v)).ownsRow w.heap.size 9 1 (.slice (some ⟨g, 0, none⟩) (m + 1) c) (m + 1) (strs (o ++ [l ++ [bt s k]]))) := fun v hv => by
          have := own_putV (k := m) (.string v) OW.out
          rw [hv] at this ⊢
          rw [← strs_set o l, HM.out]
          exact this
        have hgb : w.heap.size ≤ g := (OW.out.lt g rfl).1
        generalize txt (l ++ [bt s k]) = t2 at *
        generalize txt [bt s k] = t1 at *
        generalize txt l = t0 at *
        clear HT1 h32
        have hw1 : IntKind.i64.wrap ((k : Int) + 1) = (k : Int) + 1 := by rw [IntKind.wrap_i64]; omega
        have hw2 : IntKind.i64.wrap (((m + 1 : Nat) : Int) - 1) = (m : Int) := by rw [IntKind.wrap_i64]; omega
        have hmI : (m : Int) < ((m + 1 : Nat) : Int) := by omega
        have hs1 : ¬ (9223372036854775807 < t0.size + t1.size) := by omega
        go_wp2_with fail
        have c0d : wr.drew.cell? ⟨g, m, none⟩ = some (.string t0) := c0
        have f0d : wr.drew.frozen? ⟨g, m, none⟩ = false := f0
        go_region
        have O2 : Hid ((wr.setCell ⟨g, m, none⟩ (.string (t0 ++ t1))).drew.ownsRow w.heap.size 9 1 (.slice (some ⟨g, 0, none⟩) (m + 1) c) (m + 1) (strs (o ++ [l ++ [bt s k]]))) := owns_below (OP.out _ HTX.out) (Below.refl _ _).drew
        have B2 : Hid (Below w.heap.size w (wr.setCell ⟨g, m, none⟩ (.string (t0 ++ t1))).drew) := (Below.setCell BW.out (by simpa using hgb) _).drew
        clear c0 f0 c0d f0d OP
        generalize (wr.setCell ⟨g, m, none⟩ (.string (t0 ++ t1))).drew = W2 at *
        go_wp2_with fail
        go_roundw
        case rel => exact ⟨k + 1, o, l ++ [bt s k], by omega, by go_num, HT2.out, B2.out, by rw [HM.out]; exact O2.out⟩
        case measure => simp [intOf]; omega
    · have hkn : k = n := by omega
      have HE : Hid (sepF 32 s = (o, l)) := by show _ = _; rw [← HSEP.out, hkn, ← HN.out, List.take_length]
      have hnl : ¬ ((k : Int) < (n : Int)) := by omega
      obtain ⟨w0, ws, HW⟩ : ∃ w0 ws, Hid (o ++ [l] = w0 :: ws) := by
        cases o with
        | nil => exact ⟨l, [], rfl⟩
        | cons y o => exact ⟨y, o ++ [l], rfl⟩
      have HCF : Hid (cutF s = match intsF ws with | none => none | some l => some (w0, l)) := by
        show _ = _
        unfold cutF
        rw [HE.out]
        simp only
        rw [HW.out]
        rfl
      have HWL : Hid (ws.length = m) := by
        have := congrArg List.length HW.out
        simp only [List.length_append, List.length_cons, List.length_nil, HM.out] at this
        show _ = _
        omega
      have HSZ : Hid (∀ x ∈ w0 :: ws, x.length ≤ 1048576) := fun x hx => by
        rw [← HW.out] at hx
        rcases List.mem_append.1 hx with hx | hx
        · have := sep_word (p := 32) s [] [] s.length (fun x hx => by simp at hx) (by simp) x
          have e : s.foldl (sepS 32) ([], []) = (o, l) := HE.out
          rw [e] at this
          have := this hx
          rw [HN.out] at this
          omega
        · rw [List.mem_singleton] at hx
          subst hx
          omega
      rw [HW.out] at OW
      have hm1 : m + 1 ≤ 1048577 := by omega
      clear hkn HSEP
      have BZ : Hid (Below w.heap.size w (wr.alloc (.cells #[] 2))) := BW.out.alloc BW.out.size _
      have OZ : Hid ((wr.alloc (.cells #[] 2)).ownsRow w.heap.size 9 1 (.slice (some ⟨g, 0, none⟩) (m + 1) c) (m + 1) (strs (w0 :: ws))) := OW.out.alloc _
      have IZ : Hid ((wr.alloc (.cells #[] 2)).ownsRow w.heap.size 2 1 (.slice (some ⟨wr.heap.size, 0, none⟩) 0 0) 0 (([] : List Int).map (Value.int .i64))) := World.ownsRow_made wr #[] 0 BW.out.size (by unfold maxLen; omega) (by simp)
      go_wp2_with fail
      generalize wr.alloc (.cells #[] 2) = WZ at *
      go_loopw [8, 9] (fun to ti wr => ∃ (j : Nat) (ns : List Int), j ≤ m ∧ ti = .int .i64 ((j + 1 : Nat) : Int) ∧ intsF (ws.take j) = some ns ∧ ns.length = j ∧ Below w.heap.size w wr ∧ wr.ownsRow w.heap.size 9 1 (.slice (some ⟨g, 0, none⟩) (m + 1) c) (m + 1) (strs (w0 :: ws)) ∧ wr.ownsRow w.heap.size 2 1 to j (ns.map (Value.int .i64)) ∧ to ≠ .slice none 0 0) (fun _ ti _ => m + 2 - (intOf ti).toNat)
      case atStart => exact ⟨0, [], Nat.zero_le _, rfl, rfl, rfl, BZ.out, OZ.out, IZ.out, by simp⟩
      case round =>
        clear BZ OZ IZ BW OW
        obtain ⟨j, ns, hj, rfl, hin, hnl2, hb, how, hoi, hnn⟩ := hrel
        have HIN : Hid (intsF (ws.take j) = some ns) := hin
        have BW : Hid (Below w.heap.size w wr) := hb
        have OW : Hid (wr.ownsRow w.heap.size 9 1 (.slice (some ⟨g, 0, none⟩) (m + 1) c) (m + 1) (strs (w0 :: ws))) := how
        obtain ⟨sa, sc, e, -⟩ := own_sl9 hoi
        subst e
        have HNN : Hid ((.slice sa j sc : Value) ≠ .slice none 0 0) := hnn
        have OI : Hid (wr.ownsRow w.heap.size 2 1 (.slice sa j sc) j (ns.map (Value.int .i64))) := hoi
        clear hin hb how hoi hnn
        by_cases hjm : j < m
        · have hjI : ((j + 1 : Nat) : Int) < ((m + 1 : Nat) : Int) := by omega
          have hjw : j < ws.length := by rw [HWL.out]; exact hjm
          have hcx := (own_cellV (k := j + 1) OW.out (strs_at (w0 :: ws) (j + 1) (by simp; omega))).1
          rw [show (w0 :: ws).getD (j + 1) [] = ws.getD j [] by simp] at hcx
          have hxl : (ws.getD j []).length ≤ 1048576 := HSZ.out _ (by
            rw [List.getD_eq_getElem?_getD, List.getElem?_eq_getElem hjw]
            simp)
          have HTK : Hid (intsF (ws.take (j + 1)) = match intF (ws.getD j []) with | none => none | some n => some (ns ++ [(n : Int)])) := by
            show _ = _
            rw [getD_snoc_take ws j hjw, intsF_snoc, HIN.out]
          have HBD : Hid (intF (ws.getD j []) = none → intsF ws = none) := intsF_bad ws j hjw
          have C := l1Int_any (ws.getD j []) wr (by omega)
          generalize ws.getD j [] = xw at *
          clear hjw
          go_wp2_with fail
          refine C.mono ?_
          rintro e w3 ⟨rfl, ⟨v, hv, rfl⟩ | ⟨hv, rfl⟩⟩
          · have HTK2 : Hid (intsF (ws.take (j + 1)) = some (ns ++ [(v : Int)])) := by show _ = _; rw [HTK.out, hv]
            clear hv HTK HBD C hcx
            go_wp2_with (
              at_builtin
              refine append_vals Tryd.underlying24 Tryd.info2 rfl (by decide) _ rfl _ _ rfl w.heap.size (.slice sa j sc) j (ns.map (Value.int .i64)) rfl (OI.out.alloc _) w3.heap.size 0 1 1 [.int .i64 v] rfl rfl (one_new w3 _ _) (by simp [Value.oneCell']) (by omega) (by omega) (Nat.le_trans BW.out.size (by simp)) ?_
              intro v' w4 ho4 hg4 hb4 hz4
              have B4 : Hid (Below w.heap.size w w4) := (BW.out.alloc BW.out.size _).grown hg4 (Nat.le_trans BW.out.size (by simp)) (fun g e => (OI.out.lt g e).1)
              have O4 : Hid (w4.ownsRow w.heap.size 9 1 (.slice (some ⟨g, 0, none⟩) (m + 1) c) (m + 1) (strs (w0 :: ws))) := own_two (OW.out.alloc _) (OI.out.alloc _) hg4 (by decide)
              have I4 : Hid (w4.ownsRow w.heap.size 2 1 v' (j + 1) ((ns ++ [(v : Int)]).map (Value.int .i64))) := by rw [List.map_append]; exact ho4
              have N4 : Hid (v' ≠ .slice none 0 0) := fun e => HNN.out (hz4.1 e).1
              clear ho4 hg4 hb4 hz4)
            go_roundw
            case rel => exact ⟨j + 1, ns ++ [(v : Int)], by omega, by go_num, HTK2.out, by rw [List.length_append, hnl2]; rfl, B4.out, O4.out, I4.out, N4.out⟩
            case measure => simp [intOf]; omega
          · have HF : Hid (cutF s = none) := by show _ = _; rw [HCF.out, HBD.out hv]
            clear hv HTK HBD C hcx
            go_wp2
            refine bodyPost_ret (v := .tuple #[.string ⟨#[]⟩, .slice none 0 0, .bool false]) (by simp [results, Tryd.results26, go_sem]) rfl ?_
            exact .inr ⟨HF.out, rfl, BW.out⟩
        · have hjm2 : j = m := by omega
          have HF : Hid (cutF s = some (w0, ns)) := by
            show _ = _
            have := HIN.out
            rw [hjm2, ← HWL.out, List.take_length] at this
            rw [HCF.out, this]
          have hjI : ¬ (((j + 1 : Nat) : Int) < ((m + 1 : Nat) : Int)) := by omega
          have hcx := (own_cellV (k := 0) OW.out (strs_at (w0 :: ws) 0 (by simp))).1
          rw [show (w0 :: ws).getD 0 [] = w0 from rfl] at hcx
          clear hjm2
          go_wp2
          refine bodyPost_ret (v := .tuple #[.string (txt w0), .slice sa j sc, .bool true]) (by simp [results, Tryd.results26, go_sem]) rfl ?_
          exact .inl ⟨w0, ns, _, HF.out, rfl, BW.out, by rw [hnl2]; exact OI.out, HNN.out⟩

end Go.Proofs.YtaofpbmdloihgaaDoor
