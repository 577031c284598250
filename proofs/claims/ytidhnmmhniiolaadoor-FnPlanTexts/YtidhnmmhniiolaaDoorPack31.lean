import Derived.Test.YtidhnmmhniiolaaDoorPack1
import Derived.Test.YtidhnmmhniiolaaDoorPack8
import Derived.Test.YtidhnmmhniiolaaDoorPack9
import Derived.Test.YtidhnmmhniiolaaDoorPack10
import Derived.Test.YtidhnmmhniiolaaDoorPack29
import Derived.Test.YtidhnmmhniiolaaDoorPack30
namespace Go.Proofs.YtidhnmmhniiolaaDoor
open Go.RowKit

theorem grown_ownR {w0 w1 w2 : World} {q : Nat} {row : Option Nat} (h : w0.grownBy w1 (some q)) (hg : w1.grownBy w2 row) (hr : ∀ g, row = some g → w0.heap.size ≤ g) : w0.grownBy w2 (some q) :=
  ⟨hg.os.trans h.os, hg.tape.trans h.tape, hg.output.trans h.output, Nat.le_trans h.size hg.size, fun k hk hne => by
    rw [hg.block k (Nat.lt_of_lt_of_le hk h.size) (fun e => by have := hr k e.symm; omega)]
    exact h.block k hk hne⟩
theorem RX.grown {w w' : World} {q : Nat} {s : List UInt8} {row : Option Nat} (h : RX w q s) (hg : w.grownBy w' row) (hr : some q ≠ row) : RX w' q s := by
  unfold RX at *
  rw [hg.block q (row_lt h) hr]
  exact h
theorem RX.alloc {w : World} {q : Nat} {s : List UInt8} (h : RX w q s) (o : Obj) : RX (w.alloc o) q s := (heap_alloc_old _ _ (row_lt h)).trans h
theorem grown_allocR {w0 w1 : World} {q : Nat} (h : w0.grownBy w1 (some q)) (o : Obj) : w0.grownBy (w1.alloc o) (some q) :=
  grown_ownR h (World.grownBy_alloc w1 o none) (fun _ e => by cases e)

theorem idF_num {s : List UInt8} : idF s = match numF s with | none => none | some (n, r) => if inB n 1 1000000000 = true then some ((n : Int), r) else none := rfl

set_option maxHeartbeats 1000000 in
theorem id_any (q : Nat) (s : List UInt8) (w : World) (h : RX w q s) (hs : s.length ≤ 1000000000) :
    Calls Tryd.prog 50 #[.pointer (some ⟨q, 0, none⟩)] w fun e w' => (∃ v r, idF s = some (v, r) ∧ e = .returned (.int .i64 v) ∧ RX w' q r ∧ w.grownBy w' (some q)) ∨ (idF s = none ∧ e = .panicked GV ∧ w.grownBy w' (some q)) := by
  have C := number_any q s w h hs
  go_enter Tryd.func50, Tryd.ntmps50
  go_wp2_with fail
  refine C.mono ?_
  rintro e w1 (⟨n, r, hn, rfl, hr, hg⟩ | ⟨hn, rfl, rfl⟩)
  · have HG : Hid (w.grownBy w1 (some q)) := hg
    have HR : Hid (RX w1 q r) := hr
    clear hg hr C
    have C2 := within_any (n : Int) 1 1000000000 w1
    cases h1 : inB (n : Int) 1 1000000000
    · have HF : Hid (idF s = none) := by show _ = _; rw [idF_num, hn]; simp [h1]
      rw [h1] at C2
      clear h1 hn
      go_wp2_with (first | (go_at_call 40; refine C2.mono ?_; rintro e w' ⟨rfl, rfl⟩) | (go_at_call 47; refine (must_no _ _).mono ?_; rintro e w' ⟨rfl, rfl⟩))
      exact ⟨rfl, .inr ⟨HF.out, rfl, HG.out⟩⟩
    · have HF : Hid (idF s = some ((n : Int), r)) := by show _ = _; rw [idF_num, hn]; simp [h1]
      rw [h1] at C2
      clear h1 hn
      go_wp2_with (first | (go_at_call 40; refine C2.mono ?_; rintro e w' ⟨rfl, rfl⟩) | (go_at_call 47; refine (must_yes _ _).mono ?_; rintro e w' ⟨rfl, rfl⟩))
      go_ret
      exact .inl ⟨n, r, HF.out, rfl, HR.out, HG.out⟩
  · have HF : Hid (idF s = none) := by show _ = _; rw [idF_num, hn]
    exact ⟨rfl, .inr ⟨HF.out, rfl, grown_refl _ _⟩⟩

theorem idsF_blank (k : Nat) (t : List UInt8) : idsF (k + 1) (32 :: t) = match idF t with | none => none | some (v, r) => (match idsF k r with | none => none | some (l, r2) => some (v :: l, r2)) := by
  simp only [idsF, if_pos, idF]
  cases numF t with
  | none => rfl
  | some q =>
    obtain ⟨n, r⟩ := q
    simp only
    split <;> rfl
theorem idsF_full (t : List UInt8) : idsF 0 (32 :: t) = none := by simp [idsF]
theorem idsF_end (k : Nat) (s : List UInt8) (h : List.isPrefixOf [32] s = false) : idsF k s = if List.isPrefixOf [10] s = true then some ([], s.drop 1) else none := by
  cases s with
  | nil => cases k <;> simp [idsF]
  | cons c s =>
    have hc : ¬ c = 32 := fun e => by subst e; simp at h
    by_cases h10 : c = 10
    · subst h10
      cases k <;> simp [idsF]
    · have : ¬ (10 : UInt8) = c := fun e => h10 e.symm
      cases k <;> simp [idsF, hc, h10, this]
/-- What is read behind what was read. -/
def ppd (acc : List Int) (o : Option (List Int × List UInt8)) : Option (List Int × List UInt8) := match o with | none => none | some (l, r) => some (acc ++ l, r)
theorem ppd_snoc (acc : List Int) (v : Int) (k : Nat) (r : List UInt8) : ppd (acc ++ [v]) (idsF k r) = ppd acc (match idsF k r with | none => none | some (l, r2) => some (v :: l, r2)) := by
  unfold ppd
  cases idsF k r with
  | none => rfl
  | some q => obtain ⟨l, r2⟩ := q; simp
theorem blank_is {s : List UInt8} (h : List.isPrefixOf [32] s = true) : s = 32 :: s.drop 1 := by
  have := prefix_is h
  simpa using this

def slLen : Value → Nat
  | .slice _ n _ => n
  | _ => 0
theorem own_sl {w : World} {base size n : Nat} {e : TypeId} {v : Value} {xs : List Value} (h : w.ownsRow base e size v n xs) : ∃ a c, v = .slice a n c ∧ ∀ g, v.ownBlock = some g → base ≤ g := by
  obtain ⟨_, ⟨rfl, rfl⟩ | ⟨g, c, cur, rfl, hb, _⟩⟩ := h
  · exact ⟨none, 0, rfl, fun g e => by simp [Value.ownBlock] at e⟩
  · exact ⟨some ⟨g, 0, none⟩, c, rfl, fun g' e => by simp [Value.ownBlock] at e; omega⟩
theorem own_kept {w w' : World} {base size n q : Nat} {e : TypeId} {v : Value} {xs : List Value} (h : w.ownsRow base e size v n xs) (hg : w.grownBy w' (some q)) (hq : q < base) : w'.ownsRow base e size v n xs := by
  obtain ⟨_, _, _, hb⟩ := own_sl h
  refine h.kept hg ?_
  cases hv : v.ownBlock with
  | none => exact .inl rfl
  | some g => right; intro e; simp at e; have := hb g hv; omega

set_option maxHeartbeats 2000000 in
theorem ids_any (q : Nat) (s : List UInt8) (w : World) (h : RX w q s) (hs : s.length ≤ 1000000000) :
    Calls Tryd.prog 51 #[.pointer (some ⟨q, 0, none⟩)] w fun e w' => (∃ ids r sl, idsF 12 s = some (ids, r) ∧ e = .returned sl ∧ RX w' q r ∧ w.grownBy w' (some q) ∧ w'.ownsRow w.heap.size 2 1 sl ids.length (ids.map (Value.int .i64))) ∨ (idsF 12 s = none ∧ e = .panicked GV ∧ w.grownBy w' (some q)) := by
  have HQ : Hid (q < w.heap.size) := row_lt h
  have HR : Hid (RX w q s) := h
  have HO : Hid (w.ownsRow w.heap.size 2 1 (.slice none 0 0) 0 (([] : List Int).map (Value.int .i64))) := ⟨by simp, .inl ⟨rfl, rfl⟩⟩
  clear h
  go_enter Tryd.func51, Tryd.ntmps51
  go_wp2_with fail
  go_loopw [3] (fun t wr => ∃ (acc : List Int) (rest : List UInt8), acc.length ≤ 12 ∧ rest.length ≤ s.length ∧ rest.length + acc.length ≤ s.length ∧ idsF 12 s = ppd acc (idsF (12 - acc.length) rest) ∧ RX wr q rest ∧ w.grownBy wr (some q) ∧ wr.ownsRow w.heap.size 2 1 t acc.length (acc.map (Value.int .i64))) (fun t _ => 13 - slLen t)
  case atStart => exact ⟨[], s, by simp, Nat.le_refl _, by simp, by simp [ppd]; cases idsF 12 s <;> rfl, HR.out, grown_refl _ _, HO.out⟩
  case round =>
    clear HR HO
    obtain ⟨acc, rest, ha, hrl, hrl2, hi, hr, hg, ho⟩ := hrel
    obtain ⟨sa, sc, e, hob⟩ := own_sl ho
    subst e
    have HI : Hid (idsF 12 s = ppd acc (idsF (12 - acc.length) rest)) := hi
    have HR : Hid (RX wr q rest) := hr
    have HG : Hid (w.grownBy wr (some q)) := hg
    have HO : Hid (wr.ownsRow w.heap.size 2 1 (.slice sa acc.length sc) acc.length (acc.map (Value.int .i64))) := ho
    clear hi hr hg ho hob
    obtain ⟨m, HM⟩ : ∃ m, Hid (acc.length = m) := ⟨_, rfl⟩
    rw [HM.out] at ha hrl2 HI HO ⊢
    have c0 := HR.out.cell
    have HZ : Hid (wr.heap.size ≥ w.heap.size) := HG.out.size
    have C0 := hasPrefix_any rest [32] wr (by omega)
    change Calls Tryd.prog 70 #[.string (txt rest), .string ⟨#[32]⟩] wr _ at C0
    cases h32 : List.isPrefixOf [32] rest
    · rw [h32] at C0
      have HE : Hid (idsF 12 s = ppd acc (if List.isPrefixOf [10] rest = true then some ([], rest.drop 1) else none)) := by show _ = _; rw [HI.out, idsF_end _ _ h32]
      clear h32
      cases h10 : List.isPrefixOf [10] rest
      · have C1 := take_no q rest [10] wr HR.out (by omega) h10
        change Calls Tryd.prog 49 #[.pointer (some ⟨q, 0, none⟩), .string ⟨#[10]⟩] wr _ at C1
        have HF : Hid (idsF 12 s = none) := by show _ = _; rw [HE.out, h10]; rfl
        clear h10
        generalize txt rest = a at *
        go_wp2_with (first | (go_at_call 70; refine C0.mono ?_; rintro e w' ⟨rfl, rfl⟩) | (go_at_call 49; refine C1.mono ?_; rintro e w' ⟨rfl, rfl⟩))
        exact ⟨rfl, .inr ⟨HF.out, rfl, HG.out⟩⟩
      · have C1 := take_yes q rest [10] wr HR.out (by omega) h10
        change Calls Tryd.prog 49 #[.pointer (some ⟨q, 0, none⟩), .string ⟨#[10]⟩] wr _ at C1
        have HF : Hid (idsF 12 s = some (acc, rest.drop 1)) := by show _ = _; rw [HE.out, h10]; simp [ppd]
        clear h10
        generalize txt rest = a at *
        go_wp2_with fail
        refine C0.mono ?_
        rintro e w' ⟨rfl, rfl⟩
        go_wp2_with fail
        refine C1.mono ?_
        rintro e w2 ⟨rfl, hr2, hg2⟩
        have R2 : Hid (RX w2 q (rest.drop 1)) := hr2
        have G2 : Hid (w.grownBy w2 (some q)) := grown_trans HG.out hg2
        have O2 : Hid (w2.ownsRow w.heap.size 2 1 (.slice sa m sc) m (acc.map (Value.int .i64))) := own_kept HO.out hg2 HQ.out
        clear hr2 hg2 C0 C1
        go_wp2
        go_ret
        exact .inl ⟨acc, rest.drop 1, .slice sa m sc, HF.out, rfl, R2.out, G2.out, by rw [HM.out]; exact O2.out⟩
    · rw [h32] at C0
      obtain ⟨t, ht⟩ : ∃ t, rest = 32 :: t := ⟨_, blank_is h32⟩
      have htl : t.length + 1 = rest.length := by rw [ht]; simp
      by_cases hm : m < 12
      · have hmI : (m : Int) < 12 := by omega
        have C1 := take_yes q rest [32] wr HR.out (by omega) h32
        change Calls Tryd.prog 49 #[.pointer (some ⟨q, 0, none⟩), .string ⟨#[32]⟩] wr _ at C1
        have ed : rest.drop ([32] : List UInt8).length = t := by rw [ht]; rfl
        rw [ed] at C1
        have HI2 : Hid (idsF 12 s = ppd acc (match idF t with | none => none | some (v, r) => (match idsF (11 - m) r with | none => none | some (l, r2) => some (v :: l, r2)))) := by
          show _ = _
          rw [HI.out, ht, show 12 - m = (11 - m) + 1 by omega, idsF_blank]
        clear h32 ed ht
        generalize txt rest = a at *
        go_wp2_with fail
        refine C0.mono ?_
        rintro e w' ⟨rfl, rfl⟩
        go_wp2_with fail
        with_reducible refine (must_yes _ _).mono ?_
        rintro e w' ⟨rfl, rfl⟩
        go_wp2_with fail
        refine C1.mono ?_
        rintro e w2 ⟨rfl, hr2, hg2⟩
        have R2 : Hid (RX w2 q t) := hr2
        have G2 : Hid (w.grownBy w2 (some q)) := grown_trans HG.out hg2
        have O2 : Hid (w2.ownsRow w.heap.size 2 1 (.slice sa m sc) m (acc.map (Value.int .i64))) := own_kept HO.out hg2 HQ.out
        clear hr2 hg2 C0 C1 HR HG HO c0
        have C2 := id_any q t w2 R2.out (by omega)
        go_wp2_with fail
        refine C2.mono ?_
        rintro e w3 (⟨v, r, hv, rfl, hr3, hg3⟩ | ⟨hv, rfl, hg3⟩)
        · have hvl : r.length ≤ t.length := by
            have := congrArg List.length (idF_is hv).1
            rw [List.length_append] at this
            omega
          have HI3 : Hid (idsF 12 s = ppd (acc ++ [v]) (idsF (12 - (m + 1)) r)) := by
            show _ = _
            rw [HI2.out, hv, show 12 - (m + 1) = 11 - m by omega, ppd_snoc]
          have R3 : Hid (RX w3 q r) := hr3
          have G3 : Hid (w.grownBy w3 (some q)) := grown_trans G2.out hg3
          have O3 : Hid (w3.ownsRow w.heap.size 2 1 (.slice sa m sc) m (acc.map (Value.int .i64))) := own_kept O2.out hg3 HQ.out
          have HZ3 : Hid (w.heap.size ≤ w3.heap.size) := G3.out.size
          clear hv hr3 hg3 C2 R2 G2 O2 HI2
          go_wp2_with (
            at_builtin
            refine append_int _ rfl _ _ rfl w.heap.size (.slice sa m sc) m _ rfl (O3.out.alloc _) ⟨w3.heap.size, 0, none⟩ 1 (.int .i64 v) rfl (cell_new1 _ _ _ _ (by simp)) rfl (by omega) (by have := HZ3.out; simp; omega) ?_
            intro v' w4 ho4 hg4
            have G4 : Hid (w.grownBy w4 (some q)) := grown_ownR (grown_allocR G3.out _) hg4 (fun g e => by obtain ⟨_, _, _, hb⟩ := own_sl O3.out; exact hb g e)
            have R4 : Hid (RX w4 q r) := (R3.out.alloc _).grown hg4 (fun e => by obtain ⟨_, _, _, hb⟩ := own_sl O3.out; have := hb q e.symm; have := HQ.out; omega)
            have O4 : Hid (w4.ownsRow w.heap.size 2 1 v' (m + 1) ((acc ++ [v]).map (Value.int .i64))) := by rw [List.map_append]; exact ho4
            clear hg4 ho4)
          have hlen : (acc ++ [v]).length = m + 1 := by rw [List.length_append, HM.out]; rfl
          obtain ⟨sa4, sc4, e4, -⟩ := own_sl O4.out
          subst e4
          go_roundw
          case rel => exact ⟨acc ++ [v], r, by rw [hlen]; omega, by omega, by rw [hlen]; omega, by rw [hlen]; exact HI3.out, R4.out, G4.out, by rw [hlen]; exact O4.out⟩
          case measure => simp only [slLen]; omega
        · have HF : Hid (idsF 12 s = none) := by show _ = _; rw [HI2.out, hv]; rfl
          exact ⟨rfl, .inr ⟨HF.out, rfl, grown_trans G2.out hg3⟩⟩
      · have hmI : decide ((m : Int) < 12) = false := decide_eq_false (by omega)
        have HF : Hid (idsF 12 s = none) := by
          show _ = _
          rw [HI.out, ht, show 12 - m = 0 by omega, idsF_full]
          rfl
        clear h32 ht
        generalize txt rest = a at *
        go_wp2_with fail
        refine C0.mono ?_
        rintro e w' ⟨rfl, rfl⟩
        go_wp2_with fail
        with_reducible refine (must_no _ _).mono ?_
        rintro e w' ⟨rfl, rfl⟩
        exact ⟨rfl, .inr ⟨HF.out, rfl, HG.out⟩⟩

end Go.Proofs.YtidhnmmhniiolaaDoor

namespace Go.Proofs.YtidhnmmhniiolaaDoor
open Go.RowKit

theorem infoRtR : (Tryd.prog.info? 49).map (fun i => (i.zero, i.size, i.bytes)) = some (some (.agg #[Value.int IntKind.i64 0, Value.slice none 0 0]), 2, 32) := by kernel_rfl
theorem own_othr {w : World} {base size n k : Nat} {e T : TypeId} {v : Value} {xs : List Value} {cs : Array Value} {q : Nat × Nat} (h : w.ownsRow base e size v n xs) (hr : w.heap[k]? = some (.cells cs T q)) (hT : T ≠ e) : v.ownBlock ≠ some k := fun he => by
  rcases h.2 with ⟨rfl, _⟩ | ⟨g, c, cur, rfl, _, hg, _⟩
  · cases he
  · simp [Value.ownBlock] at he
    rw [he, hr] at hg
    simp at hg
    exact hT hg.2.1
theorem set_row {W : World} {g k i : Nat} {o : Obj} {v : Value} (h : W.heap[g]? = some o) (hne : g ≠ k) : (W.setCell ⟨k, i, none⟩ v).heap[g]? = some o := by
  rw [heap_setCell_other _ _ _ _ (by simpa using hne)]; exact h
/-- While a plan is read: the reader, the answer's box, the plan's box and what it owns. -/
structure TK (w W : World) (q : Nat) (rest : List UInt8) (rs : Value) (S : List RT) : Prop where
  g : w.grownBy W (some q)
  r : RX W q rest
  z : W.heap[w.heap.size]? = some (.cells #[.slice none 0 0, .slice none 0 0] 27 (0, 0))
  p : W.heap[w.heap.size + 1]? = some (.cells #[rs, .slice none 0 0] 27 (0, 0))
  o : PO W (w.heap.size + 2) rs S (.slice none 0 0) []
  a : (S.map RT.a).Pairwise (fun x y => x = none ∨ x ≠ y)
theorem TK.size {w W : World} {q : Nat} {rest : List UInt8} {rs : Value} {S : List RT} (h : TK w W q rest rs S) : w.heap.size + 2 ≤ W.heap.size := row_lt h.p
theorem TK.new {w : World} {q : Nat} {s : List UInt8} (h : RX w q s) : TK w ((w.alloc (.cells #[.slice none 0 0, .slice none 0 0] 27)).alloc (.cells #[.slice none 0 0, .slice none 0 0] 27)) q s (.slice none 0 0) [] :=
  ⟨grown_allocR (grown_allocR (grown_refl _ _) _) _, (h.alloc _).alloc _, heap_alloc2_old _ _ _, heap_alloc2_new _ _ _, ⟨⟨by simp [rowR], .inl ⟨rfl, rfl⟩⟩, fun s hs => by simp at hs, ⟨by simp, .inl ⟨rfl, rfl⟩⟩⟩, by simp⟩
/-- A call that changes the reader alone. -/
theorem TK.call {w W W' : World} {q : Nat} {rest rest' : List UInt8} {rs : Value} {S : List RT} (h : TK w W q rest rs S) (hq : q < w.heap.size) (hg : W.grownBy W' (some q)) (hr : RX W' q rest') : TK w W' q rest' rs S :=
  ⟨grown_trans h.g hg, hr, grown_row hg h.z (by simp; omega), grown_row hg h.p (by simp; omega), h.o.other hg (.inl (by omega)), h.a⟩
theorem TK.drew {w W : World} {q : Nat} {rest : List UInt8} {rs : Value} {S : List RT} (h : TK w W q rest rs S) : TK w W.drew q rest rs S :=
  ⟨⟨h.g.os, h.g.tape, h.g.output, h.g.size, h.g.block⟩, h.r, h.z, h.p, h.o.below (Below.refl _ _).drew, h.a⟩
theorem TK.alloc {w W : World} {q : Nat} {rest : List UInt8} {rs : Value} {S : List RT} (h : TK w W q rest rs S) (o : Obj) : TK w (W.alloc o) q rest rs S :=
  ⟨grown_allocR h.g o, h.r.alloc o, (heap_alloc_old _ _ (row_lt h.z)).trans h.z, (heap_alloc_old _ _ (row_lt h.p)).trans h.p, h.o.below ((Below.refl _ _).alloc (Nat.le_refl _) _), h.a⟩
/-- One route more, written back into the plan's box. -/
theorem TK.more {w W W' : World} {q : Nat} {rest : List UInt8} {rs v' : Value} {S : List RT} {x : RT} (h : TK w W q rest rs S) (hq : q < w.heap.size) (hx : W.ownsRow (w.heap.size + 2) 2 1 (.slice x.a x.ids.length x.c) x.ids.length (x.ids.map (Value.int .i64))) (hf : ∀ s ∈ S, s.a = none ∨ s.a ≠ x.a)
    (hg : W.grownBy W' rs.ownBlock) (ho : W'.ownsRow (w.heap.size + 2) 49 2 v' (S.length + 1) (rowR (S ++ [x]))) :
    TK w (W'.setCell ⟨w.heap.size + 1, 0, none⟩ v') q rest v' (S ++ [x]) := by
  have hob : ∀ g, rs.ownBlock = some g → w.heap.size + 2 ≤ g := fun g e => (h.o.r.lt g e).1
  have hn : ∀ k, k < w.heap.size + 2 → some k ≠ rs.ownBlock := fun k hk e => by have := hob k e.symm; omega
  have hgg : ∀ {base n : Nat} {v : Value} {xs : List Value}, W.ownsRow base 2 1 v n xs → W'.ownsRow base 2 1 v n xs := fun {base n v xs} h9 => by
    refine h9.kept hg ?_
    cases hr : rs.ownBlock with
    | none => cases hv : v.ownBlock with | none => exact .inl rfl | some _ => right; simp
    | some g =>
      right
      obtain ⟨_, ⟨hz, _⟩ | ⟨g', c, cur, e, _, hrow, _⟩⟩ := h.o.r
      · rw [hz] at hr; cases hr
      · rw [e] at hr
        simp [Value.ownBlock] at hr
        subst hr
        exact own_othr h9 hrow (by decide)
  refine ⟨grown_ownR (grown_ownR h.g hg (fun g e => by have := hob g e; omega)) (grown_set _ _ _ _) (fun g e => by simp at e; omega), ?_, set_row (grown_row hg h.z (hn _ (by omega))) (by omega), ?_, ⟨?_, fun s hs => ?_, ?_⟩, ?_⟩
  · exact RX.grown (h.r.grown hg (hn q (by omega))) (grown_set _ _ _ _) (by simp; omega)
  · exact heap_setCell_same _ _ _ _ _ _ (grown_row hg h.p (hn _ (by omega)))
  · rw [List.length_append]
    exact owns_set ho (by omega)
  · rcases List.mem_append.1 hs with hs | hs
    · exact owns_set (hgg (h.o.s s hs)) (by omega)
    · rw [List.mem_singleton] at hs
      subst hs
      exact owns_set (hgg hx) (by omega)
  · exact owns_set (hgg h.o.l) (by omega)
  · rw [List.map_append, List.pairwise_append]
    refine ⟨h.a, by simp, fun y hy z hz => ?_⟩
    obtain ⟨s, hs, rfl⟩ := List.mem_map.1 hy
    simp at hz
    subst hz
    exact hf s hs
/-- A row that was made behind others is none of them. -/
theorem fresh_adr {W W' : World} {base n m c : Nat} {sa : Option Addr} {xs : List Value} {S : List RT} (hs : ∀ s ∈ S, W.ownsRow base 2 1 (.slice s.a s.ids.length s.c) s.ids.length (s.ids.map (Value.int .i64))) (ho : W'.ownsRow W.heap.size 2 1 (.slice sa m c) n xs) : ∀ s ∈ S, s.a = none ∨ s.a ≠ sa := fun s h => by
  rcases own_kinds (hs s h) with ⟨e, _⟩ | ⟨g, c1, e, _, hl⟩
  · simp only [Value.slice.injEq] at e
    exact .inl e.1
  · simp only [Value.slice.injEq] at e
    right
    intro e2
    rcases own_kinds ho with ⟨e3, _⟩ | ⟨g3, c3, e3, hb, _⟩
    · simp only [Value.slice.injEq] at e3
      rw [e.1, e3.1] at e2
      cases e2
    · simp only [Value.slice.injEq] at e3
      rw [e.1, e3.1] at e2
      simp only [Option.some.injEq, Addr.mk.injEq, and_true] at e2
      omega
theorem apt_of {S : List RT} {la : Option Addr} (h : (S.map RT.a).Pairwise (fun x y => x = none ∨ x ≠ y)) (hf : ∀ s ∈ S, s.a = none ∨ s.a ≠ la) : Apt S la := by
  refine List.pairwise_cons.2 ⟨fun y hy => ?_, h⟩
  obtain ⟨s, hs, rfl⟩ := List.mem_map.1 hy
  cases la with
  | none => exact .inl rfl
  | some g =>
    right
    rcases hf s hs with h | h
    · rw [h]; simp
    · exact fun e => h e.symm
/-- What is read behind what was read. -/
def ppr (acc : List RT) (o : Option (List RT × List UInt8)) : Option (List RT × List UInt8) := match o with | none => none | some (l, r) => some (acc ++ l, r)
theorem routesF_end (k : Nat) (s : List UInt8) (h : wRouteB.isPrefixOf s = false) : routesF k s = some ([], s) := by
  unfold routesF
  rw [if_neg (by rw [h]; simp)]
theorem routesF_full (s : List UInt8) (h : wRouteB.isPrefixOf s = true) : routesF 0 s = none := by
  unfold routesF
  rw [if_pos h]
theorem routesF_one (k : Nat) (s : List UInt8) (h : wRouteB.isPrefixOf s = true) : routesF (k + 1) s = match idF (s.drop 6) with
        | none => none
        | some (v, r) => match idsF 12 r with
          | none => none
          | some (ids, r2) => match routesF k r2 with
            | none => none
            | some (R, r3) => some (⟨v, none, ids, 0⟩ :: R, r3) := by
  conv => lhs; unfold routesF
  rw [if_pos h]
  rfl
theorem ppr_snoc (acc : List RT) (x : RT) (k : Nat) (r : List UInt8) : ppr (acc ++ [x]) (routesF k r) = ppr acc (match routesF k r with | none => none | some (l, r2) => some (x :: l, r2)) := by
  unfold ppr
  cases routesF k r with
  | none => rfl
  | some q => obtain ⟨l, r2⟩ := q; simp
theorem cells2_at (W : World) (g : Nat) (v0 v1 : Value) (T : TypeId) (h : W.heap[g]? = some (.cells #[v0, v1] T (0, 0))) : ∀ (j : Nat) (u : Value), [v0, v1][j]? = some u → W.cell? ⟨g, 0 + j, none⟩ = some u := fun j u hj => by
  rw [cell_of_row _ _ _ _ _ _ h, Nat.zero_add]
  match j, hj with
  | 0, hj => simpa using hj
  | 1, hj => simpa using hj

end Go.Proofs.YtidhnmmhniiolaaDoor

namespace Go.Proofs.YtidhnmmhniiolaaDoor
open Go.RowKit

theorem infoTx : (Tryd.prog.info? 9).map (fun i => (i.zero, i.size, i.bytes)) = some (some (Value.string ⟨#[]⟩), 1, 16) := by kernel_rfl
def strs (l : List (List UInt8)) : List Value := l.map fun x => Value.string (txt x)
theorem strs_snoc (l : List (List UInt8)) (x : List UInt8) : strs (l ++ [x]) = strs l ++ [.string (txt x)] := by simp [strs]
theorem strs_len (l : List (List UInt8)) : (strs l).length = l.length := by simp [strs]
theorem txt_nil (r : List UInt8) : (txt r).toList.isEmpty = decide (r = []) := by
  have e0 : (txt []).toList = [] := by
    unfold ByteArray.toList
    unfold ByteArray.toList.loop
    simp [txt_size]
  by_cases h : r = []
  · subst h
    rw [e0]
    rfl
  · rw [decide_eq_false h]
    have := str_ne (f := txt r) (t := txt []) (fun e => h (txt_inj e))
    rw [e0] at this
    cases hl : (txt r).toList with
    | nil => rw [hl] at this; cases this
    | cons x l => rfl
theorem take_bt (s : List UInt8) (k : Nat) (h : k < s.length) : s.take (k + 1) = s.take k ++ [bt s k] := by
  unfold bt
  rw [List.take_add_one, List.getD_eq_getElem?_getD, List.getElem?_eq_getElem h]
  simp
theorem txt_one (s : List UInt8) (k : Nat) (h : k < s.length) : (txt s).extract k (k + 1) = txt [bt s k] := by
  apply ByteArray.ext
  unfold bt
  rw [List.getD_eq_getElem?_getD, List.getElem?_eq_getElem h]
  simp [txt]
  rw [List.drop_eq_getElem_cons h, List.take_succ_cons, List.take_zero]
theorem one_new (w : World) (x : Value) (T : TypeId) : ∀ (j : Nat) (u : Value), [x][j]? = some u → (w.alloc (.cells #[x] T)).cell? ⟨w.heap.size, 0 + j, none⟩ = some u := fun j u hj => by
  rw [cell_of_row _ _ _ _ _ _ (heap_alloc_new w (.cells #[x] T)), Nat.zero_add]
  match j, hj with
  | 0, hj => simpa using hj

theorem own_sl9 {w : World} {base size n : Nat} {e : TypeId} {v : Value} {xs : List Value} (h : w.ownsRow base e size v n xs) : ∃ a c, v = .slice a n c ∧ ∀ g, v.ownBlock = some g → base ≤ g := by
  obtain ⟨_, ⟨rfl, rfl⟩ | ⟨g, c, cur, rfl, hb, _⟩⟩ := h
  · exact ⟨none, 0, rfl, fun g e => by simp [Value.ownBlock] at e⟩
  · exact ⟨some ⟨g, 0, none⟩, c, rfl, fun g' e => by simp [Value.ownBlock] at e; omega⟩

set_option maxHeartbeats 2000000 in
theorem l2Lines_any (s : List UInt8) (w : World) (hs : s.length ≤ 1048576) :
    Calls Tryd.prog 27 #[.string (txt s)] w fun e w' => ∃ sl, e = .returned (.tuple #[sl, .bool (decide ((sepF 10 s).2 = []))]) ∧ Below w.heap.size w w' ∧ w'.ownsRow w.heap.size 9 1 sl (sepF 10 s).1.length (strs (sepF 10 s).1) := by
  have HS : Hid ((txt s).size = s.length) := txt_size s
  obtain ⟨a, HA⟩ : ∃ a, Hid (txt s = a) := ⟨_, rfl⟩
  obtain ⟨n, HN⟩ : ∃ n, Hid (s.length = n) := ⟨_, rfl⟩
  rw [HA.out]
  rw [HA.out, HN.out] at HS
  rw [HN.out] at hs
  have hn : a.size = n := HS.out
  obtain ⟨O9, H9⟩ : ∃ o, Hid (sepF 10 s = o) := ⟨_, rfl⟩
  rw [H9.out]
  have B0 : Hid (Below w.heap.size w (w.alloc (.cells #[] 9))) := (Below.refl _ _).alloc (Nat.le_refl _) _
  have W0 : Hid ((w.alloc (.cells #[] 9)).ownsRow w.heap.size 9 1 (.slice (some ⟨w.heap.size, 0, none⟩) 0 0) 0 (strs [])) := World.ownsRow_made w #[] 0 (Nat.le_refl _) (by unfold maxLen; omega) (by simp)
  go_enter Tryd.func27, Tryd.ntmps27
  go_wp2_with fail
  go_loopw [4, 5, 6] (fun to tl ti wr => ∃ (k : Nat) (o : List (List UInt8)) (l : List UInt8), k ≤ n ∧ ti = .int .i64 k ∧ sepF 10 (s.take k) = (o, l) ∧ tl = .string (txt l) ∧ Below w.heap.size w wr ∧ wr.ownsRow w.heap.size 9 1 to o.length (strs o)) (fun _ _ ti _ => n - (intOf ti).toNat)
  case atStart => exact ⟨0, [], [], Nat.zero_le _, rfl, rfl, rfl, B0.out, W0.out⟩
  case round =>
    clear B0 W0
    obtain ⟨k, o, l, hk, rfl, hsep, rfl, hb, ho⟩ := hrel
    have HSEP : Hid (sepF 10 (s.take k) = (o, l)) := hsep
    have hlen : o.length ≤ k ∧ l.length ≤ k := by
      have := sep_len (p := 10) (s.take k) [] []
      have e : (s.take k).foldl (sepS 10) ([], []) = (o, l) := hsep
      rw [e, List.length_take] at this
      simp at this
      omega
    obtain ⟨hol, hll⟩ := hlen
    have BW : Hid (Below w.heap.size w wr) := hb
    have OW : Hid (wr.ownsRow w.heap.size 9 1 u4 o.length (strs o)) := ho
    clear hsep hb ho
    obtain ⟨sa, sc, e, -⟩ := own_sl9 OW.out
    subst e
    obtain ⟨m, HM⟩ : ∃ m, Hid (o.length = m) := ⟨_, rfl⟩
    rw [HM.out] at hol OW ⊢
    have hls : (txt l).size ≤ n := by rw [txt_size]; omega
    by_cases hlt : k < n
    · have hltI : (k : Int) < (n : Int) := by omega
      have hka : k < a.size := by rw [hn]; exact hlt
      have hix : ((a[k]'hka).toNat : Int) = ((bt s k).toNat : Int) := by
        have e := HA.out
        subst e
        rw [txt_idx]
      have HT1 : Hid (sepF 10 (s.take (k + 1)) = sepS 10 (o, l) (bt s k)) := by
        show _ = _
        rw [take_bt s k (by rw [HN.out]; exact hlt), sepF_snoc, HSEP.out]
      have hex : a.extract k (k + 1) = txt [bt s k] := by rw [← HA.out]; exact txt_one s k (by rw [HN.out]; exact hlt)
      obtain ⟨x, HXX⟩ : ∃ x : Nat, Hid ((bt s k).toNat = x) := ⟨_, rfl⟩
      rw [HXX.out] at hix
      by_cases h10 : bt s k = 10
      · have hx10 : ((x : Int) == 10) = true := by
          have : x = 10 := by rw [← HXX.out, h10]; rfl
          subst this
          rfl
        have HT2 : Hid (sepF 10 (s.take (k + 1)) = (o ++ [l], [])) := by show _ = _; rw [HT1.out]; simp [sepS, h10]
        clear hex HT1 h10
        go_wp2_with (
          at_builtin
          refine append_vals Tryd.underlying60 infoTx rfl (by decide) _ rfl _ _ rfl w.heap.size _ m (strs o) rfl (OW.out.alloc _) wr.heap.size 0 1 1 [.string (txt l)] rfl rfl (one_new wr _ _) (by simp [Value.oneCell']) (by omega) (by omega) (Nat.le_trans BW.out.size (by simp)) ?_
          intro v' w4 ho4 hg4 hb4 hz4
          have B4 : Hid (Below w.heap.size w w4) := (BW.out.alloc BW.out.size _).grown hg4 (Nat.le_trans BW.out.size (by simp)) (fun g e => (OW.out.lt g e).1)
          have O4 : Hid (w4.ownsRow w.heap.size 9 1 v' (m + 1) (strs (o ++ [l]))) := by rw [strs_snoc]; exact ho4
          clear ho4 hg4 hb4 hz4)
        go_roundw
        case rel => exact ⟨k + 1, o ++ [l], [], by omega, by go_num, HT2.out, rfl, B4.out, by rw [List.length_append, HM.out]; exact O4.out⟩
        case measure => simp [intOf]; omega
      · have hx10 : ((x : Int) == 10) = false := by
          have : ¬ (x = 10) := fun e => h10 (by rw [← UInt8.toNat_inj, HXX.out, e]; rfl)
          simp
          omega
        have HT2 : Hid (sepF 10 (s.take (k + 1)) = (o, l ++ [bt s k])) := by show _ = _; rw [HT1.out]; simp [sepS, h10]
        have HTX : Hid (txt (l ++ [bt s k]) = txt l ++ txt [bt s k]) := by show _ = _; rw [txt_app]
        have h1s : (txt [bt s k]).size = 1 := by rw [txt_size]; rfl
        generalize txt [bt s k] = t1 at *
        generalize txt l = t0 at *
        clear HT1 h10
        have hw1 : IntKind.i64.wrap ((k : Int) + 1) = (k : Int) + 1 := by rw [IntKind.wrap_i64]; omega
        go_wp2_with fail
        go_roundw
        case rel => exact ⟨k + 1, o, l ++ [bt s k], by omega, by go_num, HT2.out, by rw [HTX.out], BW.out, by rw [HM.out]; exact OW.out⟩
        case measure => simp [intOf]; omega
    · have hkn : k = n := by omega
      have HE : Hid (O9 = (o, l)) := by show _ = _; rw [← H9.out, ← HSEP.out, hkn, ← HN.out, List.take_length]
      have hnl : ¬ ((k : Int) < (n : Int)) := by omega
      have HNIL : Hid ((txt l).toList.isEmpty = decide (l = [])) := txt_nil l
      clear hkn
      obtain ⟨bb, HBB⟩ : ∃ b, Hid (decide (l = []) = b) := ⟨_, rfl⟩
      rw [HBB.out] at HNIL
      have hnil := HNIL.out
      generalize txt l = t0 at *
      go_wp2
      go_ret2
      refine ⟨.slice sa m sc, ?_, BW.out, ?_⟩
      · rw [HE.out]
        show _ = Ending.returned (.tuple #[.slice sa m sc, .bool (decide (l = []))])
        rw [HBB.out]
        rfl
      · rw [HE.out]
        simp only
        rw [HM.out]
        exact OW.out

end Go.Proofs.YtidhnmmhniiolaaDoor

namespace Go.Proofs.YtidhnmmhniiolaaDoor
open Go.RowKit

theorem own_oth9 {w : World} {base size n k : Nat} {e T : TypeId} {v : Value} {xs : List Value} {cs : Array Value} {q : Nat × Nat} (h : w.ownsRow base e size v n xs) (hr : w.heap[k]? = some (.cells cs T q)) (hT : T ≠ e) : v.ownBlock ≠ some k := fun he => by
  rcases h.2 with ⟨rfl, _⟩ | ⟨g, c, cur, rfl, _, hg, _⟩
  · cases he
  · simp [Value.ownBlock] at he
    rw [he, hr] at hg
    simp at hg
    exact hT hg.2.1
/-- What is owned of one type is kept where what is owned of another type grows. -/
theorem own_two {w w' : World} {b1 b2 s1 s2 n1 n2 : Nat} {e1 e2 : TypeId} {v1 v2 : Value} {x1 x2 : List Value} (h1 : w.ownsRow b1 e1 s1 v1 n1 x1) (h2 : w.ownsRow b2 e2 s2 v2 n2 x2) (hg : w.grownBy w' v2.ownBlock) (hT : e2 ≠ e1) : w'.ownsRow b1 e1 s1 v1 n1 x1 := by
  refine h1.kept hg ?_
  cases hr : v2.ownBlock with
  | none => cases hv : v1.ownBlock with | none => exact .inl rfl | some _ => right; simp
  | some g =>
    right
    obtain ⟨_, ⟨hz, _⟩ | ⟨g', c, cur, e, _, hrow, _⟩⟩ := h2
    · rw [hz] at hr; cases hr
    · rw [e] at hr
      simp [Value.ownBlock] at hr
      subst hr
      exact own_oth9 h1 hrow hT
theorem intsF_snoc : ∀ (xs : List (List UInt8)) (x : List UInt8), intsF (xs ++ [x]) = match intsF xs with | none => none | some l => match intF x with | none => none | some n => some (l ++ [(n : Int)])
  | [], x => by
    simp only [List.nil_append, intsF]
    cases intF x <;> rfl
  | y :: xs, x => by
    simp only [List.cons_append, intsF]
    rw [intsF_snoc xs x]
    cases intF y with
    | none => rfl
    | some n =>
      simp only
      cases intsF xs with
      | none => rfl
      | some l =>
        simp only
        cases intF x <;> rfl
theorem intsF_bad : ∀ (xs : List (List UInt8)) (j : Nat), j < xs.length → intF (xs.getD j []) = none → intsF xs = none
  | [], j, h, _ => by simp at h
  | y :: xs, 0, _, h => by
    have : intF y = none := by simpa using h
    simp [intsF, this]
  | y :: xs, j + 1, hl, h => by
    have := intsF_bad xs j (by simpa using hl) (by simpa using h)
    simp only [intsF, this]
    cases intF y <;> rfl
theorem getD_snoc_take (xs : List (List UInt8)) (j : Nat) (h : j < xs.length) : xs.take (j + 1) = xs.take j ++ [xs.getD j []] := by
  rw [List.take_add_one, List.getD_eq_getElem?_getD, List.getElem?_eq_getElem h]
  simp
theorem strs_at (xs : List (List UInt8)) (j : Nat) (h : j < xs.length) : (strs xs)[j]? = some (.string (txt (xs.getD j []))) := by
  unfold strs
  rw [List.getElem?_map, List.getD_eq_getElem?_getD, List.getElem?_eq_getElem h]
  rfl
theorem strs_set (o : List (List UInt8)) (l x : List UInt8) : (strs (o ++ [l])).set o.length (.string (txt x)) = strs (o ++ [x]) := by
  simp [strs]
theorem sep_word {p : UInt8} : ∀ (s : List UInt8) (o : List (List UInt8)) (l : List UInt8) (b : Nat), (∀ x ∈ o, x.length ≤ b) → l.length + s.length ≤ b → ∀ x ∈ (s.foldl (sepS p) (o, l)).1, x.length ≤ b
  | [], o, l, b, h, _ => h
  | c :: s, o, l, b, h, hl => by
    rw [List.foldl_cons]
    simp only [List.length_cons] at hl
    by_cases hc : c = p
    · have e : sepS p (o, l) c = (o ++ [l], []) := by simp [sepS, hc]
      rw [e]
      refine sep_word s _ _ b (fun x hx => ?_) (by simp; omega)
      rcases List.mem_append.1 hx with hx | hx
      · exact h x hx
      · rw [List.mem_singleton] at hx; subst hx; omega
    · have e : sepS p (o, l) c = (o, l ++ [c]) := by simp [sepS, hc]
      rw [e]
      exact sep_word s _ _ b h (by simp; omega)

/-- What l2Cut answers: the word and the numbers of the call's own, and true; or nothing. -/
def CutOk (w : World) (s : List UInt8) (e : Ending) (w' : World) : Prop :=
  (∃ wd l sl, cutF s = some (wd, l) ∧ e = .returned (.tuple #[.string (txt wd), sl, .bool true]) ∧ Below w.heap.size w w' ∧ w'.ownsRow w.heap.size 2 1 sl l.length (l.map (Value.int .i64)) ∧ sl ≠ .slice none 0 0) ∨ (cutF s = none ∧ e = .returned (.tuple #[.string ⟨#[]⟩, .slice none 0 0, .bool false]) ∧ Below w.heap.size w w')

set_option maxHeartbeats 4000000 in
set_option maxRecDepth 10000 in
theorem l2Cut_any (s : List UInt8) (w : World) (hs : s.length ≤ 1048576) :
    Calls Tryd.prog 28 #[.string (txt s)] w (CutOk w s) := by
  have HS : Hid ((txt s).size = s.length) := txt_size s
  obtain ⟨a, HA⟩ : ∃ a, Hid (txt s = a) := ⟨_, rfl⟩
  obtain ⟨n, HN⟩ : ∃ n, Hid (s.length = n) := ⟨_, rfl⟩
  rw [HA.out]
  rw [HA.out, HN.out] at HS
  rw [HN.out] at hs
  have hn : a.size = n := HS.out
  have B0 : Hid (Below w.heap.size w (w.alloc (.cells #[.string ⟨#[]⟩] 9))) := (Below.refl _ _).alloc (Nat.le_refl _) _
  have W0 : Hid ((w.alloc (.cells #[.string ⟨#[]⟩] 9)).ownsRow w.heap.size 9 1 (.slice (some ⟨w.heap.size, 0, none⟩) 1 1) 1 (strs [[]])) :=
    ⟨by simp [strs], .inr ⟨w.heap.size, 1, #[.string ⟨#[]⟩], rfl, Nat.le_refl _, heap_alloc_new _ _, by omega, by unfold maxLen; omega, by simp, by simp [strs, txt]⟩⟩
  go_enter Tryd.func28, Tryd.ntmps28
  go_wp2_with fail
  go_loopw [5, 6] (fun to ti wr => ∃ (k : Nat) (o : List (List UInt8)) (l : List UInt8), k ≤ n ∧ ti = .int .i64 k ∧ sepF 32 (s.take k) = (o, l) ∧ Below w.heap.size w wr ∧ wr.ownsRow w.heap.size 9 1 to (o.length + 1) (strs (o ++ [l]))) (fun _ ti _ => n - (intOf ti).toNat)
  case atStart => exact ⟨0, [], [], Nat.zero_le _, rfl, rfl, B0.out, W0.out⟩
  case round =>
    clear B0 W0
    obtain ⟨k, o, l, hk, rfl, hsep, hb, ho⟩ := hrel
    have HSEP : Hid (sepF 32 (s.take k) = (o, l)) := hsep
    have hlen : o.length ≤ k ∧ l.length ≤ k := by
      have := sep_len (p := 32) (s.take k) [] []
      have e : (s.take k).foldl (sepS 32) ([], []) = (o, l) := hsep
      rw [e, List.length_take] at this
      simp at this
      omega
    obtain ⟨hol, hll⟩ := hlen
    have BW : Hid (Below w.heap.size w wr) := hb
    obtain ⟨m, HM⟩ : ∃ m, Hid (o.length = m) := ⟨_, rfl⟩
    rw [HM.out] at hol ho
    rcases own_kinds ho with ⟨_, h0⟩ | ⟨g, c, e, -, -⟩
    · omega
    subst e
    have OW : Hid (wr.ownsRow w.heap.size 9 1 (.slice (some ⟨g, 0, none⟩) (m + 1) c) (m + 1) (strs (o ++ [l]))) := ho
    clear hsep hb ho
    by_cases hlt : k < n
    · have hltI : (k : Int) < (n : Int) := by omega
      have hka : k < a.size := by rw [hn]; exact hlt
      have hix : ((a[k]'hka).toNat : Int) = ((bt s k).toNat : Int) := by
        have e := HA.out
        subst e
        rw [txt_idx]
      have HT1 : Hid (sepF 32 (s.take (k + 1)) = sepS 32 (o, l) (bt s k)) := by
        show _ = _
        rw [take_bt s k (by rw [HN.out]; exact hlt), sepF_snoc, HSEP.out]
      have hex : a.extract k (k + 1) = txt [bt s k] := by rw [← HA.out]; exact txt_one s k (by rw [HN.out]; exact hlt)
      obtain ⟨x, HXX⟩ : ∃ x : Nat, Hid ((bt s k).toNat = x) := ⟨_, rfl⟩
      rw [HXX.out] at hix
      by_cases h32 : bt s k = 32
      · have hx32 : ((x : Int) == 32) = true := by
          have : x = 32 := by rw [← HXX.out, h32]; rfl
          subst this
          rfl
        have HT2 : Hid (sepF 32 (s.take (k + 1)) = (o ++ [l], [])) := by show _ = _; rw [HT1.out]; simp [sepS, h32]
        clear hex HT1 h32
        go_wp2_with (
          at_builtin
          refine append_vals Tryd.underlying60 infoTx rfl (by decide) _ rfl _ _ rfl w.heap.size _ (m + 1) (strs (o ++ [l])) rfl (OW.out.alloc _) wr.heap.size 0 1 1 [.string ⟨#[]⟩] rfl rfl (one_new wr _ _) (by simp [Value.oneCell']) (by omega) (by omega) (Nat.le_trans BW.out.size (by simp)) ?_
          intro v' w4 ho4 hg4 hb4 hz4
          have B4 : Hid (Below w.heap.size w w4) := (BW.out.alloc BW.out.size _).grown hg4 (Nat.le_trans BW.out.size (by simp)) (fun g e => (OW.out.lt g e).1)
          have O4 : Hid (w4.ownsRow w.heap.size 9 1 v' (m + 1 + 1) (strs (o ++ [l] ++ [[]]))) := by rw [strs_snoc (o ++ [l])]; exact ho4
          clear ho4 hg4 hb4 hz4)
        go_roundw
        case rel => exact ⟨k + 1, o ++ [l], [], by omega, by go_num, HT2.out, B4.out, by rw [List.length_append, HM.out]; exact O4.out⟩
        case measure => simp [intOf]; omega
      · have hx32 : ((x : Int) == 32) = false := by
          have : ¬ (x = 32) := fun e => h32 (by rw [← UInt8.toNat_inj, HXX.out, e]; rfl)
          simp
          omega
        have HT2 : Hid (sepF 32 (s.take (k + 1)) = (o, l ++ [bt s k])) := by show _ = _; rw [HT1.out]; simp [sepS, h32]
        have HTX : Hid (txt l ++ txt [bt s k] = txt (l ++ [bt s k])) := by show _ = _; rw [txt_app]
        have h1s : (txt [bt s k]).size = 1 := by rw [txt_size]; rfl
        have hls : (txt l).size ≤ n := by rw [txt_size]; omega
        obtain ⟨c0, f0⟩ := own_cellV (k := m) OW.out (by rw [← HM.out]; simp [strs]; rfl)
        have OP : Hid (∀ v, v = txt (l ++ [bt s k]) → (wr.setCell ⟨g, m, none⟩ (.string v)).ownsRow w.heap.size 9 1 (.slice (some ⟨g, 0, none⟩) (m + 1) c) (m + 1) (strs (o ++ [l ++ [bt s k]]))) := fun v hv => by
          have := own_putV (k := m) (.string v) OW.out
          rw [hv] at this ⊢
          rw [← strs_set o l, HM.out]
          exact this
        have hgb : w.heap.size ≤ g := (OW.out.lt g rfl).1
        generalize txt (l ++ [bt s k]) = t2 at *
        generalize txt [bt s k] = t1 at *
        generalize txt l = t0 at *
        clear HT1 h32
        have hw1 : IntKind.i64.wrap ((k : Int) + 1) = (k : Int) + 1 := by rw [IntKind.wrap_i64]; omega
        have hw2 : IntKind.i64.wrap (((m + 1 : Nat) : Int) - 1) = (m : Int) := by rw [IntKind.wrap_i64]; omega
        have hmI : (m : Int) < ((m + 1 : Nat) : Int) := by omega
        have hs1 : ¬ (9223372036854775807 < t0.size + t1.size) := by omega
        go_wp2_with fail
        have c0d : wr.drew.cell? ⟨g, m, none⟩ = some (.string t0) := c0
        have f0d : wr.drew.frozen? ⟨g, m, none⟩ = false := f0
        go_region
        have O2 : Hid ((wr.setCell ⟨g, m, none⟩ (.string (t0 ++ t1))).drew.ownsRow w.heap.size 9 1 (.slice (some ⟨g, 0, none⟩) (m + 1) c) (m + 1) (strs (o ++ [l ++ [bt s k]]))) := owns_below (OP.out _ HTX.out) (Below.refl _ _).drew
        have B2 : Hid (Below w.heap.size w (wr.setCell ⟨g, m, none⟩ (.string (t0 ++ t1))).drew) := (Below.setCell BW.out (by simpa using hgb) _).drew
        clear c0 f0 c0d f0d OP
        generalize (wr.setCell ⟨g, m, none⟩ (.string (t0 ++ t1))).drew = W2 at *
        go_wp2_with fail
        go_roundw
        case rel => exact ⟨k + 1, o, l ++ [bt s k], by omega, by go_num, HT2.out, B2.out, by rw [HM.out]; exact O2.out⟩
        case measure => simp [intOf]; omega
    · have hkn : k = n := by omega
      have HE : Hid (sepF 32 s = (o, l)) := by show _ = _; rw [← HSEP.out, hkn, ← HN.out, List.take_length]
      have hnl : ¬ ((k : Int) < (n : Int)) := by omega
      obtain ⟨w0, ws, HW⟩ : ∃ w0 ws, Hid (o ++ [l] = w0 :: ws) := by
        cases o with
        | nil => exact ⟨l, [], rfl⟩
        | cons y o => exact ⟨y, o ++ [l], rfl⟩
      have HCF : Hid (cutF s = match intsF ws with | none => none | some l => some (w0, l)) := by
        show _ = _
        unfold cutF
        rw [HE.out]
        simp only
        rw [HW.out]
        rfl
      have HWL : Hid (ws.length = m) := by
        have := congrArg List.length HW.out
        simp only [List.length_append, List.length_cons, List.length_nil, HM.out] at this
        show _ = _
        omega
      have HSZ : Hid (∀ x ∈ w0 :: ws, x.length ≤ 1048576) := fun x hx => by
        rw [← HW.out] at hx
        rcases List.mem_append.1 hx with hx | hx
        · have := sep_word (p := 32) s [] [] s.length (fun x hx => by simp at hx) (by simp) x
          have e : s.foldl (sepS 32) ([], []) = (o, l) := HE.out
          rw [e] at this
          have := this hx
          rw [HN.out] at this
          omega
        · rw [List.mem_singleton] at hx
          subst hx
          omega
      rw [HW.out] at OW
      have hm1 : m + 1 ≤ 1048577 := by omega
      clear hkn HSEP
      have BZ : Hid (Below w.heap.size w (wr.alloc (.cells #[] 2))) := BW.out.alloc BW.out.size _
      have OZ : Hid ((wr.alloc (.cells #[] 2)).ownsRow w.heap.size 9 1 (.slice (some ⟨g, 0, none⟩) (m + 1) c) (m + 1) (strs (w0 :: ws))) := OW.out.alloc _
      have IZ : Hid ((wr.alloc (.cells #[] 2)).ownsRow w.heap.size 2 1 (.slice (some ⟨wr.heap.size, 0, none⟩) 0 0) 0 (([] : List Int).map (Value.int .i64))) := World.ownsRow_made wr #[] 0 BW.out.size (by unfold maxLen; omega) (by simp)
      go_wp2_with fail
      generalize wr.alloc (.cells #[] 2) = WZ at *
      go_loopw [8, 9] (fun to ti wr => ∃ (j : Nat) (ns : List Int), j ≤ m ∧ ti = .int .i64 ((j + 1 : Nat) : Int) ∧ intsF (ws.take j) = some ns ∧ ns.length = j ∧ Below w.heap.size w wr ∧ wr.ownsRow w.heap.size 9 1 (.slice (some ⟨g, 0, none⟩) (m + 1) c) (m + 1) (strs (w0 :: ws)) ∧ wr.ownsRow w.heap.size 2 1 to j (ns.map (Value.int .i64)) ∧ to ≠ .slice none 0 0) (fun _ ti _ => m + 2 - (intOf ti).toNat)
      case atStart => exact ⟨0, [], Nat.zero_le _, rfl, rfl, rfl, BZ.out, OZ.out, IZ.out, by simp⟩
      case round =>
        clear BZ OZ IZ BW OW
        obtain ⟨j, ns, hj, rfl, hin, hnl2, hb, how, hoi, hnn⟩ := hrel
        have HIN : Hid (intsF (ws.take j) = some ns) := hin
        have BW : Hid (Below w.heap.size w wr) := hb
        have OW : Hid (wr.ownsRow w.heap.size 9 1 (.slice (some ⟨g, 0, none⟩) (m + 1) c) (m + 1) (strs (w0 :: ws))) := how
        obtain ⟨sa, sc, e, -⟩ := own_sl9 hoi
        subst e
        have HNN : Hid ((.slice sa j sc : Value) ≠ .slice none 0 0) := hnn
        have OI : Hid (wr.ownsRow w.heap.size 2 1 (.slice sa j sc) j (ns.map (Value.int .i64))) := hoi
        clear hin hb how hoi hnn
        by_cases hjm : j < m
        · have hjI : ((j + 1 : Nat) : Int) < ((m + 1 : Nat) : Int) := by omega
          have hjw : j < ws.length := by rw [HWL.out]; exact hjm
          have hcx := (own_cellV (k := j + 1) OW.out (strs_at (w0 :: ws) (j + 1) (by simp; omega))).1
          rw [show (w0 :: ws).getD (j + 1) [] = ws.getD j [] by simp] at hcx
          have hxl : (ws.getD j []).length ≤ 1048576 := HSZ.out _ (by
            rw [List.getD_eq_getElem?_getD, List.getElem?_eq_getElem hjw]
            simp)
          have HTK : Hid (intsF (ws.take (j + 1)) = match intF (ws.getD j []) with | none => none | some n => some (ns ++ [(n : Int)])) := by
            show _ = _
            rw [getD_snoc_take ws j hjw, intsF_snoc, HIN.out]
          have HBD : Hid (intF (ws.getD j []) = none → intsF ws = none) := intsF_bad ws j hjw
          have C := l1Int_any (ws.getD j []) wr (by omega)
          generalize ws.getD j [] = xw at *
          clear hjw
          go_wp2_with fail
          refine C.mono ?_
          rintro e w3 ⟨rfl, ⟨v, hv, rfl⟩ | ⟨hv, rfl⟩⟩
          · have HTK2 : Hid (intsF (ws.take (j + 1)) = some (ns ++ [(v : Int)])) := by show _ = _; rw [HTK.out, hv]
            clear hv HTK HBD C hcx
            go_wp2_with (
              at_builtin
              refine append_vals Tryd.underlying25 Tryd.info2 rfl (by decide) _ rfl _ _ rfl w.heap.size (.slice sa j sc) j (ns.map (Value.int .i64)) rfl (OI.out.alloc _) w3.heap.size 0 1 1 [.int .i64 v] rfl rfl (one_new w3 _ _) (by simp [Value.oneCell']) (by omega) (by omega) (Nat.le_trans BW.out.size (by simp)) ?_
              intro v' w4 ho4 hg4 hb4 hz4
              have B4 : Hid (Below w.heap.size w w4) := (BW.out.alloc BW.out.size _).grown hg4 (Nat.le_trans BW.out.size (by simp)) (fun g e => (OI.out.lt g e).1)
              have O4 : Hid (w4.ownsRow w.heap.size 9 1 (.slice (some ⟨g, 0, none⟩) (m + 1) c) (m + 1) (strs (w0 :: ws))) := own_two (OW.out.alloc _) (OI.out.alloc _) hg4 (by decide)
              have I4 : Hid (w4.ownsRow w.heap.size 2 1 v' (j + 1) ((ns ++ [(v : Int)]).map (Value.int .i64))) := by rw [List.map_append]; exact ho4
              have N4 : Hid (v' ≠ .slice none 0 0) := fun e => HNN.out (hz4.1 e).1
              clear ho4 hg4 hb4 hz4)
            go_roundw
            case rel => exact ⟨j + 1, ns ++ [(v : Int)], by omega, by go_num, HTK2.out, by rw [List.length_append, hnl2]; rfl, B4.out, O4.out, I4.out, N4.out⟩
            case measure => simp [intOf]; omega
          · have HF : Hid (cutF s = none) := by show _ = _; rw [HCF.out, HBD.out hv]
            clear hv HTK HBD C hcx
            go_wp2
            refine bodyPost_ret (v := .tuple #[.string ⟨#[]⟩, .slice none 0 0, .bool false]) (by simp [results, Tryd.results28, go_sem]) rfl ?_
            exact .inr ⟨HF.out, rfl, BW.out⟩
        · have hjm2 : j = m := by omega
          have HF : Hid (cutF s = some (w0, ns)) := by
            show _ = _
            have := HIN.out
            rw [hjm2, ← HWL.out, List.take_length] at this
            rw [HCF.out, this]
          have hjI : ¬ (((j + 1 : Nat) : Int) < ((m + 1 : Nat) : Int)) := by omega
          have hcx := (own_cellV (k := 0) OW.out (strs_at (w0 :: ws) 0 (by simp))).1
          rw [show (w0 :: ws).getD 0 [] = w0 from rfl] at hcx
          clear hjm2
          go_wp2
          refine bodyPost_ret (v := .tuple #[.string (txt w0), .slice sa j sc, .bool true]) (by simp [results, Tryd.results28, go_sem]) rfl ?_
          exact .inl ⟨w0, ns, _, HF.out, rfl, BW.out, by rw [hnl2]; exact OI.out, HNN.out⟩

end Go.Proofs.YtidhnmmhniiolaaDoor

namespace Go.Proofs.YtidhnmmhniiolaaDoor
open Go.RowKit

theorem infoRt9 : (Tryd.prog.info? 49).map (fun i => (i.zero, i.size, i.bytes)) = some (some (.agg #[Value.int IntKind.i64 0, Value.slice none 0 0]), 2, 32) := by kernel_rfl
theorem grown_set9 (W : World) (g i : Nat) (v : Value) : W.grownBy (W.setCell ⟨g, i, none⟩ v) (some g) := ⟨rfl, rfl, rfl, by simp [World.setCell], fun k _ hk => Below.heap_setCell _ _ _ _ (fun e => hk (by simp [e]))⟩
theorem own_box9 {W : World} {base size n bp i : Nat} {e : TypeId} {v u : Value} {xs : List Value} {cs : Array Value} (h : W.ownsRow base e size v n xs) (hr : W.heap[bp]? = some (.cells cs 27 (0, 0))) (hT : 27 ≠ e) : (W.setCell ⟨bp, i, none⟩ u).ownsRow base e size v n xs := by
  refine h.kept (grown_set9 _ _ _ _) ?_
  cases hv : v.ownBlock with
  | none => exact .inl rfl
  | some g => right; rw [← hv]; exact own_oth9 h hr hT
theorem set_row9 {W : World} {g k i : Nat} {o : Obj} {v : Value} (h : W.heap[g]? = some o) (hne : g ≠ k) : (W.setCell ⟨k, i, none⟩ v).heap[g]? = some o := by
  rw [heap_setCell_other _ _ _ _ (by simpa using hne)]; exact h
/-- While the model reads a plan. -/
structure SK (w W : World) (bp : Nat) (rs ls : Value) (S : List RT) (L : List Int) (ll : Value) (lines : List (List UInt8)) : Prop where
  b : Below w.heap.size w W
  z : W.heap[w.heap.size]? = some (.cells #[.slice none 0 0, .slice none 0 0] 27 (0, 0))
  hp : w.heap.size < bp
  p : W.heap[bp]? = some (.cells #[rs, ls] 27 (0, 0))
  o : PO W (w.heap.size + 1) rs S ls L
  d : ∀ s ∈ S, ∀ g, s.a = some ⟨g, 0, none⟩ → ls.ownBlock ≠ some g
  n : W.ownsRow (w.heap.size + 1) 9 1 ll lines.length (strs lines)
theorem SK.below {w W W' : World} {bp : Nat} {rs ls ll : Value} {S : List RT} {L : List Int} {lines : List (List UInt8)} (h : SK w W bp rs ls S L ll lines) (hb : Below W.heap.size W W') : SK w W' bp rs ls S L ll lines :=
  ⟨h.b.trans (hb.mono h.b.size), below_row hb (row_lt h.z) h.z, h.hp, below_row hb (row_lt h.p) h.p, h.o.below hb, h.d, owns_below h.n hb⟩
theorem own_eq {w : World} {base n : Nat} {x : RT} {xs : List Value} (h : w.ownsRow base 2 1 (.slice x.a x.ids.length x.c) n xs) {g : Nat} (hg : (Value.slice x.a x.ids.length x.c).ownBlock = some g) : x.a = some ⟨g, 0, none⟩ := by
  obtain ⟨_, ⟨h1, _⟩ | ⟨g', c, cur, h1, _⟩⟩ := h
  · rw [h1] at hg; cases hg
  · rw [h1] at hg
    simp [Value.ownBlock] at hg
    subst hg
    injection h1
theorem SK.route {w W W' : World} {bp : Nat} {rs ls ll v' : Value} {S : List RT} {L : List Int} {lines : List (List UInt8)} {x : RT} (h : SK w W bp rs ls S L ll lines)
    (hx : W.ownsRow (w.heap.size + 1) 2 1 (.slice x.a x.ids.length x.c) x.ids.length (x.ids.map (Value.int .i64))) (hxd : ∀ g, x.a = some ⟨g, 0, none⟩ → ls.ownBlock ≠ some g)
    (hg : W.grownBy W' rs.ownBlock) (ho : W'.ownsRow (w.heap.size + 1) 49 2 v' (S.length + 1) (rowR (S ++ [x]))) :
    SK w (W'.setCell ⟨bp, 0, none⟩ v') bp v' ls (S ++ [x]) L ll lines := by
  have hob : ∀ g, rs.ownBlock = some g → w.heap.size + 1 ≤ g := fun g e => (h.o.r.lt g e).1
  have hz2 : W'.heap[w.heap.size]? = _ := grown_row hg h.z (fun e => by have := hob _ e.symm; omega)
  have hp2 : W'.heap[bp]? = _ := grown_row hg h.p (fun e => own_oth9 h.o.r h.p (by decide) e.symm)
  refine ⟨?_, set_row9 hz2 (by have := h.hp; omega), h.hp, heap_setCell_same _ _ _ _ _ _ hp2, ⟨?_, fun s hs => ?_, ?_⟩, ?_, ?_⟩
  · refine Below.setCell (h.b.grown hg h.b.size (fun g e => by have := hob g e; omega)) ?_ _
    have := h.hp
    simp
    omega
  · rw [List.length_append]
    exact own_box9 ho hp2 (by decide)
  · rcases List.mem_append.1 hs with hs | hs
    · exact own_box9 (own_two (h.o.s s hs) h.o.r hg (by decide)) hp2 (by decide)
    · rw [List.mem_singleton] at hs
      subst hs
      exact own_box9 (own_two hx h.o.r hg (by decide)) hp2 (by decide)
  · exact own_box9 (own_two h.o.l h.o.r hg (by decide)) hp2 (by decide)
  · intro s hs g e
    rcases List.mem_append.1 hs with hs | hs
    · exact h.d s hs g e
    · rw [List.mem_singleton] at hs
      subst hs
      exact hxd g e
  · exact own_box9 (own_two h.n h.o.r hg (by decide)) hp2 (by decide)
theorem SK.left {w W W' : World} {bp : Nat} {rs ls ll v' : Value} {S : List RT} {L M : List Int} {lines : List (List UInt8)} (h : SK w W bp rs ls S L ll lines)
    (hg : W.grownBy W' ls.ownBlock) (hb : v'.ownBlock = ls.ownBlock ∨ v'.ownBlock = some W.heap.size) (ho : W'.ownsRow (w.heap.size + 1) 2 1 v' M.length (M.map (Value.int .i64))) :
    SK w (W'.setCell ⟨bp, 1, none⟩ v') bp rs v' S M ll lines := by
  have hob : ∀ g, ls.ownBlock = some g → w.heap.size + 1 ≤ g := fun g e => (h.o.l.lt g e).1
  have hz2 : W'.heap[w.heap.size]? = _ := grown_row hg h.z (fun e => by have := hob _ e.symm; omega)
  have hp2 : W'.heap[bp]? = _ := grown_row hg h.p (fun e => own_oth9 h.o.l h.p (by decide) e.symm)
  refine ⟨?_, set_row9 hz2 (by have := h.hp; omega), h.hp, heap_setCell_same _ _ _ _ _ _ hp2, ⟨?_, fun s hs => ?_, ?_⟩, ?_, ?_⟩
  · refine Below.setCell (h.b.grown hg h.b.size (fun g e => by have := hob g e; omega)) ?_ _
    have := h.hp
    simp
    omega
  · exact own_box9 (own_two h.o.r h.o.l hg (by decide)) hp2 (by decide)
  · refine own_box9 ((h.o.s s hs).kept hg ?_) hp2 (by decide)
    cases hv : (Value.slice s.a s.ids.length s.c).ownBlock with
    | none => exact .inl rfl
    | some g =>
      right
      exact fun e => h.d s hs g (own_eq (h.o.s s hs) hv) e.symm
  · exact own_box9 ho hp2 (by decide)
  · intro s hs g e
    rcases hb with hb | hb
    · rw [hb]; exact h.d s hs g e
    · rw [hb]
      intro e2
      have e3 : (Value.slice s.a s.ids.length s.c).ownBlock = some g := by rw [e]; rfl
      have := ((h.o.s s hs).lt g e3).2
      simp at e2
      omega
  · exact own_box9 (own_two h.n h.o.l hg (by decide)) hp2 (by decide)
theorem SK.new {w w1 : World} {ll : Value} {lines : List (List UInt8)} (hB : Below w.heap.size w w1) (hz : w1.heap[w.heap.size]? = some (.cells #[.slice none 0 0, .slice none 0 0] 27 (0, 0))) (hn : w1.ownsRow (w.heap.size + 1) 9 1 ll lines.length (strs lines)) :
    SK w (w1.alloc (.cells #[.slice none 0 0, .slice none 0 0] 27)) w1.heap.size (.slice none 0 0) (.slice none 0 0) [] [] ll lines :=
  ⟨hB.alloc hB.size _, (heap_alloc_old _ _ (row_lt hz)).trans hz, row_lt hz, heap_alloc_new _ _, ⟨⟨by simp [rowR], .inl ⟨rfl, rfl⟩⟩, fun s hs => by simp at hs, ⟨by simp, .inl ⟨rfl, rfl⟩⟩⟩, fun s hs => by simp at hs, hn.alloc _⟩
theorem cut_one {W : World} {g : Nat} {l : List Int} (h : IntsAt W (some ⟨g, 0, none⟩) l) : IntsAt W (some ⟨g, 1, none⟩) l.tail := fun j hj => by
  rw [List.length_tail] at hj
  obtain ⟨b, off, e, hcell⟩ := h (j + 1) (by omega)
  simp at e
  obtain ⟨rfl, rfl⟩ := e
  refine ⟨_, _, rfl, ?_⟩
  rw [Nat.add_comm 1 j, ← Nat.zero_add (j + 1), hcell]
  cases l with
  | nil => simp at hj
  | cons x l => simp
theorem cells2_a9 (W : World) (g : Nat) (v0 v1 : Value) (T : TypeId) (h : W.heap[g]? = some (.cells #[v0, v1] T (0, 0))) : ∀ (j : Nat) (u : Value), [v0, v1][j]? = some u → W.cell? ⟨g, 0 + j, none⟩ = some u := fun j u hj => by
  rw [cell_of_row _ _ _ _ _ _ h, Nat.zero_add]
  match j, hj with
  | 0, hj => simpa using hj
  | 1, hj => simpa using hj

end Go.Proofs.YtidhnmmhniiolaaDoor
