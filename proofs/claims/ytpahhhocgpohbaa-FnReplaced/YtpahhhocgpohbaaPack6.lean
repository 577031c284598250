import Derived.Test.YtpahhhocgpohbaaPack0
import Derived.Test.YtpahhhocgpohbaaPack2
import Derived.Test.YtpahhhocgpohbaaCmpLay
import Derived.Test.YtpahhhocgpohbaaPack5
import Derived.BigQuiet
namespace Go.Proofs.Ytpahhhocgpohbaa
open Go.RowKit

def GR.v (g : GR) : Value := .slice g.a g.ps.length g.c
def grCells (g : GR) : List Value := [.string g.n, .slice g.a g.ps.length g.c, .int .i64 g.sz]
def rowG (S : List GR) : List Value := S.flatMap grCells
theorem rowG_cons (g : GR) (S : List GR) : rowG (g :: S) = grCells g ++ rowG S := by simp [rowG]
theorem rowG_app (S T : List GR) : rowG (S ++ T) = rowG S ++ rowG T := by simp [rowG]
theorem rowG_len (S : List GR) : (rowG S).length = S.length * 3 := by
  induction S with
  | nil => rfl
  | cons f F ih => rw [rowG_cons, List.length_append, ih]; simp [grCells]; omega
theorem rowG_one (S : List GR) : ∀ v ∈ rowG S, v.oneCell' = true := by
  intro v hv
  simp only [rowG, List.mem_flatMap] at hv
  obtain ⟨f, _, h⟩ := hv
  simp [grCells] at h
  rcases h with rfl | rfl | rfl <;> rfl
theorem rowG_at : ∀ (S : List GR) (j : Nat), j < S.length → (rowG S)[j * 3]? = some (.string (S.getD j gr0).n) ∧ (rowG S)[j * 3 + 1]? = some (.slice (S.getD j gr0).a (S.getD j gr0).ps.length (S.getD j gr0).c) ∧ (rowG S)[j * 3 + 2]? = some (.int .i64 (S.getD j gr0).sz)
  | [], j, h => by simp at h
  | f :: F, 0, _ => by rw [rowG_cons]; exact ⟨rfl, rfl, rfl⟩
  | f :: F, j + 1, h => by
    have ih := rowG_at F j (by simpa using h)
    rw [rowG_cons]
    have e1 : (j + 1) * 3 = j * 3 + 3 := by omega
    have e2 : (j + 1) * 3 + 1 = j * 3 + 1 + 3 := by omega
    have e3 : (j + 1) * 3 + 2 = j * 3 + 2 + 3 := by omega
    rw [e2, e3, e1]
    simpa [grCells] using ih
theorem rowG_take (S : List GR) (k : Nat) : (rowG S).take (k * 3) = rowG (S.take k) := by
  induction S generalizing k with
  | nil => simp [rowG]
  | cons f F ih =>
    cases k with
    | zero => simp [rowG]
    | succ k =>
      rw [List.take_succ_cons, rowG_cons, rowG_cons, show (k + 1) * 3 = (grCells f).length + k * 3 by simp [grCells]; omega, List.take_length_add_append, ih]
theorem rowG_drop (S : List GR) (k : Nat) : (rowG S).drop (k * 3) = rowG (S.drop k) := by
  induction S generalizing k with
  | nil => simp [rowG]
  | cons f F ih =>
    cases k with
    | zero => simp
    | succ k =>
      rw [List.drop_succ_cons, rowG_cons, show (k + 1) * 3 = (grCells f).length + k * 3 by simp [grCells]; omega, List.drop_length_add_append, ih]
/-- A slice of files that grow. -/
def GrowAt (w : World) (a : Option Addr) (S : List GR) : Prop := ∀ j, j < S.length → ∃ b off, a = some ⟨b, off, none⟩ ∧ w.cell? ⟨b, off + j * 3, none⟩ = some (.string (S.getD j gr0).n) ∧ w.cell? ⟨b, off + j * 3 + 1, none⟩ = some (.slice (S.getD j gr0).a (S.getD j gr0).ps.length (S.getD j gr0).c) ∧ w.cell? ⟨b, off + j * 3 + 2, none⟩ = some (.int .i64 (S.getD j gr0).sz)
theorem GrowAt.below {w w' : World} {a : Option Addr} {S : List GR} (h : GrowAt w a S) (hb : Below w.heap.size w w') : GrowAt w' a S := fun j hj => by
  obtain ⟨b, off, e, h1, h2, h3⟩ := h j hj
  exact ⟨b, off, e, (hb.cell (p := ⟨b, off + j * 3, none⟩) (block_lt_of_cell h1)).trans h1, (hb.cell (p := ⟨b, off + j * 3 + 1, none⟩) (block_lt_of_cell h2)).trans h2, (hb.cell (p := ⟨b, off + j * 3 + 2, none⟩) (block_lt_of_cell h3)).trans h3⟩
theorem own_grows {w : World} {base n : Nat} {e : TypeId} {v : Value} {S : List GR} (h : w.ownsRow base e 3 v n (rowG S)) (hn : S.length = n) : ∃ a c, v = .slice a n c ∧ GrowAt w a S := by
  rcases own_kinds h with ⟨rfl, h0⟩ | ⟨g, c, rfl, _, _⟩
  · exact ⟨none, 0, by rw [h0], fun j hj => by omega⟩
  · refine ⟨_, c, rfl, fun j hj => ⟨g, 0, rfl, ?_, ?_, ?_⟩⟩
    · rw [Nat.zero_add]; exact (own_cellV h (rowG_at S j hj).1).1
    · rw [Nat.zero_add]; exact (own_cellV h (rowG_at S j hj).2.1).1
    · rw [Nat.zero_add]; exact (own_cellV h (rowG_at S j hj).2.2).1
/-- A file's pieces are the call's own. -/
def OwnP (w : World) (base : Nat) (g : GR) : Prop := w.ownsRow base 9 1 (.slice g.a g.ps.length g.c) g.ps.length (g.ps.map Value.string)
/-- No two lie in one row. -/
def Apt (x y : GR) : Prop := ∀ k, x.v.ownBlock = some k → y.v.ownBlock ≠ some k
theorem Apt.symm {x y : GR} (h : Apt x y) : Apt y x := fun k h1 h2 => h k h2 h1
/-- A shelf. -/
structure SH (w : World) (base s : Nat) (fv : Value) (S : List GR) : Prop where
  row : w.heap[s]? = some (.cells #[fv] 88 (0, 0))
  bs : base ≤ s
  r : w.ownsRow base 90 3 fv S.length (rowG S)
  p : ∀ g ∈ S, OwnP w base g
  ap : S.Pairwise Apt
  sz : ∀ g ∈ S, g.sz = (jn g.ps).size
theorem own_otherT {w : World} {base size n k : Nat} {e T : TypeId} {v : Value} {xs : List Value} {cs : Array Value} {q : Nat × Nat} (h : w.ownsRow base e size v n xs) (hr : w.heap[k]? = some (.cells cs T q)) (hT : T ≠ e) : some k ≠ v.ownBlock := fun he => by
  rcases h.2 with ⟨rfl, _⟩ | ⟨g, c, cur, rfl, _, hg, _⟩
  · cases he
  · simp [Value.ownBlock] at he
    rw [← he, hr] at hg
    simp at hg
    exact hT hg.2.1
theorem own_grownT {w w' : World} {base size n : Nat} {e : TypeId} {v : Value} {xs : List Value} {row : Option Nat} (h : w.ownsRow base e size v n xs) (hg : w.grownBy w' row) (hne : ∀ k, v.ownBlock = some k → row ≠ some k) : w'.ownsRow base e size v n xs := by
  obtain ⟨h1, h2 | ⟨g, cap, cur, h2, h3, h4, h5⟩⟩ := h
  · exact ⟨h1, .inl h2⟩
  · refine ⟨h1, .inr ⟨g, cap, cur, h2, h3, (hg.block g (row_lt h4) (fun e => hne g ?_ e.symm)).trans h4, h5⟩⟩
    rw [h2]
    rfl
/-- Rows of two types are two rows. -/
theorem own_apartT {w : World} {b1 b2 s1 s2 n1 n2 : Nat} {e1 e2 : TypeId} {v1 v2 : Value} {x1 x2 : List Value} (h1 : w.ownsRow b1 e1 s1 v1 n1 x1) (h2 : w.ownsRow b2 e2 s2 v2 n2 x2) (hT : e1 ≠ e2) : ∀ k, v1.ownBlock = some k → v2.ownBlock ≠ some k := fun k hk hk2 => by
  obtain ⟨_, ⟨h3, _⟩ | ⟨g, cap, cur, h3, _, h4, _⟩⟩ := h1
  · rw [h3] at hk; cases hk
  · rw [h3] at hk
    have : g = k := by simpa [Value.ownBlock] using hk
    subst this
    exact own_otherT h2 h4 hT hk2.symm
theorem SH.below {w w' : World} {base s : Nat} {fv : Value} {S : List GR} (h : SH w base s fv S) (hb : Below w.heap.size w w') : SH w' base s fv S :=
  ⟨below_row hb (row_lt h.row) h.row, h.bs, own_blw h.r hb, fun g hg => own_blw (h.p g hg) hb, h.ap, h.sz⟩
/-- A row of texts grows that is none of the shelf's. -/
theorem SH.grow {w w' : World} {base s b2 n2 s2 : Nat} {fv v : Value} {S : List GR} {xs : List Value} (h : SH w base s fv S) (ho : w.ownsRow b2 9 s2 v n2 xs) (hg : w.grownBy w' v.ownBlock) (ha : ∀ g ∈ S, ∀ k, v.ownBlock = some k → g.v.ownBlock ≠ some k) : SH w' base s fv S :=
  ⟨(hg.block s (row_lt h.row) (own_otherT ho h.row (by decide))).trans h.row, h.bs, own_grownT h.r hg (fun k hk e => own_apartT h.r ho (by decide) k hk e), fun g hg2 => own_grownT (h.p g hg2) hg (fun k hk e => ha g hg2 k e hk), h.ap, h.sz⟩
theorem SH.lt {w : World} {base s : Nat} {fv : Value} {S : List GR} (h : SH w base s fv S) : s < w.heap.size := row_lt h.row
/-- A cell of another type's row is set. -/
theorem own_setT {w : World} {base size n s i : Nat} {e T : TypeId} {v u : Value} {xs : List Value} {cs : Array Value} {q : Nat × Nat} (h : w.ownsRow base e size v n xs) (hr : w.heap[s]? = some (.cells cs T q)) (hT : T ≠ e) : (w.setCell ⟨s, i, none⟩ u).ownsRow base e size v n xs := by
  have hne := own_otherT h hr hT
  obtain ⟨h1, h2 | ⟨g, cap, cur, h2, h3, h4, h5⟩⟩ := h
  · exact ⟨h1, .inl h2⟩
  · refine ⟨h1, .inr ⟨g, cap, cur, h2, h3, (heap_setCell_other w ⟨s, i, none⟩ g u (fun e => hne ?_)).trans h4, h5⟩⟩
    have e : g = s := e
    rw [h2, ← e]
    rfl
/-- The shelf gets other files. -/
theorem SH.make {w : World} {base s : Nat} {fv fv' : Value} {S' : List GR} (hrow : w.heap[s]? = some (.cells #[fv] 88 (0, 0))) (hbs : base ≤ s) (hr : w.ownsRow base 90 3 fv' S'.length (rowG S')) (hp : ∀ g ∈ S', OwnP w base g) (hap : S'.Pairwise Apt) (hsz : ∀ g ∈ S', g.sz = (jn g.ps).size) : SH (w.setCell ⟨s, 0, none⟩ fv') base s fv' S' :=
  ⟨by have := heap_setCell_same w s 0 #[fv] 88 fv' hrow; simpa using this, hbs, own_setT hr hrow (by decide), fun g hg => own_setT (hp g hg) hrow (by decide), hap, hsz⟩

theorem keep_setT {W : World} {b o k i : Nat} {v x : Value} (h : W.cell? ⟨b, o, none⟩ = some x) (hne : b ≠ k) : (W.setCell ⟨k, i, none⟩ v).cell? ⟨b, o, none⟩ = some x := by
  rw [World.cell?_of_block (heap_setCell_other W ⟨k, i, none⟩ b v hne)]
  exact h
/-- What strings.Compare tells. -/
def cmpT (x y : ByteArray) : Int := Lib.compareBytes x.data.toList y.data.toList
theorem cmpL_lt : ∀ x y : List UInt8, (Op.bytesLess x y = true → Lib.compareBytes x y = -1) ∧ (x = y → Lib.compareBytes x y = 0) ∧ (Op.bytesLess x y = false → x ≠ y → Lib.compareBytes x y = 1)
  | [], [] => ⟨fun h => by simp [Op.bytesLess] at h, fun _ => rfl, fun _ h => absurd rfl h⟩
  | [], _ :: _ => ⟨fun _ => rfl, fun h => (by cases h), fun h => (by simp [Op.bytesLess] at h)⟩
  | _ :: _, [] => ⟨fun h => (by simp [Op.bytesLess] at h), fun h => (by cases h), fun _ _ => rfl⟩
  | a :: x, b :: y => by
    have ih := cmpL_lt x y
    simp only [Op.bytesLess, Lib.compareBytes]
    by_cases h1 : a < b
    · refine ⟨fun _ => by rw [if_pos h1], fun e => ?_, fun h => ?_⟩
      · injection e with e _; subst e; exact absurd h1 (UInt8.lt_irrefl _)
      · simp [h1] at h
    · rw [if_neg h1]
      by_cases h2 : b < a
      · have hne : (a == b) = false := by
          rw [beq_eq_false_iff_ne]
          intro e
          subst e
          exact absurd h2 (UInt8.lt_irrefl _)
        refine ⟨fun h => ?_, fun e => ?_, fun _ _ => by rw [if_pos h2]⟩
        · rw [hne] at h; simp [h1] at h
        · injection e with e _; subst e; exact absurd h2 (UInt8.lt_irrefl _)
      · rw [if_neg h2]
        have e : a = b := by
          rcases Nat.lt_trichotomy a.toNat b.toNat with h | h | h
          · exact absurd (UInt8.lt_iff_toNat_lt.2 h) h1
          · exact UInt8.toNat_inj.1 h
          · exact absurd (UInt8.lt_iff_toNat_lt.2 h) h2
        subst e
        refine ⟨fun h => ih.1 (by simpa [h1] using h), fun e => ih.2.1 (by injection e), fun h hn => ih.2.2 (by simpa using h) (fun e => hn (by rw [e]))⟩
theorem cmpT_lt {x y : ByteArray} (h : ltT x y = true) : cmpT x y = -1 := by
  unfold ltT at h
  rw [ByteArray.toList_eq, ByteArray.toList_eq] at h
  exact (cmpL_lt _ _).1 h
theorem cmpT_eq {x y : ByteArray} (h : x = y) : cmpT x y = 0 := (cmpL_lt _ _).2.1 (by rw [h])
theorem cmpT_gt {x y : ByteArray} (h : ltT x y = false) (hne : x ≠ y) : cmpT x y = 1 := by
  unfold ltT at h
  rw [ByteArray.toList_eq, ByteArray.toList_eq] at h
  exact (cmpL_lt _ _).2.2 h (fun e => hne (ByteArray.ext (Array.toList_inj.1 e)))
theorem cmpT_ge {x y : ByteArray} (h : ltT x y = false) : ¬ cmpT x y < 0 := by
  by_cases e : x = y
  · rw [cmpT_eq e]; omega
  · rw [cmpT_gt h e]; omega

end Go.Proofs.Ytpahhhocgpohbaa

namespace Go.Proofs.Ytpahhhocgpohbaa
open Go.RowKit

theorem placeOne_any (n nm : ByteArray) (a : Option Addr) (l c : Nat) (z : Int) (w : World) : Calls Try.prog 98 #[.agg #[.string n, .slice a l c, .int .i64 z], .string nm] w fun e w' => e = .returned (.int .i64 (cmpT n nm)) ∧ Below w.heap.size w w' := by
  have hr : (w.alloc (.cells #[.string n, .slice a l c, .int .i64 z] 90)).heap[w.heap.size]? = some (.cells #[.string n, .slice a l c, .int .i64 z] 90 (0, 0)) := heap_alloc_new _ _
  obtain ⟨t0, t1, t2⟩ := cells3 hr
  have SC : Hid (∀ W, Calls Try.prog 99 #[.string n, .string nm] W fun e w' => e = .returned (.int .i64 (cmpT n nm)) ∧ w' = W) := fun W => Try.strings_Compare n nm W
  generalize cmpT n nm = x at *
  clear hr
  go_enter Try.func98, Try.ntmps98
  go_wp2_with (go_at_call 99; refine (SC.out _).mono ?_; rintro e w' ⟨rfl, hw⟩; subst hw)
  go_ret
  exact ⟨rfl, (Below.refl _ _).alloc (Nat.le_refl _) _⟩

set_option maxHeartbeats 2000000 in
set_option maxRecDepth 20000 in
theorem searchG_any (ra : Option Addr) (rc : Nat) (S : List GR) (nm : ByteArray) (w : World) (hR : GrowAt w ra S) (hn : S.length ≤ 1048576) (hS : RisG S) :
    Calls Try.prog 97 #[.slice ra S.length rc, .string nm, .func (.func 98) #[] #[]] w fun e w' => ∃ k : Nat, e = .returned (.tuple #[.int .i64 k, .bool (fndG S nm k)]) ∧ AtG S nm k ∧ Below w.heap.size w w' := by
  have HR : Hid (GrowAt w ra S) := hR
  have HS : Hid (RisG S) := hS
  clear hR hS
  obtain ⟨n, HN⟩ : ∃ n, Hid (S.length = n) := ⟨_, rfl⟩
  rw [HN.out] at hn ⊢
  go_enter Try.func97, Try.ntmps97
  go_wp2_with fail
  go_loopw [9, 10] (fun ti tj wr => ∃ i j : Nat, i ≤ j ∧ j ≤ n ∧ ti = .int .i64 i ∧ tj = .int .i64 j ∧ Below w.heap.size w wr ∧ (∀ t, t < i → ltT (S.getD t gr0).n nm = true) ∧ (∀ t, j ≤ t → t < n → ltT (S.getD t gr0).n nm = false)) (fun ti tj _ => (intOf tj).toNat - (intOf ti).toNat)
  case atStart => exact ⟨0, n, Nat.zero_le _, Nat.le_refl _, rfl, rfl, Below.refl _ _, fun t ht => by omega, fun t h1 h2 => by omega⟩
  case round =>
    obtain ⟨i, j, hij, hj, rfl, rfl, hb, hlo, hhi⟩ := hrel
    have HB : Hid (Below w.heap.size w wr) := hb
    have HLO : Hid (∀ t, t < i → ltT (S.getD t gr0).n nm = true) := hlo
    have HHI : Hid (∀ t, j ≤ t → t < n → ltT (S.getD t gr0).n nm = false) := hhi
    clear hb hlo hhi
    by_cases hlt : i < j
    · have hiI : (i : Int) < (j : Int) := by omega
      obtain ⟨h, HH⟩ : ∃ h : Nat, Hid ((i + j) / 2 = h) := ⟨_, rfl⟩
      have hhi : i ≤ h := by have := HH.out; omega
      have hhj : h < j := by have := HH.out; omega
      have hm : ((i : Int) + (j : Int)) / 2 = (h : Int) := by have := HH.out; omega
      obtain ⟨b, off, e, c1, c2, c3⟩ := (HR.out.below HB.out) h (by rw [HN.out]; omega)
      subst e
      have hhn : (h : Int) < (n : Int) := by omega
      have HLT : Hid (ltT (S.getD h gr0).n nm = true → ∀ t, t < h + 1 → ltT (S.getD t gr0).n nm = true) := fun hv t ht => by
        by_cases e : t = h
        · rw [e]; exact hv
        · exact ltT_trans (risG_lt HS.out (by omega) (by rw [HN.out]; omega)) hv
      have HGE : Hid (ltT (S.getD h gr0).n nm = false → ∀ t, h ≤ t → t < n → ltT (S.getD t gr0).n nm = false) := fun hv t h1 h2 => by
        by_cases e : t = h
        · rw [e]; exact hv
        · cases hq : ltT (S.getD t gr0).n nm
          · rfl
          · rw [ltT_trans (risG_lt HS.out (show h < t by omega) (by rw [HN.out]; exact h2)) hq] at hv
            cases hv
      generalize S.getD h gr0 = x at *
      obtain ⟨xn, xa, xps, xc, xz⟩ := x
      simp only at c1 c2 c3 HLT HGE
      obtain ⟨xl, HXL⟩ : ∃ v, Hid (xps.length = v) := ⟨_, rfl⟩
      rw [HXL.out] at c2
      cases hv : ltT xn nm
      · have HL3 : Hid (∀ t, h ≤ t → t < n → ltT (S.getD t gr0).n nm = false) := HGE.out hv
        have hd : ¬ cmpT xn nm < 0 := cmpT_ge hv
        have FO := placeOne_any xn nm xa xl xc xz wr
        generalize cmpT xn nm = cv at *
        clear hv HLT HGE
        go_wp2_with fail
        refine FO.mono ?_
        rintro e w2 ⟨rfl, hb⟩
        go_wp2
        go_roundw
        case rel => exact ⟨i, h, hhi, by omega, rfl, rfl, HB.out.trans (hb.mono HB.out.size), HLO.out, HL3.out⟩
        case measure => simp [intOf]; omega
      · have HL3 : Hid (∀ t, t < h + 1 → ltT (S.getD t gr0).n nm = true) := HLT.out hv
        have FO := placeOne_any xn nm xa xl xc xz wr
        rw [cmpT_lt hv] at FO
        clear hv HLT HGE
        go_wp2_with fail
        refine FO.mono ?_
        rintro e w2 ⟨rfl, hb⟩
        go_wp2
        go_roundw
        case rel => exact ⟨h + 1, j, by omega, hj, by first | rfl | go_num, rfl, HB.out.trans (hb.mono HB.out.size), HL3.out, HHI.out⟩
        case measure => simp [intOf]; omega
    · have hiI : ¬ ((i : Int) < (j : Int)) := by omega
      have hije : i = j := by omega
      subst hije
      have HAO : Hid (AtG S nm i) := ⟨by rw [HN.out]; exact hj, HLO.out, fun t h1 h2 => HHI.out t h1 (by rw [← HN.out]; exact h2)⟩
      clear hiI hlt hij
      by_cases hin : i < n
      · have hinI : (i : Int) < (n : Int) := by omega
        have hgd : decide ((i : Int) < (n : Int)) = true := decide_eq_true hinI
        obtain ⟨b, off, e, c1, c2, c3⟩ := (HR.out.below HB.out) i (by rw [HN.out]; omega)
        subst e
        have HGE : Hid (ltT (S.getD i gr0).n nm = false) := HHI.out i (Nat.le_refl _) hin
        obtain ⟨x, HX⟩ : ∃ x, Hid (S.getD i gr0 = x) := ⟨_, rfl⟩
        rw [HX.out] at c1 c2 c3 HGE
        obtain ⟨xn, xa, xps, xc, xz⟩ := x
        simp only at c1 c2 c3 HGE
        obtain ⟨xl, HXL⟩ : ∃ v, Hid (xps.length = v) := ⟨_, rfl⟩
        rw [HXL.out] at c2
        have FO := placeOne_any xn nm xa xl xc xz wr
        by_cases hv : xn = nm
        · have hr : fndG S nm i = true := decide_eq_true ⟨by rw [HN.out]; exact hin, by rw [HX.out]; exact hv⟩
          rw [cmpT_eq hv] at FO
          clear hv
          go_wp2_with fail
          refine FO.mono ?_
          rintro e w2 ⟨rfl, hb⟩
          go_wp2
          go_ret2
          exact ⟨i, by rw [hr]; rfl, HAO.out, HB.out.trans (hb.mono HB.out.size)⟩
        · have hr : fndG S nm i = false := decide_eq_false (fun h => by rw [HX.out] at h; exact hv h.2)
          rw [cmpT_gt HGE.out hv] at FO
          clear hv
          go_wp2_with fail
          refine FO.mono ?_
          rintro e w2 ⟨rfl, hb⟩
          go_wp2
          go_ret2
          exact ⟨i, by rw [hr]; rfl, HAO.out, HB.out.trans (hb.mono HB.out.size)⟩
      · have hinI : ¬ ((i : Int) < (n : Int)) := by omega
        have hgd : decide ((i : Int) < (n : Int)) = false := decide_eq_false hinI
        have hr : fndG S nm i = false := decide_eq_false (fun h => hin (by rw [← HN.out]; exact h.1))
        go_wp2
        go_ret2
        exact ⟨i, by rw [hr]; rfl, HAO.out, HB.out⟩

theorem cell1 {w : World} {k : Nat} {c0 : Value} {T : TypeId} (r : w.heap[k]? = some (.cells #[c0] T (0, 0))) : w.cell? ⟨k, 0, none⟩ = some c0 ∧ w.frozen? ⟨k, 0, none⟩ = false := by
  refine ⟨?_, frozen_of_row _ _ 0 _ _ r⟩
  rw [cell_of_row _ _ 0 _ _ _ r]; simp

theorem place_any (s base : Nat) (fv : Value) (S : List GR) (nm : ByteArray) (w : World) (h : SH w base s fv S) (hn : S.length ≤ 1048576) (hS : RisG S) :
    Calls Try.prog 94 #[.pointer (some ⟨s, 0, none⟩), .string nm] w fun e w' => ∃ k : Nat, e = .returned (.tuple #[.int .i64 k, .bool (fndG S nm k)]) ∧ AtG S nm k ∧ Below w.heap.size w w' := by
  obtain ⟨c0, -⟩ := cell1 h.row
  obtain ⟨ra, rc, rfl, hG⟩ := own_grows h.r rfl
  have SA : Hid (Calls Try.prog 97 #[.slice ra S.length rc, .string nm, .func (.func 98) #[] #[]] w fun e w' => ∃ k : Nat, e = .returned (.tuple #[.int .i64 k, .bool (fndG S nm k)]) ∧ AtG S nm k ∧ Below w.heap.size w w') := searchG_any ra rc S nm w hG hn hS
  clear h hG hS
  go_enter Try.func94, Try.ntmps94
  go_wp2_with fail
  refine SA.out.mono ?_
  rintro e w2 ⟨k, rfl, hk, hb⟩
  go_wp2
  go_ret2
  exact ⟨k, rfl, hk, hb⟩
theorem has_any (s base : Nat) (fv : Value) (S : List GR) (nm : ByteArray) (w : World) (h : SH w base s fv S) (hn : S.length ≤ 1048576) (hS : RisG S) :
    Calls Try.prog 108 #[.pointer (some ⟨s, 0, none⟩), .string nm] w fun e w' => e = .returned (.bool (hasF (keysG S) nm)) ∧ Below w.heap.size w w' := by
  have PA : Hid (Calls Try.prog 94 #[.pointer (some ⟨s, 0, none⟩), .string nm] w fun e w' => e = .returned (.bool (hasF (keysG S) nm)) ∧ False ∨ ∃ k : Nat, e = .returned (.tuple #[.int .i64 k, .bool (hasF (keysG S) nm)]) ∧ Below w.heap.size w w') := by
    refine (place_any s base fv S nm w h hn hS).mono ?_
    rintro e w' ⟨k, rfl, hk, hb⟩
    refine .inr ⟨k, ?_, hb⟩
    cases hf : fndG S nm k
    · rw [(dat_lost (cut_lost hk hS hf)).2]
    · have := of_decide_eq_true hf
      rw [(dat_found hS this.1 this.2).2]
  generalize hasF (keysG S) nm = b at *
  go_enter Try.func108, Try.ntmps108
  go_wp2_with fail
  refine PA.out.mono ?_
  rintro e w2 (⟨_, hf⟩ | ⟨k, rfl, hb⟩)
  · exact absurd hf id
  go_wp2
  go_ret
  exact ⟨rfl, hb⟩

end Go.Proofs.Ytpahhhocgpohbaa
