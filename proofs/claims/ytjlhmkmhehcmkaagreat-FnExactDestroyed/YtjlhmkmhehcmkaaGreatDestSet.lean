import Derived.Test.YtjlhmkmhehcmkaaGreatPack2
import Derived.Test.YtjlhmkmhehcmkaaGreatPack4
import Derived.Test.YtjlhmkmhehcmkaaGreatPack32
import Derived.Test.YtjlhmkmhehcmkaaGreatLeaveBox
import Derived.Test.YtjlhmkmhehcmkaaGreatSpecSet
import Derived.Test.YtjlhmkmhehcmkaaGreatSpecSetNo
namespace Go.Proofs.YtjlhmkmhehcmkaaGreat
open Go.RowKit
theorem first_of {p : Nat -> Prop} [DecidablePred p] : ∀ n, (∃ k, k < n /\ p k) -> ∃ k, k < n /\ p k /\ ∀ j, j < k -> ¬ p j
 | 0, h => by obtain ⟨k, hk, _⟩ := h; omega
 | n + 1, h => by
   by_cases h2 : ∃ k, k < n /\ p k
   · obtain ⟨k, h3, h4, h5⟩ := first_of n h2
     exact ⟨k, by omega, h4, h5⟩
   · obtain ⟨k, h3, h4⟩ := h
     by_cases hk : k < n
     · exact absurd ⟨k, hk, h4⟩ h2
     · have : k = n := by omega
       subst this
       exact ⟨k, h3, h4, fun j hj h6 => h2 ⟨j, hj, h6⟩⟩
theorem first_route {R : List RT} {x : Int} (hx : x ∈ allTo R R.length) : ∃ k, k < R.length /\ x ∈ (R.getD k rt0).ids /\ ∀ j, j < k -> x ∉ (R.getD j rt0).ids := by
 rw [allTo_flat] at hx
 obtain ⟨r, hr, hxr⟩ := List.mem_flatMap.1 hx
 obtain ⟨k, hk, e⟩ := mem_getD hr
 exact first_of (p := fun k => x ∈ (R.getD k rt0).ids) R.length ⟨k, hk, by show x ∈ (R.getD k rt0).ids; rw [e]; exact hxr⟩
def NP (w : World) (T : List RT) (L : List Int) (e : Ending) (w' : World) : Prop := ∃ (ra : Option Addr) (n rc gl lc : Nat) (S : List RT), e = .returned (.agg #[.slice ra n rc, .slice (some ⟨gl, 0, none⟩) L.length lc]) /\ Below w.heap.size w w' /\ S.length = n /\ S.map RT.key = T.map RT.key /\ PO w' w.heap.size (.slice ra n rc) S (.slice (some ⟨gl, 0, none⟩) L.length lc) L
theorem setCut_any {S P : List Int} {l0 i : Nat} (ra : Option Addr) (n rc gl l lc g cg cl k : Nat) (R : List RT) (L : List Int) (x : Int) (w : World) (hI : LvI S P l0 i R L) (hl : L.length <= 100) (hL : L.length = l) (hn : R.length = n) (hR : RoutesAt w ra R) (hLA : IntsAt w (some ⟨gl, 0, none⟩) L) (hk : k < R.length) (hm : x ∈ (R.getD k rt0).ids) (hcl : (cutP (R.getD k rt0).ids x).length = cl) (hX : IntsAt w (some ⟨g, 0, none⟩) (cutP (R.getD k rt0).ids x)) :
   Calls Tryz.prog 26 #[.agg #[.slice ra n rc, .slice (some ⟨gl, 0, none⟩) l lc], .agg #[.int .i64 (R.getD k rt0).v, .slice (some ⟨g, 0, none⟩) cl cg]] w (NP w (lvR R x) L) := by
 have hi : ∀ r ∈ R, r.ids ≠ [] /\ r.ids.length <= 500 := fun r hr => ⟨hI.ne r hr, by have := hI.sm r hr; omega⟩
 have h4 : R.length <= 400 := by have := hI.ln; omega
 subst hn hL hcl
 by_cases hc : cutP (R.getD k rt0).ids x = []
 · have h := l4Set_no ra (some ⟨g, 0, none⟩) gl 0 rc lc cg R L (R.getD k rt0).v w hR hLA h4 hi (by omega)
   rw [hc]
   refine h.mono ?_
   rintro e w' ⟨ra2, rc2, g2, lc2, S2, rfl, hb, hk2, ho⟩
   have h9 := leave_none hI.rs hk hI.ne hI.nd hm hc
   exact ⟨ra2, _, rc2, g2, lc2, S2, rfl, hb, rfl, by rw [hk2, <- h9]; rfl, ho⟩
 · have hlen : (cutP (R.getD k rt0).ids x).length <= 500 := by
     have h1 : (cutP (R.getD k rt0).ids x).length <= (R.getD k rt0).ids.length := by unfold cutP; exact List.length_filter_le _ _
     have h2 := hI.sm _ (getD_mem hk)
     omega
   have h := l4Set_any ra gl 0 rc lc g 0 cg R L (R.getD k rt0).v (cutP (R.getD k rt0).ids x) w hR hLA hX h4 hi (by omega) ⟨hc, hlen⟩
   refine h.mono ?_
   rintro e w' ⟨ra2, rc2, g2, lc2, S2, rfl, hb, hk2, ho⟩
   exact ⟨ra2, _, rc2, g2, lc2, S2, rfl, hb, rfl, hk2.trans (leave_spec hI.rs hk hI.ne hI.nd hm hc _ _), ho⟩
structure DS (w4 W : World) (b0 : Nat) (S P : List Int) (R0 : List RT) (L0 : List Int) (i : Nat) (ra : Option Addr) (n rc gl l lc : Nat) (R : List RT) (L : List Int) : Prop where
 b : Below w4.heap.size w4 W
 x : W.heap[w4.heap.size]? = some (.cells #[.slice ra n rc, .slice (some ⟨gl, 0, none⟩) l lc] 36 (0, 0))
 o : PO W b0 (.slice ra n rc) R (.slice (some ⟨gl, 0, none⟩) l lc) L
 rn : R.length = n
 ln : L.length = l
 iv : LvI S P L0.length i R L
 kr : R.map RT.key = (lvF S P R0 L0 i).1.map RT.key
 kl : L = (lvF S P R0 L0 i).2
theorem DS.below {w4 W W' : World} {b0 : Nat} {S P : List Int} {R0 R : List RT} {L0 L : List Int} {i n rc gl l lc : Nat} {ra : Option Addr} (h : DS w4 W b0 S P R0 L0 i ra n rc gl l lc R L) (hb : Below W.heap.size W W') : DS w4 W' b0 S P R0 L0 i ra n rc gl l lc R L :=
 ⟨h.b.trans (hb.mono h.b.size), below_row hb (row_lt h.x) h.x, h.o.below hb, h.rn, h.ln, h.iv, h.kr, h.kl⟩
structure DM (w4 W : World) (b0 : Nat) (id : Int) (ra : Option Addr) (n rc gl l lc : Nat) (Rm R : List RT) (L : List Int) : Prop where
 b : Below w4.heap.size w4 W
 x : W.heap[w4.heap.size]? = some (.cells #[.slice ra n rc, .slice (some ⟨gl, 0, none⟩) l lc] 36 (0, 0))
 o : PO W b0 (.slice ra n rc) R (.slice (some ⟨gl, 0, none⟩) l lc) L
 rn : R.length = n
 ln : L.length = l
 kr : R.map RT.key = (lvR Rm id).map RT.key
theorem DS.mid {w4 W w1 w2 : World} {b0 : Nat} {S P : List Int} {R0 R : List RT} {L0 L : List Int} {i n rc gl l lc : Nat} {ra : Option Addr} {x : Int} {e : Ending} (h : DS w4 W b0 S P R0 L0 i ra n rc gl l lc R L) (h0 : b0 <= w4.heap.size) (hb1 : Below W.heap.size W w1) (ht : NP w1 (lvR R x) L e w2) :
   ∃ (ra2 : Option Addr) (n2 rc2 g2 lc2 : Nat) (R2 : List RT), e = .returned (.agg #[.slice ra2 n2 rc2, .slice (some ⟨g2, 0, none⟩) l lc2]) /\ Below W.heap.size W w2 /\ DM w4 ((w2.setCell ⟨w4.heap.size, 0, none⟩ (.slice ra2 n2 rc2)).setCell ⟨w4.heap.size, 1, none⟩ (.slice (some ⟨g2, 0, none⟩) l lc2)) b0 x ra2 n2 rc2 g2 l lc2 R R2 L := by
 obtain ⟨ra2, n2, rc2, g2, lc2, S2, rfl, hb, hn, hk, ho⟩ := ht
 rw [h.ln] at ho ⊢
 have hb2 := hb1.trans (hb.mono hb1.size)
 have hx := below_row hb2 (row_lt h.x) h.x
 have s1 := heap_setCell_same w2 w4.heap.size 0 _ _ (Value.slice ra2 n2 rc2) hx
 simp only [List.setIfInBounds_toArray, List.set_cons_zero] at s1
 have s2 := heap_setCell_same _ w4.heap.size 1 _ _ (Value.slice (some ⟨g2, 0, none⟩) l lc2) s1
 simp only [List.setIfInBounds_toArray, List.set_cons_zero, List.set_cons_succ] at s2
 have ho' := ho.base (Nat.le_trans h0 (Nat.le_trans h.b.size hb1.size))
 exact ⟨ra2, n2, rc2, g2, lc2, S2, rfl, hb2, ((h.b.trans (hb2.mono h.b.size)).setCell (Nat.le_refl _) _).setCell (Nat.le_refl _) _, s2, (ho'.box hx).box s1, hn, h.ln, hk⟩
theorem DM.below {w4 W W' : World} {b0 n rc gl l lc : Nat} {x : Int} {ra : Option Addr} {Rm R : List RT} {L : List Int} (h : DM w4 W b0 x ra n rc gl l lc Rm R L) (hb : Below W.heap.size W W') : DM w4 W' b0 x ra n rc gl l lc Rm R L :=
 ⟨h.b.trans (hb.mono h.b.size), below_row hb (row_lt h.x) h.x, h.o.below hb, h.rn, h.ln, h.kr⟩
theorem DM.put {w4 W w1 : World} {b0 g cc : Nat} {S P : List Int} {R0 Rm R : List RT} {L0 L : List Int} {i n rc gl l lc : Nat} {ra : Option Addr} (h : DM w4 W b0 (pkd S P i) ra n rc gl l lc Rm R L) (h0 : b0 <= w4.heap.size) (hd : ∀ i j, i < j -> j < P.length -> pkd S P i ≠ pkd S P j) (hi : i < P.length) (hv : LvI S P L0.length i Rm L) (hkr : Rm.map RT.key = (lvF S P R0 L0 i).1.map RT.key) (hkl : L = (lvF S P R0 L0 i).2) (hb : Below W.heap.size W w1) (ho : w1.ownsRow W.heap.size 2 1 (.slice (some ⟨g, 0, none⟩) (l + 1) cc) (l + 1) ((putS L (pkd S P i)).map (Value.int .i64))) :
   DS w4 (w1.setCell ⟨w4.heap.size, 1, none⟩ (.slice (some ⟨g, 0, none⟩) (l + 1) cc)) b0 S P R0 L0 (i + 1) ra n rc g (l + 1) cc R (putS L (pkd S P i)) := by
 have h1 := h.below hb
 have s2 := heap_setCell_same _ w4.heap.size 1 _ _ (Value.slice (some ⟨g, 0, none⟩) (l + 1) cc) h1.x
 simp only [List.setIfInBounds_toArray, List.set_cons_zero, List.set_cons_succ] at s2
 have hl : (putS L (pkd S P i)).length = l + 1 := by rw [putS_len, h.ln]
 have hp : PO w1 b0 (.slice ra n rc) R (.slice (some ⟨g, 0, none⟩) (l + 1) cc) (putS L (pkd S P i)) := ⟨h1.o.r, h1.o.s, by rw [hl]; exact owns_base ho (Nat.le_trans h0 h.b.size)⟩
 refine ⟨h1.b.setCell (Nat.le_refl _) _, s2, hp.box h1.x, h.rn, hl, (hv.step hd hi).key h.kr, ?_, ?_⟩
 · rw [h.kr, lvF]
   exact lvR_key hkr _
 · rw [lvF, <- hkl]
end Go.Proofs.YtjlhmkmhehcmkaaGreat