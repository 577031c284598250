import Derived.Test.YtjlhmkmhehcmkaaGreatLeaving
import Derived.Test.YtjlhmkmhehcmkaaGreatPack30
import Derived.Test.YtjlhmkmhehcmkaaGreatPack32
import Derived.Deep.RegionHeld
namespace Go.Proofs.YtjlhmkmhehcmkaaGreat
open Go.RowKit
theorem ints_ownL {w : World} {base n c : Nat} {a : Option Addr} {l : List Int} (h : w.ownsRow base 2 1 (.slice a n c) n (l.map (Value.int .i64))) : IntsAt w a l := fun j hj => by
 rcases own_kinds h with ⟨_, h2⟩ | ⟨g, c', h2, _⟩
 · have := h.1
   rw [List.length_map] at this
   omega
 · simp only [Value.slice.injEq, true_and] at h2
   obtain ⟨rfl, rfl⟩ := h2
   refine ⟨g, 0, rfl, ?_⟩
   rw [Nat.zero_add]
   refine (own_cellV h ?_).1
   rw [List.getElem?_map, List.getElem?_eq_getElem hj, List.getD_eq_getElem?_getD, List.getElem?_eq_getElem hj]
   rfl
theorem not_int {W : World} {k : Nat} {T : TypeId} {a1 a2 : Option Addr} {n1 c1 n2 c2 : Nat} (hr : W.heap[k]? = some (.cells #[.slice a1 n1 c1, .slice a2 n2 c2] T (0, 0))) {o : Nat} {x : Int} (h : W.cell? ⟨k, o, none⟩ = some (.int .i64 x)) : False := by
 obtain ⟨p0, p1⟩ := cells2 hr
 rcases o with _ | _ | o
 · rw [p0] at h; cases h
 · rw [p1] at h; cases h
 · simp [World.cell?, hr] at h
theorem ints_boxL {W : World} {k : Nat} {T : TypeId} {a1 a2 a : Option Addr} {n1 c1 n2 c2 : Nat} {zs : List Int} (h : IntsAt W a zs) (hr : W.heap[k]? = some (.cells #[.slice a1 n1 c1, .slice a2 n2 c2] T (0, 0))) (i : Nat) (x : Value) : IntsAt (W.setCell ⟨k, i, none⟩ x) a zs := fun j hj => by
 obtain ⟨b, off, e, hc⟩ := h j hj
 exact ⟨b, off, e, (World.cell?_setCell_far W ⟨k, i, none⟩ ⟨b, off + j, none⟩ x (fun e9 => by subst e9; exact not_int hr hc)).trans hc⟩
theorem routes_boxL {W : World} {k : Nat} {T : TypeId} {a1 a2 ra : Option Addr} {n1 c1 n2 c2 : Nat} {R : List RT} (h : RoutesAt W ra R) (hr : W.heap[k]? = some (.cells #[.slice a1 n1 c1, .slice a2 n2 c2] T (0, 0))) (i : Nat) (x : Value) : RoutesAt (W.setCell ⟨k, i, none⟩ x) ra R := fun j hj => by
 obtain ⟨b, off, e, h1, h2, h3⟩ := h j hj
 have hne : k ≠ b := fun e9 => by subst e9; exact not_int hr h1
 exact ⟨b, off, e, (World.cell?_setCell_far W ⟨k, i, none⟩ ⟨b, off + j * 2, none⟩ x hne).trans h1, (World.cell?_setCell_far W ⟨k, i, none⟩ ⟨b, off + j * 2 + 1, none⟩ x hne).trans h2, ints_boxL h3 hr i x⟩
def lvF (S P : List Int) (R : List RT) (L : List Int) : Nat -> List RT × List Int
 | 0 => (R, L)
 | i + 1 => (lvR (lvF S P R L i).1 (pkd S P i), putS (lvF S P R L i).2 (pkd S P i))
structure DL (W4 W : World) (S P : List Int) (R0 : List RT) (L0 : List Int) (i : Nat) (ra : Option Addr) (n rc : Nat) (la : Option Addr) (l lc : Nat) (R : List RT) (L : List Int) : Prop where
 b : Below W4.heap.size W4 W
 x : W.heap[W4.heap.size]? = some (.cells #[.slice ra n rc, .slice la l lc] 36 (0, 0))
 r : RoutesAt W ra R
 rn : R.length = n
 s : IntsAt W la L
 ln : L.length = l
 iv : LvI S P L0.length i R L
 kr : R.map RT.key = (lvF S P R0 L0 i).1.map RT.key
 kl : L = (lvF S P R0 L0 i).2
 fr : (ra = none /\ R.length = 0) ∨ ∃ b off, ra = some ⟨b, off, none⟩
 fl : (la = none /\ l = 0) ∨ ∃ b off, la = some ⟨b, off, none⟩
 c : ∀ r ∈ R, r.ids.length <= r.c
theorem DL.below {W4 W W' : World} {S P : List Int} {R0 R : List RT} {L0 L : List Int} {i n rc l lc : Nat} {ra la : Option Addr} (h : DL W4 W S P R0 L0 i ra n rc la l lc R L) (hb : Below W.heap.size W W') : DL W4 W' S P R0 L0 i ra n rc la l lc R L :=
 ⟨h.b.trans (hb.mono h.b.size), below_row hb (row_lt h.x) h.x, h.r.below hb, h.rn, h.s.below hb, h.ln, h.iv, h.kr, h.kl, h.fr, h.fl, h.c⟩
theorem DL.step {W4 W w1 : World} {S P : List Int} {R0 R : List RT} {L0 L : List Int} {i n rc l lc k at_ : Nat} {ra la : Option Addr} {e : Ending} (h : DL W4 W S P R0 L0 i ra n rc la l lc R L) (hd : ∀ i j, i < j -> j < P.length -> pkd S P i ≠ pkd S P j) (hi : i < P.length) (hk : k < R.length) (hin : at_ < (R.getD k rt0).ids.length) (hid : (R.getD k rt0).ids.getD at_ 0 = pkd S P i) (ht : LeaveOk W R L (pkd S P i) (R.getD k rt0) at_ e w1) :
   ∃ (ra2 : Option Addr) (n2 rc2 : Nat) (la2 : Option Addr) (l2 lc2 : Nat) (R2 : List RT) (L2 : List Int), e = .returned (.agg #[.slice ra2 n2 rc2, .slice la2 l2 lc2]) /\ Below W.heap.size W w1 ∧
     DL W4 ((w1.setCell ⟨W4.heap.size, 0, none⟩ (.slice ra2 n2 rc2)).setCell ⟨W4.heap.size, 1, none⟩ (.slice la2 l2 lc2)) S P R0 L0 (i + 1) ra2 n2 rc2 la2 l2 lc2 R2 L2 := by
 obtain ⟨g, c, g2, c2, kp, rs, rfl, hb, hat, ho1, ho2, ho3⟩ := ht
 obtain ⟨ra2, rc2, rfl⟩ := own_formL ho2
 have hx := below_row hb (row_lt h.x) h.x
 have hx1 : (w1.setCell ⟨W4.heap.size, 0, none⟩ (.slice ra2 (wrL R ⟨(R.getD k rt0).v, some ⟨g, 0, none⟩, remL (R.getD k rt0).ids at_, c⟩).length rc2)).heap[W4.heap.size]? = some (.cells #[.slice ra2 (wrL R ⟨(R.getD k rt0).v, some ⟨g, 0, none⟩, remL (R.getD k rt0).ids at_, c⟩).length rc2, .slice la l lc] 36 (0, 0)) := by
   have := heap_setCell_same w1 W4.heap.size 0 _ _ (.slice ra2 (wrL R ⟨(R.getD k rt0).v, some ⟨g, 0, none⟩, remL (R.getD k rt0).ids at_, c⟩).length rc2) hx
   simpa using this
 have hx2 := heap_setCell_same _ W4.heap.size 1 _ _ (.slice (some ⟨g2, 0, none⟩) (L.length + 1) c2) hx1
 have hkey := leave_impl h.iv.rs hk h.iv.ne h.iv.nd hin hid (some ⟨g, 0, none⟩) c
 have hR : RoutesAt w1 ra2 (wrL R ⟨(R.getD k rt0).v, some ⟨g, 0, none⟩, remL (R.getD k rt0).ids at_, c⟩) := routes_of_own ho2 (fun s hs => by
   rcases wrL_mem hs with hs | rfl
   · obtain ⟨j, hj, rfl⟩ := mem_getD hs
     obtain ⟨_, _, _, _, _, h3⟩ := h.r j hj
     exact h3.below hb
   · exact ints_ownL ho1)
 have hL : IntsAt w1 (some ⟨g2, 0, none⟩) (insL L kp (pkd S P i)) := ints_ownL ho3
 rw [insL_put hat] at hL
 refine ⟨ra2, _, rc2, some ⟨g2, 0, none⟩, L.length + 1, c2, _, putS L (pkd S P i), rfl, hb, ⟨?_, by simpa using hx2, routes_boxL (routes_boxL hR hx 0 _) hx1 1 _, rfl, ints_boxL (ints_boxL hL hx 0 _) hx1 1 _, by rw [putS_len], (h.iv.step hd hi).key hkey, ?_, ?_, ?_, .inr ⟨g2, 0, rfl⟩, fun r hr => ?_⟩⟩
 · exact ((h.b.trans (hb.mono h.b.size)).setCell (Nat.le_refl _) _).setCell (Nat.le_refl _) _
 · rw [hkey, lvF]
   exact lvR_key h.kr _
 · rw [lvF, <- h.kl]
 · rcases own_kinds ho2 with ⟨h1, h2⟩ | ⟨g9, c9, h1, _⟩
   · injection h1 with h1 _ _
     exact .inl ⟨h1, h2⟩
   · injection h1 with h1 _ _
     exact .inr ⟨g9, 0, h1⟩
 · rcases wrL_mem hr with hr | rfl
   · exact h.c r hr
   · exact own_capg ho1
end Go.Proofs.YtjlhmkmhehcmkaaGreat