import Derived.Test.YtdbdmlabfbmjfaaGreatPack3
import Derived.Test.YtdbdmlabfbmjfaaGreatPack7
import Derived.Test.YtdbdmlabfbmjfaaGreatPack13
import Derived.Test.YtdbdmlabfbmjfaaGreatLeaving
import Derived.Test.YtdbdmlabfbmjfaaGreatPack32
import Derived.Test.YtdbdmlabfbmjfaaGreatPack33
import Derived.Deep.RegionHeld
namespace Go.Proofs.YtdbdmlabfbmjfaaGreat
open Go.RowKit
theorem ints_ownL {w : World} {base n c : Nat} {a : Option Addr} {l : List Int} (h : w.ownsRow base 2 1 (.slice a n c) n (l.map (Value.int .i64))) : IntsAt w a l := fun j hj => by
 rcases own_kinds h with ⟨_, h2⟩ | ⟨g, c', h2, _⟩
 · have := h.1
   rw [List.length_map] at this
   omega
 · simp only [Value.slice.injEq, true_and] at h2
   obtain ⟨rfl, rfl⟩ := h2
   refine ⟨g, 0, rfl, ?_⟩
   rw [Nat.zero_add]
   refine (own_cellV h ?_).1
   rw [List.getElem?_map, List.getElem?_eq_getElem hj, List.getD_eq_getElem?_getD, List.getElem?_eq_getElem hj]
   rfl
theorem not_int {W : World} {k : Nat} {T : TypeId} {a1 a2 : Option Addr} {n1 c1 n2 c2 : Nat} (hr : W.heap[k]? = some (.cells #[.slice a1 n1 c1, .slice a2 n2 c2] T (0, 0))) {o : Nat} {x : Int} (h : W.cell? ⟨k, o, none⟩ = some (.int .i64 x)) : False := by
 obtain ⟨p0, p1⟩ := cells2 hr
 rcases o with _ | _ | o
 · rw [p0] at h; cases h
 · rw [p1] at h; cases h
 · simp [World.cell?, hr] at h
theorem ints_boxL {W : World} {k : Nat} {T : TypeId} {a1 a2 a : Option Addr} {n1 c1 n2 c2 : Nat} {zs : List Int} (h : IntsAt W a zs) (hr : W.heap[k]? = some (.cells #[.slice a1 n1 c1, .slice a2 n2 c2] T (0, 0))) (i : Nat) (x : Value) : IntsAt (W.setCell ⟨k, i, none⟩ x) a zs := fun j hj => by
 obtain ⟨b, off, e, hc⟩ := h j hj
 exact ⟨b, off, e, (World.cell?_setCell_far W ⟨k, i, none⟩ ⟨b, off + j, none⟩ x (fun e9 => by subst e9; exact not_int hr hc)).trans hc⟩
theorem routes_boxL {W : World} {k : Nat} {T : TypeId} {a1 a2 ra : Option Addr} {n1 c1 n2 c2 : Nat} {R : List RT} (h : RoutesAt W ra R) (hr : W.heap[k]? = some (.cells #[.slice a1 n1 c1, .slice a2 n2 c2] T (0, 0))) (i : Nat) (x : Value) : RoutesAt (W.setCell ⟨k, i, none⟩ x) ra R := fun j hj => by
 obtain ⟨b, off, e, h1, h2, h3⟩ := h j hj
 have hne : k ≠ b := fun e9 => by subst e9; exact not_int hr h1
 exact ⟨b, off, e, (World.cell?_setCell_far W ⟨k, i, none⟩ ⟨b, off + j * 2, none⟩ x hne).trans h1, (World.cell?_setCell_far W ⟨k, i, none⟩ ⟨b, off + j * 2 + 1, none⟩ x hne).trans h2, ints_boxL h3 hr i x⟩
def lvF (S P : List Int) (R : List RT) (L : List Int) : Nat -> List RT × List Int
 | 0 => (R, L)
 | i + 1 => (lvR (lvF S P R L i).1 (pkd S P i), putS (lvF S P R L i).2 (pkd S P i))
structure DL (W4 W : World) (S P : List Int) (R0 : List RT) (L0 : List Int) (i : Nat) (ra : Option Addr) (n rc : Nat) (la : Option Addr) (l lc : Nat) (R : List RT) (L : List Int) : Prop where
 b : Below W4.heap.size W4 W
 x : W.heap[W4.heap.size]? = some (.cells #[.slice ra n rc, .slice la l lc] 33 (0, 0))
 r : RoutesAt W ra R
 rn : R.length = n
 s : IntsAt W la L
 ln : L.length = l
 iv : LvI S P L0.length i R L
 kr : R.map RT.key = (lvF S P R0 L0 i).1.map RT.key
 kl : L = (lvF S P R0 L0 i).2
 fr : (ra = none /\ R.length = 0) ∨ ∃ b off, ra = some ⟨b, off, none⟩
 fl : (la = none /\ l = 0) ∨ ∃ b off, la = some ⟨b, off, none⟩
 c : ∀ r ∈ R, r.ids.length <= r.c
theorem DL.below {W4 W W' : World} {S P : List Int} {R0 R : List RT} {L0 L : List Int} {i n rc l lc : Nat} {ra la : Option Addr} (h : DL W4 W S P R0 L0 i ra n rc la l lc R L) (hb : Below W.heap.size W W') : DL W4 W' S P R0 L0 i ra n rc la l lc R L :=
 ⟨h.b.trans (hb.mono h.b.size), below_row hb (row_lt h.x) h.x, h.r.below hb, h.rn, h.s.below hb, h.ln, h.iv, h.kr, h.kl, h.fr, h.fl, h.c⟩
theorem DL.step {W4 W w1 : World} {S P : List Int} {R0 R : List RT} {L0 L : List Int} {i n rc l lc k at_ : Nat} {ra la : Option Addr} {e : Ending} (h : DL W4 W S P R0 L0 i ra n rc la l lc R L) (hd : ∀ i j, i < j -> j < P.length -> pkd S P i ≠ pkd S P j) (hi : i < P.length) (hk : k < R.length) (hin : at_ < (R.getD k rt0).ids.length) (hid : (R.getD k rt0).ids.getD at_ 0 = pkd S P i) (ht : LeaveOk W R L (pkd S P i) (R.getD k rt0) at_ e w1) :
   ∃ (ra2 : Option Addr) (n2 rc2 : Nat) (la2 : Option Addr) (l2 lc2 : Nat) (R2 : List RT) (L2 : List Int), e = .returned (.agg #[.slice ra2 n2 rc2, .slice la2 l2 lc2]) /\ Below W.heap.size W w1 ∧
     DL W4 ((w1.setCell ⟨W4.heap.size, 0, none⟩ (.slice ra2 n2 rc2)).setCell ⟨W4.heap.size, 1, none⟩ (.slice la2 l2 lc2)) S P R0 L0 (i + 1) ra2 n2 rc2 la2 l2 lc2 R2 L2 := by
 obtain ⟨g, c, g2, c2, kp, rs, rfl, hb, hat, ho1, ho2, ho3⟩ := ht
 obtain ⟨ra2, rc2, rfl⟩ := own_formL ho2
 have hx := below_row hb (row_lt h.x) h.x
 have hx1 : (w1.setCell ⟨W4.heap.size, 0, none⟩ (.slice ra2 (wrL R ⟨(R.getD k rt0).v, some ⟨g, 0, none⟩, remL (R.getD k rt0).ids at_, c⟩).length rc2)).heap[W4.heap.size]? = some (.cells #[.slice ra2 (wrL R ⟨(R.getD k rt0).v, some ⟨g, 0, none⟩, remL (R.getD k rt0).ids at_, c⟩).length rc2, .slice la l lc] 33 (0, 0)) := by
   have := heap_setCell_same w1 W4.heap.size 0 _ _ (.slice ra2 (wrL R ⟨(R.getD k rt0).v, some ⟨g, 0, none⟩, remL (R.getD k rt0).ids at_, c⟩).length rc2) hx
   simpa using this
 have hx2 := heap_setCell_same _ W4.heap.size 1 _ _ (.slice (some ⟨g2, 0, none⟩) (L.length + 1) c2) hx1
 have hkey := leave_impl h.iv.rs hk h.iv.ne h.iv.nd hin hid (some ⟨g, 0, none⟩) c
 have hR : RoutesAt w1 ra2 (wrL R ⟨(R.getD k rt0).v, some ⟨g, 0, none⟩, remL (R.getD k rt0).ids at_, c⟩) := routes_of_own ho2 (fun s hs => by
   rcases wrL_mem hs with hs | rfl
   · obtain ⟨j, hj, rfl⟩ := mem_getD hs
     obtain ⟨_, _, _, _, _, h3⟩ := h.r j hj
     exact h3.below hb
   · exact ints_ownL ho1)
 have hL : IntsAt w1 (some ⟨g2, 0, none⟩) (insL L kp (pkd S P i)) := ints_ownL ho3
 rw [insL_put hat] at hL
 refine ⟨ra2, _, rc2, some ⟨g2, 0, none⟩, L.length + 1, c2, _, putS L (pkd S P i), rfl, hb, ⟨?_, by simpa using hx2, routes_boxL (routes_boxL hR hx 0 _) hx1 1 _, rfl, ints_boxL (ints_boxL hL hx 0 _) hx1 1 _, by rw [putS_len], (h.iv.step hd hi).key hkey, ?_, ?_, ?_, .inr ⟨g2, 0, rfl⟩, fun r hr => ?_⟩⟩
 · exact ((h.b.trans (hb.mono h.b.size)).setCell (Nat.le_refl _) _).setCell (Nat.le_refl _) _
 · rw [hkey, lvF]
   exact lvR_key h.kr _
 · rw [lvF, <- h.kl]
 · rcases own_kinds ho2 with ⟨h1, h2⟩ | ⟨g9, c9, h1, _⟩
   · injection h1 with h1 _ _
     exact .inl ⟨h1, h2⟩
   · injection h1 with h1 _ _
     exact .inr ⟨g9, 0, h1⟩
 · rcases wrL_mem hr with hr | rfl
   · exact h.c r hr
   · exact own_capg ho1
theorem first_of {p : Nat -> Prop} [DecidablePred p] : ∀ n, (∃ k, k < n /\ p k) -> ∃ k, k < n /\ p k /\ ∀ j, j < k -> ¬ p j
 | 0, h => by obtain ⟨k, hk, _⟩ := h; omega
 | n + 1, h => by
   by_cases h2 : ∃ k, k < n /\ p k
   · obtain ⟨k, h3, h4, h5⟩ := first_of n h2
     exact ⟨k, by omega, h4, h5⟩
   · obtain ⟨k, h3, h4⟩ := h
     by_cases hk : k < n
     · exact absurd ⟨k, hk, h4⟩ h2
     · have : k = n := by omega
       subst this
       exact ⟨k, h3, h4, fun j hj h6 => h2 ⟨j, hj, h6⟩⟩
theorem first_route {R : List RT} {x : Int} (hx : x ∈ allTo R R.length) : ∃ k, k < R.length /\ x ∈ (R.getD k rt0).ids /\ ∀ j, j < k -> x ∉ (R.getD j rt0).ids := by
 rw [allTo_flat] at hx
 obtain ⟨r, hr, hxr⟩ := List.mem_flatMap.1 hx
 obtain ⟨k, hk, e⟩ := mem_getD hr
 exact first_of (p := fun k => x ∈ (R.getD k rt0).ids) R.length ⟨k, hk, by show x ∈ (R.getD k rt0).ids; rw [e]; exact hxr⟩
def NP (w : World) (T : List RT) (L : List Int) (e : Ending) (w' : World) : Prop := ∃ (ra : Option Addr) (n rc gl lc : Nat) (S : List RT), e = .returned (.agg #[.slice ra n rc, .slice (some ⟨gl, 0, none⟩) L.length lc]) /\ Below w.heap.size w w' /\ S.length = n /\ S.map RT.key = T.map RT.key /\ PO w' w.heap.size (.slice ra n rc) S (.slice (some ⟨gl, 0, none⟩) L.length lc) L
theorem setCut_any {S P : List Int} {l0 i : Nat} (ra : Option Addr) (n rc gl l lc g cg cl k : Nat) (R : List RT) (L : List Int) (x : Int) (w : World) (hI : LvI S P l0 i R L) (hl : L.length <= 100) (hL : L.length = l) (hn : R.length = n) (hR : RoutesAt w ra R) (hLA : IntsAt w (some ⟨gl, 0, none⟩) L) (hk : k < R.length) (hm : x ∈ (R.getD k rt0).ids) (hcl : (cutP (R.getD k rt0).ids x).length = cl) (hX : IntsAt w (some ⟨g, 0, none⟩) (cutP (R.getD k rt0).ids x)) :
   Calls Tryz.prog 27 #[.agg #[.slice ra n rc, .slice (some ⟨gl, 0, none⟩) l lc], .agg #[.int .i64 (R.getD k rt0).v, .slice (some ⟨g, 0, none⟩) cl cg]] w (NP w (lvR R x) L) := by
 have hi : ∀ r ∈ R, r.ids ≠ [] /\ r.ids.length <= 500 := fun r hr => ⟨hI.ne r hr, by have := hI.sm r hr; omega⟩
 have h4 : R.length <= 400 := by have := hI.ln; omega
 subst hn hL hcl
 by_cases hc : cutP (R.getD k rt0).ids x = []
 · have h := l4Set_no ra (some ⟨g, 0, none⟩) gl 0 rc lc cg R L (R.getD k rt0).v w hR hLA h4 hi (by omega)
   rw [hc]
   refine h.mono ?_
   rintro e w' ⟨ra2, rc2, g2, lc2, S2, rfl, hb, hk2, ho⟩
   have h9 := leave_none hI.rs hk hI.ne hI.nd hm hc
   exact ⟨ra2, _, rc2, g2, lc2, S2, rfl, hb, rfl, by rw [hk2, <- h9]; rfl, ho⟩
 · have hlen : (cutP (R.getD k rt0).ids x).length <= 500 := by
     have h1 : (cutP (R.getD k rt0).ids x).length <= (R.getD k rt0).ids.length := by unfold cutP; exact List.length_filter_le _ _
     have h2 := hI.sm _ (getD_mem hk)
     omega
   have h := l4Set_any ra gl 0 rc lc g 0 cg R L (R.getD k rt0).v (cutP (R.getD k rt0).ids x) w hR hLA hX h4 hi (by omega) ⟨hc, hlen⟩
   refine h.mono ?_
   rintro e w' ⟨ra2, rc2, g2, lc2, S2, rfl, hb, hk2, ho⟩
   exact ⟨ra2, _, rc2, g2, lc2, S2, rfl, hb, rfl, hk2.trans (leave_spec hI.rs hk hI.ne hI.nd hm hc _ _), ho⟩
structure DS (w4 W : World) (b0 : Nat) (S P : List Int) (R0 : List RT) (L0 : List Int) (i : Nat) (ra : Option Addr) (n rc gl l lc : Nat) (R : List RT) (L : List Int) : Prop where
 b : Below w4.heap.size w4 W
 x : W.heap[w4.heap.size]? = some (.cells #[.slice ra n rc, .slice (some ⟨gl, 0, none⟩) l lc] 33 (0, 0))
 o : PO W b0 (.slice ra n rc) R (.slice (some ⟨gl, 0, none⟩) l lc) L
 rn : R.length = n
 ln : L.length = l
 iv : LvI S P L0.length i R L
 kr : R.map RT.key = (lvF S P R0 L0 i).1.map RT.key
 kl : L = (lvF S P R0 L0 i).2
theorem DS.below {w4 W W' : World} {b0 : Nat} {S P : List Int} {R0 R : List RT} {L0 L : List Int} {i n rc gl l lc : Nat} {ra : Option Addr} (h : DS w4 W b0 S P R0 L0 i ra n rc gl l lc R L) (hb : Below W.heap.size W W') : DS w4 W' b0 S P R0 L0 i ra n rc gl l lc R L :=
 ⟨h.b.trans (hb.mono h.b.size), below_row hb (row_lt h.x) h.x, h.o.below hb, h.rn, h.ln, h.iv, h.kr, h.kl⟩
structure DM (w4 W : World) (b0 : Nat) (id : Int) (ra : Option Addr) (n rc gl l lc : Nat) (Rm R : List RT) (L : List Int) : Prop where
 b : Below w4.heap.size w4 W
 x : W.heap[w4.heap.size]? = some (.cells #[.slice ra n rc, .slice (some ⟨gl, 0, none⟩) l lc] 33 (0, 0))
 o : PO W b0 (.slice ra n rc) R (.slice (some ⟨gl, 0, none⟩) l lc) L
 rn : R.length = n
 ln : L.length = l
 kr : R.map RT.key = (lvR Rm id).map RT.key
theorem DS.mid {w4 W w1 w2 : World} {b0 : Nat} {S P : List Int} {R0 R : List RT} {L0 L : List Int} {i n rc gl l lc : Nat} {ra : Option Addr} {x : Int} {e : Ending} (h : DS w4 W b0 S P R0 L0 i ra n rc gl l lc R L) (h0 : b0 <= w4.heap.size) (hb1 : Below W.heap.size W w1) (ht : NP w1 (lvR R x) L e w2) :
   ∃ (ra2 : Option Addr) (n2 rc2 g2 lc2 : Nat) (R2 : List RT), e = .returned (.agg #[.slice ra2 n2 rc2, .slice (some ⟨g2, 0, none⟩) l lc2]) /\ Below W.heap.size W w2 /\ DM w4 ((w2.setCell ⟨w4.heap.size, 0, none⟩ (.slice ra2 n2 rc2)).setCell ⟨w4.heap.size, 1, none⟩ (.slice (some ⟨g2, 0, none⟩) l lc2)) b0 x ra2 n2 rc2 g2 l lc2 R R2 L := by
 obtain ⟨ra2, n2, rc2, g2, lc2, S2, rfl, hb, hn, hk, ho⟩ := ht
 rw [h.ln] at ho ⊢
 have hb2 := hb1.trans (hb.mono hb1.size)
 have hx := below_row hb2 (row_lt h.x) h.x
 have s1 := heap_setCell_same w2 w4.heap.size 0 _ _ (Value.slice ra2 n2 rc2) hx
 simp only [List.setIfInBounds_toArray, List.set_cons_zero] at s1
 have s2 := heap_setCell_same _ w4.heap.size 1 _ _ (Value.slice (some ⟨g2, 0, none⟩) l lc2) s1
 simp only [List.setIfInBounds_toArray, List.set_cons_zero, List.set_cons_succ] at s2
 have ho' := ho.base (Nat.le_trans h0 (Nat.le_trans h.b.size hb1.size))
 exact ⟨ra2, n2, rc2, g2, lc2, S2, rfl, hb2, ((h.b.trans (hb2.mono h.b.size)).setCell (Nat.le_refl _) _).setCell (Nat.le_refl _) _, s2, (ho'.box hx).box s1, hn, h.ln, hk⟩
theorem DM.below {w4 W W' : World} {b0 n rc gl l lc : Nat} {x : Int} {ra : Option Addr} {Rm R : List RT} {L : List Int} (h : DM w4 W b0 x ra n rc gl l lc Rm R L) (hb : Below W.heap.size W W') : DM w4 W' b0 x ra n rc gl l lc Rm R L :=
 ⟨h.b.trans (hb.mono h.b.size), below_row hb (row_lt h.x) h.x, h.o.below hb, h.rn, h.ln, h.kr⟩
theorem DM.put {w4 W w1 : World} {b0 g cc : Nat} {S P : List Int} {R0 Rm R : List RT} {L0 L : List Int} {i n rc gl l lc : Nat} {ra : Option Addr} (h : DM w4 W b0 (pkd S P i) ra n rc gl l lc Rm R L) (h0 : b0 <= w4.heap.size) (hd : ∀ i j, i < j -> j < P.length -> pkd S P i ≠ pkd S P j) (hi : i < P.length) (hv : LvI S P L0.length i Rm L) (hkr : Rm.map RT.key = (lvF S P R0 L0 i).1.map RT.key) (hkl : L = (lvF S P R0 L0 i).2) (hb : Below W.heap.size W w1) (ho : w1.ownsRow W.heap.size 2 1 (.slice (some ⟨g, 0, none⟩) (l + 1) cc) (l + 1) ((putS L (pkd S P i)).map (Value.int .i64))) :
   DS w4 (w1.setCell ⟨w4.heap.size, 1, none⟩ (.slice (some ⟨g, 0, none⟩) (l + 1) cc)) b0 S P R0 L0 (i + 1) ra n rc g (l + 1) cc R (putS L (pkd S P i)) := by
 have h1 := h.below hb
 have s2 := heap_setCell_same _ w4.heap.size 1 _ _ (Value.slice (some ⟨g, 0, none⟩) (l + 1) cc) h1.x
 simp only [List.setIfInBounds_toArray, List.set_cons_zero, List.set_cons_succ] at s2
 have hl : (putS L (pkd S P i)).length = l + 1 := by rw [putS_len, h.ln]
 have hp : PO w1 b0 (.slice ra n rc) R (.slice (some ⟨g, 0, none⟩) (l + 1) cc) (putS L (pkd S P i)) := ⟨h1.o.r, h1.o.s, by rw [hl]; exact owns_base ho (Nat.le_trans h0 h.b.size)⟩
 refine ⟨h1.b.setCell (Nat.le_refl _) _, s2, hp.box h1.x, h.rn, hl, (hv.step hd hi).key h.kr, ?_, ?_⟩
 · rw [h.kr, lvF]
   exact lvR_key hkr _
 · rw [lvF, <- hkl]
end Go.Proofs.YtdbdmlabfbmjfaaGreat
