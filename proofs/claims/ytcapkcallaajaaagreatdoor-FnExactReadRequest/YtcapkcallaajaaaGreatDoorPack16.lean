import Derived.Test.YtcapkcallaajaaaGreatDoorPack3
import Derived.Test.YtcapkcallaajaaaGreatDoorPack4
import Derived.Test.YtcapkcallaajaaaGreatDoorPack7
import Derived.Test.YtcapkcallaajaaaGreatDoorPack15
namespace Go.Proofs.YtcapkcallaajaaaGreatDoor
open Go.RowKit
theorem infoRtR : (Tryz.prog.info? 65).map (fun i => (i.zero, i.size, i.bytes)) = some (some (.agg #[Value.int .i64 0, Value.slice none 0 0]), 2, 32) := by kernel_rfl
theorem own_othr {w : World} {base size n k : Nat} {e T : TypeId} {v : Value} {xs : List Value} {cs : Array Value} {q : Nat × Nat} (h : w.ownsRow base e size v n xs) (hr : w.heap[k]? = some (.cells cs T q)) (hT : T ≠ e) : v.ownBlock ≠ some k := fun he => by
 rcases h.2 with ⟨rfl, _⟩ | ⟨g, c, cur, rfl, _, hg, _⟩
 · cases he
 · simp [Value.ownBlock] at he
   rw [he, hr] at hg
   simp at hg
   exact hT hg.2.1
theorem set_row {W : World} {g k i : Nat} {o : Obj} {v : Value} (h : W.heap[g]? = some o) (hne : g ≠ k) : (W.setCell ⟨k, i, none⟩ v).heap[g]? = some o := by
 rw [heap_setCell_other _ _ _ _ (by simpa using hne)]; exact h
structure TK (w W : World) (q : Nat) (rest : List UInt8) (rs : Value) (S : List RT) : Prop where
 g : w.grownBy W (some q)
 r : RX W q rest
 z : W.heap[w.heap.size]? = some (.cells #[.slice none 0 0, .slice none 0 0] 31 (0, 0))
 p : W.heap[w.heap.size + 1]? = some (.cells #[rs, .slice none 0 0] 31 (0, 0))
 o : PO W (w.heap.size + 2) rs S (.slice none 0 0) []
 a : (S.map RT.a).Pairwise (fun x y => x = none ∨ x ≠ y)
theorem TK.size {w W : World} {q : Nat} {rest : List UInt8} {rs : Value} {S : List RT} (h : TK w W q rest rs S) : w.heap.size + 2 <= W.heap.size := row_lt h.p
theorem TK.new {w : World} {q : Nat} {s : List UInt8} (h : RX w q s) : TK w ((w.alloc (.cells #[.slice none 0 0, .slice none 0 0] 31)).alloc (.cells #[.slice none 0 0, .slice none 0 0] 31)) q s (.slice none 0 0) [] :=
 ⟨grown_allocR (grown_allocR (grown_refl _ _) _) _, (h.alloc _).alloc _, heap_alloc2_old _ _ _, heap_alloc2_new _ _ _, ⟨⟨by simp [rowR], .inl ⟨rfl, rfl⟩⟩, fun s hs => by simp at hs, ⟨by simp, .inl ⟨rfl, rfl⟩⟩⟩, by simp⟩
theorem TK.call {w W W' : World} {q : Nat} {rest rest' : List UInt8} {rs : Value} {S : List RT} (h : TK w W q rest rs S) (hq : q < w.heap.size) (hg : W.grownBy W' (some q)) (hr : RX W' q rest') : TK w W' q rest' rs S :=
 ⟨grown_trans h.g hg, hr, grown_row hg h.z (by simp; omega), grown_row hg h.p (by simp; omega), h.o.other hg (.inl (by omega)), h.a⟩
theorem TK.drew {w W : World} {q : Nat} {rest : List UInt8} {rs : Value} {S : List RT} (h : TK w W q rest rs S) : TK w W.drew q rest rs S :=
 ⟨⟨h.g.os, h.g.tape, h.g.output, h.g.size, h.g.block⟩, h.r, h.z, h.p, h.o.below (Below.refl _ _).drew, h.a⟩
theorem TK.alloc {w W : World} {q : Nat} {rest : List UInt8} {rs : Value} {S : List RT} (h : TK w W q rest rs S) (o : Obj) : TK w (W.alloc o) q rest rs S :=
 ⟨grown_allocR h.g o, h.r.alloc o, (heap_alloc_old _ _ (row_lt h.z)).trans h.z, (heap_alloc_old _ _ (row_lt h.p)).trans h.p, h.o.below ((Below.refl _ _).alloc (Nat.le_refl _) _), h.a⟩
theorem TK.more {w W W' : World} {q : Nat} {rest : List UInt8} {rs v' : Value} {S : List RT} {x : RT} (h : TK w W q rest rs S) (hq : q < w.heap.size) (hx : W.ownsRow (w.heap.size + 2) 2 1 (.slice x.a x.ids.length x.c) x.ids.length (x.ids.map (Value.int .i64))) (hf : ∀ s ∈ S, s.a = none ∨ s.a ≠ x.a)
 (hg : W.grownBy W' rs.ownBlock) (ho : W'.ownsRow (w.heap.size + 2) 65 2 v' (S.length + 1) (rowR (S ++ [x]))) :
 TK w (W'.setCell ⟨w.heap.size + 1, 0, none⟩ v') q rest v' (S ++ [x]) := by
 have hob : ∀ g, rs.ownBlock = some g -> w.heap.size + 2 <= g := fun g e => (h.o.r.lt g e).1
 have hn : ∀ k, k < w.heap.size + 2 -> some k ≠ rs.ownBlock := fun k hk e => by have := hob k e.symm; omega
 have hgg : ∀ {base n : Nat} {v : Value} {xs : List Value}, W.ownsRow base 2 1 v n xs -> W'.ownsRow base 2 1 v n xs := fun {base n v xs} h9 => by
  refine h9.kept hg ?_
  cases hr : rs.ownBlock with
  | none => cases hv : v.ownBlock with | none => exact .inl rfl | some _ => right; simp
  | some g =>
    right
    obtain ⟨_, ⟨hz, _⟩ | ⟨g', c, cur, e, _, hrow, _⟩⟩ := h.o.r
    · rw [hz] at hr; cases hr
    · rw [e] at hr
      simp [Value.ownBlock] at hr
      subst hr
      exact own_othr h9 hrow (by decide)
 refine ⟨grown_ownR (grown_ownR h.g hg (fun g e => by have := hob g e; omega)) (grown_set _ _ _ _) (fun g e => by simp at e; omega), ?_, set_row (grown_row hg h.z (hn _ (by omega))) (by omega), ?_, ⟨?_, fun s hs => ?_, ?_⟩, ?_⟩
 · exact RX.grown (h.r.grown hg (hn q (by omega))) (grown_set _ _ _ _) (by simp; omega)
 · exact heap_setCell_same _ _ _ _ _ _ (grown_row hg h.p (hn _ (by omega)))
 · rw [List.length_append]
   exact owns_set ho (by omega)
 · rcases List.mem_append.1 hs with hs | hs
   · exact owns_set (hgg (h.o.s s hs)) (by omega)
   · rw [List.mem_singleton] at hs
     subst hs
     exact owns_set (hgg hx) (by omega)
 · exact owns_set (hgg h.o.l) (by omega)
 · rw [List.map_append, List.pairwise_append]
   refine ⟨h.a, by simp, fun y hy z hz => ?_⟩
   obtain ⟨s, hs, rfl⟩ := List.mem_map.1 hy
   simp at hz
   subst hz
   exact hf s hs
theorem fresh_adr {W W' : World} {base n m c : Nat} {sa : Option Addr} {xs : List Value} {S : List RT} (hs : ∀ s ∈ S, W.ownsRow base 2 1 (.slice s.a s.ids.length s.c) s.ids.length (s.ids.map (Value.int .i64))) (ho : W'.ownsRow W.heap.size 2 1 (.slice sa m c) n xs) : ∀ s ∈ S, s.a = none ∨ s.a ≠ sa := fun s h => by
 rcases own_kinds (hs s h) with ⟨e, _⟩ | ⟨g, c1, e, _, hl⟩
 · simp only [Value.slice.injEq] at e
   exact .inl e.1
 · simp only [Value.slice.injEq] at e
   right
   intro e2
   rcases own_kinds ho with ⟨e3, _⟩ | ⟨g3, c3, e3, hb, _⟩
   · simp only [Value.slice.injEq] at e3
     rw [e.1, e3.1] at e2
     cases e2
   · simp only [Value.slice.injEq] at e3
     rw [e.1, e3.1] at e2
     simp only [Option.some.injEq, Addr.mk.injEq, and_true] at e2
     omega
theorem apt_of {S : List RT} {la : Option Addr} (h : (S.map RT.a).Pairwise (fun x y => x = none ∨ x ≠ y)) (hf : ∀ s ∈ S, s.a = none ∨ s.a ≠ la) : Apt S la := by
 refine List.pairwise_cons.2 ⟨fun y hy => ?_, h⟩
 obtain ⟨s, hs, rfl⟩ := List.mem_map.1 hy
 cases la with
 | none => exact .inl rfl
 | some g =>
   right
   rcases hf s hs with h | h
   · rw [h]; simp
   · exact fun e => h e.symm
def ppr (acc : List RT) (o : Option (List RT × List UInt8)) : Option (List RT × List UInt8) := match o with | none => none | some (l, r) => some (acc ++ l, r)
theorem routesF_end (k : Nat) (s : List UInt8) (h : wRouteB.isPrefixOf s = false) : routesF k s = some ([], s) := by
 unfold routesF
 rw [if_neg (by rw [h]; simp)]
theorem routesF_full (s : List UInt8) (h : wRouteB.isPrefixOf s = true) : routesF 0 s = none := by
 unfold routesF
 rw [if_pos h]
theorem routesF_one (k : Nat) (s : List UInt8) (h : wRouteB.isPrefixOf s = true) : routesF (k + 1) s = match idF (s.drop 6) with
        | none => none
        | some (v, r) => match idsF 12 r with
          | none => none
          | some (ids, r2) => match routesF k r2 with
            | none => none
            | some (R, r3) => some (⟨v, none, ids, 0⟩ :: R, r3) := by
 conv => lhs; unfold routesF
 rw [if_pos h]
 rfl
theorem ppr_snoc (acc : List RT) (x : RT) (k : Nat) (r : List UInt8) : ppr (acc ++ [x]) (routesF k r) = ppr acc (match routesF k r with | none => none | some (l, r2) => some (x :: l, r2)) := by
 unfold ppr
 cases routesF k r with
 | none => rfl
 | some q => obtain ⟨l, r2⟩ := q; simp
theorem cells2_at (W : World) (g : Nat) (v0 v1 : Value) (T : TypeId) (h : W.heap[g]? = some (.cells #[v0, v1] T (0, 0))) : ∀ (j : Nat) (u : Value), [v0, v1][j]? = some u -> W.cell? ⟨g, 0 + j, none⟩ = some u := fun j u hj => by
 rw [cell_of_row _ _ _ _ _ _ h, Nat.zero_add]
 match j, hj with
 | 0, hj => simpa using hj
 | 1, hj => simpa using hj
theorem infoRt9 : (Tryz.prog.info? 65).map (fun i => (i.zero, i.size, i.bytes)) = some (some (.agg #[Value.int .i64 0, Value.slice none 0 0]), 2, 32) := by kernel_rfl
theorem grown_set9 (W : World) (g i : Nat) (v : Value) : W.grownBy (W.setCell ⟨g, i, none⟩ v) (some g) := ⟨rfl, rfl, rfl, by simp [World.setCell], fun k _ hk => Below.heap_setCell _ _ _ _ (fun e => hk (by simp [e]))⟩
theorem own_box9 {W : World} {base size n bp i : Nat} {e : TypeId} {v u : Value} {xs : List Value} {cs : Array Value} (h : W.ownsRow base e size v n xs) (hr : W.heap[bp]? = some (.cells cs 31 (0, 0))) (hT : 31 ≠ e) : (W.setCell ⟨bp, i, none⟩ u).ownsRow base e size v n xs := by
 refine h.kept (grown_set9 _ _ _ _) ?_
 cases hv : v.ownBlock with
 | none => exact .inl rfl
 | some g => right; rw [<- hv]; exact own_oth9 h hr hT
theorem set_row9 {W : World} {g k i : Nat} {o : Obj} {v : Value} (h : W.heap[g]? = some o) (hne : g ≠ k) : (W.setCell ⟨k, i, none⟩ v).heap[g]? = some o := by
 rw [heap_setCell_other _ _ _ _ (by simpa using hne)]; exact h
structure SK (w W : World) (bp : Nat) (rs ls : Value) (S : List RT) (L : List Int) (ll : Value) (lines : List (List UInt8)) : Prop where
 b : Below w.heap.size w W
 z : W.heap[w.heap.size]? = some (.cells #[.slice none 0 0, .slice none 0 0] 31 (0, 0))
 hp : w.heap.size < bp
 p : W.heap[bp]? = some (.cells #[rs, ls] 31 (0, 0))
 o : PO W (w.heap.size + 1) rs S ls L
 d : ∀ s ∈ S, ∀ g, s.a = some ⟨g, 0, none⟩ -> ls.ownBlock ≠ some g
 n : W.ownsRow (w.heap.size + 1) 9 1 ll lines.length (strs lines)
theorem SK.below {w W W' : World} {bp : Nat} {rs ls ll : Value} {S : List RT} {L : List Int} {lines : List (List UInt8)} (h : SK w W bp rs ls S L ll lines) (hb : Below W.heap.size W W') : SK w W' bp rs ls S L ll lines :=
 ⟨h.b.trans (hb.mono h.b.size), below_row hb (row_lt h.z) h.z, h.hp, below_row hb (row_lt h.p) h.p, h.o.below hb, h.d, owns_below h.n hb⟩
theorem own_eq {w : World} {base n : Nat} {x : RT} {xs : List Value} (h : w.ownsRow base 2 1 (.slice x.a x.ids.length x.c) n xs) {g : Nat} (hg : (Value.slice x.a x.ids.length x.c).ownBlock = some g) : x.a = some ⟨g, 0, none⟩ := by
 obtain ⟨_, ⟨h1, _⟩ | ⟨g', c, cur, h1, _⟩⟩ := h
 · rw [h1] at hg; cases hg
 · rw [h1] at hg
   simp [Value.ownBlock] at hg
   subst hg
   injection h1
theorem SK.route {w W W' : World} {bp : Nat} {rs ls ll v' : Value} {S : List RT} {L : List Int} {lines : List (List UInt8)} {x : RT} (h : SK w W bp rs ls S L ll lines)
 (hx : W.ownsRow (w.heap.size + 1) 2 1 (.slice x.a x.ids.length x.c) x.ids.length (x.ids.map (Value.int .i64))) (hxd : ∀ g, x.a = some ⟨g, 0, none⟩ -> ls.ownBlock ≠ some g)
 (hg : W.grownBy W' rs.ownBlock) (ho : W'.ownsRow (w.heap.size + 1) 65 2 v' (S.length + 1) (rowR (S ++ [x]))) :
 SK w (W'.setCell ⟨bp, 0, none⟩ v') bp v' ls (S ++ [x]) L ll lines := by
 have hob : ∀ g, rs.ownBlock = some g -> w.heap.size + 1 <= g := fun g e => (h.o.r.lt g e).1
 have hz2 : W'.heap[w.heap.size]? = _ := grown_row hg h.z (fun e => by have := hob _ e.symm; omega)
 have hp2 : W'.heap[bp]? = _ := grown_row hg h.p (fun e => own_oth9 h.o.r h.p (by decide) e.symm)
 refine ⟨?_, set_row9 hz2 (by have := h.hp; omega), h.hp, heap_setCell_same _ _ _ _ _ _ hp2, ⟨?_, fun s hs => ?_, ?_⟩, ?_, ?_⟩
 · refine Below.setCell (h.b.grown hg h.b.size (fun g e => by have := hob g e; omega)) ?_ _
   have := h.hp
   simp
   omega
 · rw [List.length_append]
   exact own_box9 ho hp2 (by decide)
 · rcases List.mem_append.1 hs with hs | hs
   · exact own_box9 (own_two (h.o.s s hs) h.o.r hg (by decide)) hp2 (by decide)
   · rw [List.mem_singleton] at hs
     subst hs
     exact own_box9 (own_two hx h.o.r hg (by decide)) hp2 (by decide)
 · exact own_box9 (own_two h.o.l h.o.r hg (by decide)) hp2 (by decide)
 · intro s hs g e
   rcases List.mem_append.1 hs with hs | hs
   · exact h.d s hs g e
   · rw [List.mem_singleton] at hs
     subst hs
     exact hxd g e
 · exact own_box9 (own_two h.n h.o.r hg (by decide)) hp2 (by decide)
theorem SK.left {w W W' : World} {bp : Nat} {rs ls ll v' : Value} {S : List RT} {L M : List Int} {lines : List (List UInt8)} (h : SK w W bp rs ls S L ll lines)
 (hg : W.grownBy W' ls.ownBlock) (hb : v'.ownBlock = ls.ownBlock ∨ v'.ownBlock = some W.heap.size) (ho : W'.ownsRow (w.heap.size + 1) 2 1 v' M.length (M.map (Value.int .i64))) :
 SK w (W'.setCell ⟨bp, 1, none⟩ v') bp rs v' S M ll lines := by
 have hob : ∀ g, ls.ownBlock = some g -> w.heap.size + 1 <= g := fun g e => (h.o.l.lt g e).1
 have hz2 : W'.heap[w.heap.size]? = _ := grown_row hg h.z (fun e => by have := hob _ e.symm; omega)
 have hp2 : W'.heap[bp]? = _ := grown_row hg h.p (fun e => own_oth9 h.o.l h.p (by decide) e.symm)
 refine ⟨?_, set_row9 hz2 (by have := h.hp; omega), h.hp, heap_setCell_same _ _ _ _ _ _ hp2, ⟨?_, fun s hs => ?_, ?_⟩, ?_, ?_⟩
 · refine Below.setCell (h.b.grown hg h.b.size (fun g e => by have := hob g e; omega)) ?_ _
   have := h.hp
   simp
   omega
 · exact own_box9 (own_two h.o.r h.o.l hg (by decide)) hp2 (by decide)
 · refine own_box9 ((h.o.s s hs).kept hg ?_) hp2 (by decide)
   cases hv : (Value.slice s.a s.ids.length s.c).ownBlock with
   | none => exact .inl rfl
   | some g =>
     right
     exact fun e => h.d s hs g (own_eq (h.o.s s hs) hv) e.symm
 · exact own_box9 ho hp2 (by decide)
 · intro s hs g e
   rcases hb with hb | hb
   · rw [hb]; exact h.d s hs g e
   · rw [hb]
     intro e2
     have e3 : (Value.slice s.a s.ids.length s.c).ownBlock = some g := by rw [e]; rfl
     have := ((h.o.s s hs).lt g e3).2
     simp at e2
     omega
 · exact own_box9 (own_two h.n h.o.l hg (by decide)) hp2 (by decide)
theorem SK.new {w w1 : World} {ll : Value} {lines : List (List UInt8)} (hB : Below w.heap.size w w1) (hz : w1.heap[w.heap.size]? = some (.cells #[.slice none 0 0, .slice none 0 0] 31 (0, 0))) (hn : w1.ownsRow (w.heap.size + 1) 9 1 ll lines.length (strs lines)) :
 SK w (w1.alloc (.cells #[.slice none 0 0, .slice none 0 0] 31)) w1.heap.size (.slice none 0 0) (.slice none 0 0) [] [] ll lines :=
 ⟨hB.alloc hB.size _, (heap_alloc_old _ _ (row_lt hz)).trans hz, row_lt hz, heap_alloc_new _ _, ⟨⟨by simp [rowR], .inl ⟨rfl, rfl⟩⟩, fun s hs => by simp at hs, ⟨by simp, .inl ⟨rfl, rfl⟩⟩⟩, fun s hs => by simp at hs, hn.alloc _⟩
theorem cut_one {W : World} {g : Nat} {l : List Int} (h : IntsAt W (some ⟨g, 0, none⟩) l) : IntsAt W (some ⟨g, 1, none⟩) l.tail := fun j hj => by
 rw [List.length_tail] at hj
 obtain ⟨b, off, e, hcell⟩ := h (j + 1) (by omega)
 simp at e
 obtain ⟨rfl, rfl⟩ := e
 refine ⟨_, _, rfl, ?_⟩
 rw [Nat.add_comm 1 j, <- Nat.zero_add (j + 1), hcell]
 cases l with
 | nil => simp at hj
 | cons x l => simp
theorem cells2_a9 (W : World) (g : Nat) (v0 v1 : Value) (T : TypeId) (h : W.heap[g]? = some (.cells #[v0, v1] T (0, 0))) : ∀ (j : Nat) (u : Value), [v0, v1][j]? = some u -> W.cell? ⟨g, 0 + j, none⟩ = some u := fun j u hj => by
 rw [cell_of_row _ _ _ _ _ _ h, Nat.zero_add]
 match j, hj with
 | 0, hj => simpa using hj
 | 1, hj => simpa using hj
end Go.Proofs.YtcapkcallaajaaaGreatDoor
