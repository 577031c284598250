import Derived.Test.YtcapkcallaajaaaGreatDoorPack9
import Derived.Test.YtcapkcallaajaaaGreatDoorPack12
import Derived.Test.YtcapkcallaajaaaGreatDoorTakeCase
import Derived.Test.YtcapkcallaajaaaGreatDoorPack15
import Derived.Test.YtcapkcallaajaaaGreatDoorPack17
namespace Go.Proofs.YtcapkcallaajaaaGreatDoor
open Go.RowKit
structure QX (w W : World) (q : Nat) (s : List UInt8) (cs : Array Value) : Prop where
 r : RX W q s
 g : w.grownBy W (some q)
 z : W.heap[w.heap.size]? = some (.cells #[.int .i64 0, .string ⟨#[]⟩, .int .i64 0, .int .i64 0, .int .i64 0, .int .i64 0, .slice none 0 0, .slice none 0 0, .slice none 0 0, .int .i64 0, .slice none 0 0, .slice none 0 0] 33 (0, 0))
 b : W.heap[w.heap.size + 1]? = some (.cells cs 33 (0, 0))
 l : q < w.heap.size
 e : GE W
theorem GE.grown {w w' : World} {q : Nat} {s : List UInt8} (h : GE w) (hr : RX w q s) (hg : w.grownBy w' (some q)) : GE w' := by
 obtain ⟨T, v, hc⟩ := h
 refine ⟨T, v, hg.cell hc (fun e => ?_)⟩
 have e1 : (0 : Nat) = q := by injection e
 subst e1
 rw [hr.cell] at hc
 injection hc with hc
 cases hc
section
variable {w W W' : World} {q : Nat} {s s' : List UInt8} {cs : Array Value}
theorem QX.read (h : QX w W q s cs) (hr : RX W' q s') (hg : W.grownBy W' (some q)) : QX w W' q s' cs :=
 ⟨hr, grown_trans h.g hg, grown_row hg h.z (fun e => by injection e with e; have := h.l; omega), grown_row hg h.b (fun e => by injection e with e; have := h.l; omega), h.l, h.e.grown h.r hg⟩
theorem QX.below (h : QX w W q s cs) (hb : Below W.heap.size W W') : QX w W' q s cs :=
 ⟨h.r.below hb, grown_moreR h.g hb, below_row hb (row_lt h.z) h.z, below_row hb (row_lt h.b) h.b, h.l, h.e.below hb (Nat.le_refl _)⟩
theorem QX.put (h : QX w W q s cs) (i : Nat) (v : Value) : QX w (W.setCell ⟨w.heap.size + 1, i, none⟩ v) q s (cs.setIfInBounds i v) := by
 have hl := h.l
 have hs := grown_set W (w.heap.size + 1) i v
 refine ⟨(grown_row hs h.r (fun e => by injection e with e; omega)), grown_ownR h.g hs (fun k e => by injection e with e; omega), grown_row hs h.z (fun e => by injection e with e; omega), heap_setCell_same _ _ _ _ _ _ h.b, h.l, ?_⟩
 obtain ⟨T, v9, hc⟩ := h.e
 refine ⟨T, v9, hs.cell hc (fun e => ?_)⟩
 have e1 : (0 : Nat) = w.heap.size + 1 := by injection e
 omega
end
def NilQ (zl ol vl rs : Value) (la : Option Addr) (S : List RT) : Prop := (rs.ownBlock = none /\ la = none /\ S = []) ∨ (zl.ownBlock = none /\ ol.ownBlock = none /\ vl.ownBlock = none)
def TakeQ (w : World) (q : Nat) (s : List UInt8) (e : Ending) (w' : World) : Prop :=
 (∃ qv r zl ol vl rs la lc S, reqF s = some (qv, r) /\ qv.R = S.map bare /\ e = .returned (.agg #[.int .i64 qv.kind, .string (txt qv.name), .int .i64 qv.id, .int .i64 qv.seed, .int .i64 qv.steps, .int .i64 qv.c.n, zl, ol, vl, .int .i64 qv.c.f, rs, .slice la qv.L.length lc]) /\ RX w' q r /\ w.grownBy w' (some q) /\ CO w' w.heap.size zl ol vl qv.c /\ PO w' w.heap.size rs S (.slice la qv.L.length lc) qv.L /\ Apt S la /\ NilQ zl ol vl rs la S) ∨ (reqF s = none /\ e = .panicked GV /\ w.grownBy w' (some q))
theorem CO.nilQ (w : World) (base : Nat) : CO w base (.slice none 0 0) (.slice none 0 0) (.slice none 0 0) cv0 := ⟨⟨by simp [cv0], .inl ⟨rfl, rfl⟩⟩, ⟨by simp [cv0], .inl ⟨rfl, rfl⟩⟩, ⟨by simp [cv0], .inl ⟨rfl, rfl⟩⟩⟩
theorem PO.nilQ (w : World) (base : Nat) : PO w base (.slice none 0 0) [] (.slice none 0 0) [] := ⟨⟨by simp [rowR], .inl ⟨rfl, rfl⟩⟩, fun s hs => by simp at hs, ⟨by simp, .inl ⟨rfl, rfl⟩⟩⟩
theorem CO.belowQ {w w' : World} {base : Nat} {zl ol vl : Value} {c : CV} (h : CO w base zl ol vl c) (hb : Below w.heap.size w w') : CO w' base zl ol vl c := ⟨owns_below h.z hb, owns_below h.o hb, owns_below h.v hb⟩
theorem CO.otherQ {w w' : World} {base q : Nat} {zl ol vl : Value} {c : CV} (h : CO w base zl ol vl c) (hg : w.grownBy w' (some q)) (hq : q < base) : CO w' base zl ol vl c := ⟨own_kept h.z hg hq, own_kept h.o hg hq, own_kept h.v hg hq⟩
theorem CO.baseQ {w : World} {base b0 : Nat} {zl ol vl : Value} {c : CV} (h : CO w base zl ol vl c) (hb : b0 <= base) : CO w b0 zl ol vl c := ⟨owns_base h.z hb, owns_base h.o hb, owns_base h.v hb⟩
theorem PO.otherQ {w w' : World} {base q : Nat} {rs ls : Value} {S : List RT} {L : List Int} (h : PO w base rs S ls L) (hg : w.grownBy w' (some q)) (hq : q < base) : PO w' base rs S ls L := ⟨own_kept h.r hg hq, fun s hs => own_kept (h.s s hs) hg hq, own_kept h.l hg hq⟩
theorem CO.z0 {w : World} {base : Nat} {zl ol vl : Value} {c : CV} (h : CO w base zl ol vl c) : ∃ a n b m d k, zl = .slice a c.zs.length n /\ ol = .slice b c.ko m /\ vl = .slice d c.kv k := by
 obtain ⟨a, n, e1, -⟩ := own_sl h.z
 obtain ⟨b, m, e2, -⟩ := own_sl h.o
 obtain ⟨d, k, e3, -⟩ := own_sl h.v
 exact ⟨a, n, b, m, d, k, e1, e2, e3⟩
def putAll (b : Nat) : List Value -> Nat -> World -> World
 | [], _, W => W
 | v :: l, i, W => putAll b l (i + 1) (W.setCell ⟨b, i, none⟩ v)
theorem putAll_grown (b : Nat) : ∀ (l : List Value) (i : Nat) (W : World), W.grownBy (putAll b l i W) (some b)
 | [], _, W => grown_refl W b
 | v :: l, i, W => grown_trans (grown_set W b i v) (putAll_grown b l (i + 1) _)
theorem putAll12 {b : Nat} {W : World} {z0 z1 z2 z3 z4 z5 z6 z7 z8 z9 z10 z11 : Value} {T : TypeId} (v0 v1 v2 v3 v4 v5 v6 v7 v8 v9 v10 v11 : Value) (h : W.heap[b]? = some (.cells #[z0, z1, z2, z3, z4, z5, z6, z7, z8, z9, z10, z11] T (0, 0))) : (putAll b [v0, v1, v2, v3, v4, v5, v6, v7, v8, v9, v10, v11] 0 W).heap[b]? = some (.cells #[v0, v1, v2, v3, v4, v5, v6, v7, v8, v9, v10, v11] T (0, 0)) := by
 have s0 := heap_setCell_same W b 0 _ _ v0 h
 have s1 := heap_setCell_same _ b 1 _ _ v1 s0
 have s2 := heap_setCell_same _ b 2 _ _ v2 s1
 have s3 := heap_setCell_same _ b 3 _ _ v3 s2
 have s4 := heap_setCell_same _ b 4 _ _ v4 s3
 have s5 := heap_setCell_same _ b 5 _ _ v5 s4
 have s6 := heap_setCell_same _ b 6 _ _ v6 s5
 have s7 := heap_setCell_same _ b 7 _ _ v7 s6
 have s8 := heap_setCell_same _ b 8 _ _ v8 s7
 have s9 := heap_setCell_same _ b 9 _ _ v9 s8
 have s10 := heap_setCell_same _ b 10 _ _ v10 s9
 have s11 := heap_setCell_same _ b 11 _ _ v11 s10
 simpa [putAll] using s11
theorem caseB_lens {n : Int} {zs os vs : List Int} {ko kv : Nat} {f : Int} (h : caseB n zs os vs ko kv f = true) : 0 <= f /\ ko <= 12 /\ kv <= 5 := by
 obtain ⟨_, h2, h3, h4⟩ := caseB_four h
 exact ⟨(inB_true h4).1, (ordsB_true h2).1, (vehsB_true h3).1⟩
theorem key_bareQ (S : List RT) : (S.map bare).map RT.key = S.map RT.key := by rw [List.map_map]; rfl
theorem planF_form {s : List UInt8} {R : List RT} {L : List Int} {r : List UInt8} (h : planF s = some (R, L, r)) : formB R L = true := by
 unfold planF at h
 cases h1 : routesF 5 s with
 | none => rw [h1] at h; cases h
 | some x =>
   obtain ⟨R', r'⟩ := x
   rw [h1] at h
   simp only at h
   split at h
   · cases h2 : idsF 12 (r'.drop 4) with
     | none => rw [h2] at h; cases h
     | some y =>
       obtain ⟨L', r2⟩ := y
       rw [h2] at h
       simp only [Option.some.injEq, Prod.mk.injEq] at h
       obtain ⟨rfl, rfl, -⟩ := h
       obtain ⟨_, g2, g3, _⟩ := routesF_is _ _ _ _ h1
       obtain ⟨_, g5, g6⟩ := idsF_is _ _ _ _ h2
       exact (formB_iff _ _).2 ⟨g2, (idsB_iff _).2 ⟨g5, g6⟩, g3⟩
   · cases h
theorem po_atQ {w : World} {base n rc : Nat} {ra : Option Addr} {S : List RT} {ls : Value} {L : List Int} (h : PO w base (.slice ra n rc) S ls L) (hn : S.length = n) : RoutesAt w ra S := by
 rw [<- hn] at h
 exact h.at
theorem po_lQ {w : World} {base m lc : Nat} {la : Option Addr} {S : List RT} {rs : Value} {L : List Int} (h : PO w base rs S (.slice la m lc) L) : IntsAt w la L := by
 obtain ⟨la2, lc2, e, hi⟩ := h.lv
 simp only [Value.slice.injEq] at e
 rw [e.1]
 exact hi
theorem sizeReq : (Tryz.prog.info? 33).map (·.size) = some 12 := by kernel_rfl
set_option maxRecDepth 10000 in
set_option maxHeartbeats 4000000 in
theorem takeReq_any (q : Nat) (s : List UInt8) (w : World) (h : RX w q s) (hG : GE w) (hs : s.length <= 1000000000) :
 Calls Tryz.prog 16 #[.pointer (some ⟨q, 0, none⟩)] w (TakeQ w q s) := by
 have X0 : Hid (QX w ((w.alloc (.cells #[.int .i64 0, .string ⟨#[]⟩, .int .i64 0, .int .i64 0, .int .i64 0, .int .i64 0, .slice none 0 0, .slice none 0 0, .slice none 0 0, .int .i64 0, .slice none 0 0, .slice none 0 0] 33)).alloc (.cells #[.int .i64 0, .string ⟨#[]⟩, .int .i64 0, .int .i64 0, .int .i64 0, .int .i64 0, .slice none 0 0, .slice none 0 0, .slice none 0 0, .int .i64 0, .slice none 0 0, .slice none 0 0] 33)) q s #[.int .i64 0, .string ⟨#[]⟩, .int .i64 0, .int .i64 0, .int .i64 0, .int .i64 0, .slice none 0 0, .slice none 0 0, .slice none 0 0, .int .i64 0, .slice none 0 0, .slice none 0 0]) := by
  have hA : Below w.heap.size w ((w.alloc (.cells #[.int .i64 0, .string ⟨#[]⟩, .int .i64 0, .int .i64 0, .int .i64 0, .int .i64 0, .slice none 0 0, .slice none 0 0, .slice none 0 0, .int .i64 0, .slice none 0 0, .slice none 0 0] 33)).alloc (.cells #[.int .i64 0, .string ⟨#[]⟩, .int .i64 0, .int .i64 0, .int .i64 0, .int .i64 0, .slice none 0 0, .slice none 0 0, .slice none 0 0, .int .i64 0, .slice none 0 0, .slice none 0 0] 33)) := ((Below.refl _ _).alloc (Nat.le_refl _) _).alloc (by simp) _
  exact ⟨h.below hA, grown_moreR (grown_refl _ _) hA, heap_alloc2_old _ _ _, heap_alloc2_new _ _ _, row_lt h, hG.below hA (Nat.le_refl _)⟩
 clear h hG
 go_enter Tryz.func16, Tryz.ntmps16
 go_wp2_with fail
 generalize ((w.alloc (.cells #[.int .i64 0, .string ⟨#[]⟩, .int .i64 0, .int .i64 0, .int .i64 0, .int .i64 0, .slice none 0 0, .slice none 0 0, .slice none 0 0, .int .i64 0, .slice none 0 0, .slice none 0 0] 33)).alloc (.cells #[.int .i64 0, .string ⟨#[]⟩, .int .i64 0, .int .i64 0, .int .i64 0, .int .i64 0, .slice none 0 0, .slice none 0 0, .slice none 0 0, .int .i64 0, .slice none 0 0, .slice none 0 0] 33)) = W0 at *
 have hsn : (txt wSnap) = ⟨#[115, 110, 97, 112]⟩ := rfl
 have A1 := atLine_any q s wSnap W0 X0.out.r hs (by decide)
 have A2 := atLine_any q s wPlan W0 X0.out.r hs (by decide)
 have A3 := atLine_any q s wSearch W0 X0.out.r hs (by decide)
 have A4 := atLine_any q s wPublish W0 X0.out.r hs (by decide)
 have A5 := atLine_any q s wSweep W0 X0.out.r hs (by decide)
 change Calls Tryz.prog 31 #[.pointer (some ⟨q, 0, none⟩), .string ⟨#[115, 110, 97, 112]⟩] W0 _ at A1
 change Calls Tryz.prog 31 #[.pointer (some ⟨q, 0, none⟩), .string ⟨#[112, 108, 97, 110]⟩] W0 _ at A2
 change Calls Tryz.prog 31 #[.pointer (some ⟨q, 0, none⟩), .string ⟨#[115, 101, 97, 114, 99, 104]⟩] W0 _ at A3
 change Calls Tryz.prog 31 #[.pointer (some ⟨q, 0, none⟩), .string ⟨#[112, 117, 98, 108, 105, 115, 104]⟩] W0 _ at A4
 change Calls Tryz.prog 31 #[.pointer (some ⟨q, 0, none⟩), .string ⟨#[115, 119, 101, 101, 112]⟩] W0 _ at A5
 clear hsn
 cases hp1 : (wSnap ++ [32]).isPrefixOf s
 rotate_left
 · have HP1 := hdn hp1
   rw [hp1] at A1
   clear hp1
   refine A1.mono ?_
   rintro e w' ⟨rfl, hw⟩
   subst w'
   clear A1 A2 A3 A4 A5
   obtain ⟨d0, d1, d2, d3, d4, d5, d6, d7, d8, d9, d10, d11⟩ := cells12q X0.out.b
   have xf := fun i => frozen_of_row _ _ i _ _ X0.out.b
   go_wp2_with fail
   clear d0 d1 d2 d3 d4 d5 d6 d7 d8 d9 d10 d11 xf
   have X1 : Hid (QX w (W0.setCell ⟨w.heap.size + 1, 0, none⟩ (.int .i64 1)) q s #[.int .i64 1, .string ⟨#[]⟩, .int .i64 0, .int .i64 0, .int .i64 0, .int .i64 0, .slice none 0 0, .slice none 0 0, .slice none 0 0, .int .i64 0, .slice none 0 0, .slice none 0 0]) := by
    have := (X0.out).put 0 (.int .i64 1)
    show QX _ _ _ _ _
    simpa using this
   have NM := named_any q 0 s wSnap (W0.setCell ⟨w.heap.size + 1, 0, none⟩ (.int .i64 1)) X1.out.r hs (by decide) (by omega)
   change Calls Tryz.prog 32 #[.pointer (some ⟨q, 0, none⟩), .string ⟨#[115, 110, 97, 112]⟩, .int .i64 0] _ _ at NM
   generalize (W0.setCell ⟨w.heap.size + 1, 0, none⟩ (.int .i64 1)) = W1 at *
   clear X0
   refine NM.mono ?_
   rintro e w2 (⟨nm, l, r, sl, hl, rfl, hr2, hg2, ho2⟩ | ⟨hl, rfl, hg2⟩)
   rotate_left
   · exact ⟨rfl, .inr ⟨by show _ = _; unfold reqF; rw [if_pos HP1.out, hl], rfl, grown_trans X1.out.g hg2⟩⟩
   have HL : Hid (namedF wSnap 0 s = some (nm, l, r)) := hl
   obtain ⟨hnm, hse, hll, -⟩ := namedF_is hl
   have HNM : Hid (nmB nm = true) := hnm
   have HRL : Hid (r.length <= 1000000000 /\ nm.length <= 1000000000) := by
    have h9 := congrArg List.length hse
    rw [named_tx] at h9
    simp only [List.length_append, List.length_cons] at h9
    constructor <;> omega
   have X2 : Hid (QX w w2 q r #[.int .i64 1, .string ⟨#[]⟩, .int .i64 0, .int .i64 0, .int .i64 0, .int .i64 0, .slice none 0 0, .slice none 0 0, .slice none 0 0, .int .i64 0, .slice none 0 0, .slice none 0 0]) := X1.out.read hr2 hg2
   clear hl hr2 hg2 ho2 hnm hse hll NM X1
   obtain ⟨d0, d1, d2, d3, d4, d5, d6, d7, d8, d9, d10, d11⟩ := cells12q X2.out.b
   have xf := fun i => frozen_of_row _ _ i _ _ X2.out.b
   go_wp2_with fail
   clear d0 d1 d2 d3 d4 d5 d6 d7 d8 d9 d10 d11 xf
   have X3 : Hid (QX w (w2.setCell ⟨w.heap.size + 1, 1, none⟩ (.string (txt nm))) q r #[.int .i64 1, .string (txt nm), .int .i64 0, .int .i64 0, .int .i64 0, .int .i64 0, .slice none 0 0, .slice none 0 0, .slice none 0 0, .int .i64 0, .slice none 0 0, .slice none 0 0]) := by
    have := (X2.out).put 1 (.string (txt nm))
    show QX _ _ _ _ _
    simpa using this
   have TC := takeCase_any q r (w2.setCell ⟨w.heap.size + 1, 1, none⟩ (.string (txt nm))) X3.out.r HRL.out.1
   generalize (w2.setCell ⟨w.heap.size + 1, 1, none⟩ (.string (txt nm))) = W3 at *
   clear X2
   refine TC.mono ?_
   rintro e w4 (⟨c, r2, zl, ol, vl, hc, rfl, hr4, hg4, ho4⟩ | ⟨hc, rfl, hg4⟩)
   rotate_left
   · exact ⟨rfl, .inr ⟨by show _ = _; unfold reqF; rw [if_pos HP1.out, HL.out]; simp only [hc], rfl, grown_trans X3.out.g hg4⟩⟩
   obtain ⟨hok, hlen, -⟩ := caseF_is hc
   have HRQ : Hid (reqF s = some (⟨1, nm, 0, 0, 0, c, [], []⟩, r2)) := by show _ = _; unfold reqF; rw [if_pos HP1.out, HL.out]; simp only [hc]
   have HLE := hdn hlen
   have HOK : Hid (caseB c.n c.zs c.os c.vs c.ko c.kv c.f = true) := hok
   have X4 : Hid (QX w w4 q r2 #[.int .i64 1, .string (txt nm), .int .i64 0, .int .i64 0, .int .i64 0, .int .i64 0, .slice none 0 0, .slice none 0 0, .slice none 0 0, .int .i64 0, .slice none 0 0, .slice none 0 0]) := X3.out.read hr4 hg4
   have hB4 : w.heap.size + 2 <= W3.heap.size := row_lt X3.out.b
   obtain ⟨za, zc, oa, oc, va, vc, rfl, rfl, rfl⟩ := ho4.z0
   obtain ⟨zn, HZN⟩ := nmd c.zs.length
   obtain ⟨on, HON⟩ := nmd c.ko
   obtain ⟨vn, HVN⟩ := nmd c.kv
   obtain ⟨cn, HCN⟩ := nmd c.n
   obtain ⟨cf, HCF⟩ := nmd c.f
   rw [HZN.out, HON.out, HVN.out] at ho4 ⊢
   rw [HCN.out, HCF.out]
   rw [HCN.out, HCF.out, HON.out, HVN.out] at HOK
   have O4 := hdn (ho4.baseQ (b0 := w.heap.size + 2) (by omega))
   clear hc hok hlen hr4 hg4 ho4 TC X3 HL
   obtain ⟨d0, d1, d2, d3, d4, d5, d6, d7, d8, d9, d10, d11⟩ := cells12q X4.out.b
   have xf := fun i => frozen_of_row _ _ i _ _ X4.out.b
   go_wp2_with fail
   clear d0 d1 d2 d3 d4 d5 d6 d7 d8 d9 d10 d11 xf
   have X5 : Hid (QX w (((((w4.setCell ⟨w.heap.size + 1, 5, none⟩ (.int .i64 cn)).setCell ⟨w.heap.size + 1, 6, none⟩ (.slice za zn zc)).setCell ⟨w.heap.size + 1, 7, none⟩ (.slice oa on oc)).setCell ⟨w.heap.size + 1, 8, none⟩ (.slice va vn vc)).setCell ⟨w.heap.size + 1, 9, none⟩ (.int .i64 cf)) q r2 #[.int .i64 1, .string (txt nm), .int .i64 0, .int .i64 0, .int .i64 0, .int .i64 cn, .slice za zn zc, .slice oa on oc, .slice va vn vc, .int .i64 cf, .slice none 0 0, .slice none 0 0]) := by
    have := (((((X4.out).put 5 (.int .i64 cn)).put 6 (.slice za zn zc)).put 7 (.slice oa on oc)).put 8 (.slice va vn vc)).put 9 (.int .i64 cf)
    show QX _ _ _ _ _
    simpa using this
   have hg5 : w4.grownBy (((((w4.setCell ⟨w.heap.size + 1, 5, none⟩ (.int .i64 cn)).setCell ⟨w.heap.size + 1, 6, none⟩ (.slice za zn zc)).setCell ⟨w.heap.size + 1, 7, none⟩ (.slice oa on oc)).setCell ⟨w.heap.size + 1, 8, none⟩ (.slice va vn vc)).setCell ⟨w.heap.size + 1, 9, none⟩ (.int .i64 cf)) (some (w.heap.size + 1)) := grown_trans (grown_trans (grown_trans (grown_trans (grown_set _ _ _ _) (grown_set _ _ _ _)) (grown_set _ _ _ _)) (grown_set _ _ _ _)) (grown_set _ _ _ _)
   have O5 := hdn (O4.out.otherQ hg5 (by omega))
   clear hg5 O4 X4
   obtain ⟨-, hk12, hk5⟩ := caseB_lens HOK.out
   obtain ⟨d0, d1, d2, d3, d4, d5, d6, d7, d8, d9, d10, d11⟩ := cells12q X5.out.b
   have xf := fun i => frozen_of_row _ _ i _ _ X5.out.b
   have ASK := askSnap_any cn cf _ _ _ zn zc on oc vn vc c.zs c.os c.vs nm (((((w4.setCell ⟨w.heap.size + 1, 5, none⟩ (.int .i64 cn)).setCell ⟨w.heap.size + 1, 6, none⟩ (.slice za zn zc)).setCell ⟨w.heap.size + 1, 7, none⟩ (.slice oa on oc)).setCell ⟨w.heap.size + 1, 8, none⟩ (.slice va vn vc)).setCell ⟨w.heap.size + 1, 9, none⟩ (.int .i64 cf)) (own_intsC (n := zn) (c := zc) (by have := O5.out.z; rw [HZN.out] at this; exact this)) (own_intsC (n := on) (c := oc) (by have := O5.out.o; rw [HON.out] at this; exact this)) (own_intsC (n := vn) (c := vc) (by have := O5.out.v; rw [HVN.out] at this; exact this)) HZN.out (by have := HLE.out.1; rw [HON.out] at this; exact this) (by have := HLE.out.2; rw [HVN.out] at this; exact this) (by omega) (by omega) HOK.out HNM.out HRL.out.2
   go_wp2_with fail
   clear d0 d1 d2 d3 d4 d5 d6 d7 d8 d9 d10 d11 xf
   generalize (((((w4.setCell ⟨w.heap.size + 1, 5, none⟩ (.int .i64 cn)).setCell ⟨w.heap.size + 1, 6, none⟩ (.slice za zn zc)).setCell ⟨w.heap.size + 1, 7, none⟩ (.slice oa on oc)).setCell ⟨w.heap.size + 1, 8, none⟩ (.slice va vn vc)).setCell ⟨w.heap.size + 1, 9, none⟩ (.int .i64 cf)) = WA at *
   refine ASK.mono ?_
   rintro e wb ⟨av, ev, rfl, hb, hev⟩
   have XB : Hid _ := X5.out.below hb
   have OB := hdn (O5.out.belowQ hb)
   clear hb ASK
   rcases hev with ⟨-, rfl⟩ | ⟨h9, -⟩
   rotate_left
   · cases h9
   obtain ⟨d0, d1, d2, d3, d4, d5, d6, d7, d8, d9, d10, d11⟩ := cells12q XB.out.b
   have xf := fun i => frozen_of_row _ _ i _ _ XB.out.b
   obtain ⟨z0, z1, z2, z3, z4, z5, z6, z7, z8, z9, z10, z11⟩ := cells12q XB.out.z
   have zf := fun i => frozen_of_row _ _ i _ _ XB.out.z
   go_wp2_with fail
   refine (must_yes _ _).mono ?_
   rintro e w' ⟨rfl, hw⟩
   subst w'
   go_wp2_with fail
   clear d0 d1 d2 d3 d4 d5 d6 d7 d8 d9 d10 d11 xf z0 z1 z2 z3 z4 z5 z6 z7 z8 z9 z10 z11 zf
   have HGF := hdn (putAll_grown w.heap.size [.int .i64 1, .string (txt nm), .int .i64 0, .int .i64 0, .int .i64 0, .int .i64 cn, .slice za zn zc, .slice oa on oc, .slice va vn vc, .int .i64 cf, .slice none 0 0, .slice none 0 0] 0 wb)
   have ZR := hdn (putAll12 (.int .i64 1) (.string (txt nm)) (.int .i64 0) (.int .i64 0) (.int .i64 0) (.int .i64 cn) (.slice za zn zc) (.slice oa on oc) (.slice va vn vc) (.int .i64 cf) (.slice none 0 0) (.slice none 0 0) XB.out.z)
   refine bodyPost_ret (w := putAll w.heap.size [.int .i64 1, .string (txt nm), .int .i64 0, .int .i64 0, .int .i64 0, .int .i64 cn, .slice za zn zc, .slice oa on oc, .slice va vn vc, .int .i64 cf, .slice none 0 0, .slice none 0 0] 0 wb) (v := .agg #[.int .i64 1, .string (txt nm), .int .i64 0, .int .i64 0, .int .i64 0, .int .i64 cn, .slice za zn zc, .slice oa on oc, .slice va vn vc, .int .i64 cf, .slice none 0 0, .slice none 0 0]) ?_ rfl ?_
   · have r1 := run_loadVar_row (P := Tryz.prog) _ w.heap.size 33 33 #[.int .i64 1, .string (txt nm), .int .i64 0, .int .i64 0, .int .i64 0, .int .i64 cn, .slice za zn zc, .slice oa on oc, .slice va vn vc, .int .i64 cf, .slice none 0 0, .slice none 0 0] (0, 0) _ ZR.out Tryz.underlying33 rfl sizeReq
     simp [results, Tryz.results16, asAddr, r1]
   · exact .inl ⟨⟨1, nm, 0, 0, 0, c, [], []⟩, r2, _, _, _, _, none, 0, [], HRQ.out, rfl, by rw [HCN.out, HCF.out]; rfl, (grown_row HGF.out XB.out.r (fun e => by injection e with e; have := XB.out.l; omega)), grown_ownR XB.out.g HGF.out (fun k e => by injection e with e; omega), (OB.out.otherQ HGF.out (by omega)).baseQ (by omega), PO.nilQ _ _, (by unfold Apt; simp), .inl ⟨rfl, rfl, rfl⟩⟩
 have HP1 := hdn hp1
 rw [hp1] at A1
 clear hp1
 refine A1.mono ?_
 rintro e w' ⟨rfl, hw⟩
 subst w'
 clear A1
 go_wp2_with fail
 cases hp2 : (wPlan ++ [32]).isPrefixOf s
 rotate_left
 · have HP2 := hdn hp2
   rw [hp2] at A2
   clear hp2
   refine A2.mono ?_
   rintro e w' ⟨rfl, hw⟩
   subst w'
   clear A2 A3 A4 A5
   obtain ⟨d0, d1, d2, d3, d4, d5, d6, d7, d8, d9, d10, d11⟩ := cells12q X0.out.b
   have xf := fun i => frozen_of_row _ _ i _ _ X0.out.b
   go_wp2_with fail
   clear d0 d1 d2 d3 d4 d5 d6 d7 d8 d9 d10 d11 xf
   have X1 : Hid (QX w (W0.setCell ⟨w.heap.size + 1, 0, none⟩ (.int .i64 2)) q s #[.int .i64 2, .string ⟨#[]⟩, .int .i64 0, .int .i64 0, .int .i64 0, .int .i64 0, .slice none 0 0, .slice none 0 0, .slice none 0 0, .int .i64 0, .slice none 0 0, .slice none 0 0]) := by
    have := (X0.out).put 0 (.int .i64 2)
    show QX _ _ _ _ _
    simpa using this
   have NM := named_any q 1 s wPlan (W0.setCell ⟨w.heap.size + 1, 0, none⟩ (.int .i64 2)) X1.out.r hs (by decide) (by omega)
   change Calls Tryz.prog 32 #[.pointer (some ⟨q, 0, none⟩), .string ⟨#[112, 108, 97, 110]⟩, .int .i64 1] _ _ at NM
   generalize (W0.setCell ⟨w.heap.size + 1, 0, none⟩ (.int .i64 2)) = W1 at *
   clear X0
   refine NM.mono ?_
   rintro e w2 (⟨nm, l, r, sl, hl, rfl, hr2, hg2, ho2⟩ | ⟨hl, rfl, hg2⟩)
   rotate_left
   · exact ⟨rfl, .inr ⟨by show _ = _; unfold reqF; rw [if_neg (by rw [HP1.out]; decide), if_pos HP2.out, hl], rfl, grown_trans X1.out.g hg2⟩⟩
   have HL : Hid (namedF wPlan 1 s = some (nm, l, r)) := hl
   obtain ⟨hnm, hse, hll, -⟩ := namedF_is hl
   have HNM : Hid (nmB nm = true) := hnm
   have HRL : Hid (r.length <= 1000000000 /\ nm.length <= 1000000000) := by
    have h9 := congrArg List.length hse
    rw [named_tx] at h9
    simp only [List.length_append, List.length_cons] at h9
    constructor <;> omega
   have X2 : Hid (QX w w2 q r #[.int .i64 2, .string ⟨#[]⟩, .int .i64 0, .int .i64 0, .int .i64 0, .int .i64 0, .slice none 0 0, .slice none 0 0, .slice none 0 0, .int .i64 0, .slice none 0 0, .slice none 0 0]) := X1.out.read hr2 hg2
   have O2 := hdn ho2
   have HG2 := hdn X1.out.g.size
   clear hl hr2 hg2 ho2 hnm hse NM X1
   have hsl : ∃ g c, sl = .slice (some ⟨g, 0, none⟩) 1 c := by
    rcases own_kinds O2.out with ⟨_, e0⟩ | ⟨g9, c9, e9, -, -⟩
    · omega
    · exact ⟨g9, c9, by rw [e9, hll]⟩
   obtain ⟨gs, c9, rfl⟩ := hsl
   have hcl : ∀ j, j < 1 -> w2.cell? ⟨gs, j, none⟩ = some (.int .i64 (l.getD j 0)) := fun j hj => by
    have h9 := (own_cellV O2.out (k := j) (x := .int .i64 (l.getD j 0)) (by rw [List.getElem?_map, List.getElem?_eq_getElem (show j < l.length by omega), List.getD_eq_getElem?_getD, List.getElem?_eq_getElem (show j < l.length by omega)]; rfl)).1
    simpa using h9
   have c0 := hcl 0 (by omega)
   obtain ⟨x0, HX0⟩ := nmd (l.getD 0 0)
   rw [HX0.out] at c0
   clear hcl
   obtain ⟨d0, d1, d2, d3, d4, d5, d6, d7, d8, d9, d10, d11⟩ := cells12q X2.out.b
   have xf := fun i => frozen_of_row _ _ i _ _ X2.out.b
   have HGS : gs ≠ w.heap.size + 1 := fun e => own_typ O2.out X2.out.b (by decide) (by rw [e]; rfl)
   have HGQ : gs ≠ q := by have := (O2.out.lt gs rfl).1; have := X2.out.l; have := HG2.out; omega
   go_wp2_with fail
   clear d0 d1 d2 d3 d4 d5 d6 d7 d8 d9 d10 d11 xf
   have X3 : Hid (QX w (w2.setCell ⟨w.heap.size + 1, 1, none⟩ (.string (txt nm))) q r #[.int .i64 2, .string (txt nm), .int .i64 0, .int .i64 0, .int .i64 0, .int .i64 0, .slice none 0 0, .slice none 0 0, .slice none 0 0, .int .i64 0, .slice none 0 0, .slice none 0 0]) := by
    have := (X2.out).put 1 (.string (txt nm))
    show QX _ _ _ _ _
    simpa using this
   have HK : Hid (∀ W (b : Nat), w2.grownBy W (some b) -> gs ≠ b -> W.cell? ⟨gs, 0, none⟩ = some (.int .i64 x0)) := fun W b hg hb => hg.cell c0 (fun e => by injection e with e; exact hb e)
   have hk3 : ((w2.setCell ⟨w.heap.size + 1, 1, none⟩ (.string (txt nm)))).cell? ⟨gs, 0, none⟩ = some (.int .i64 x0) := HK.out _ _ (grown_set _ _ _ _) HGS
   have HK3 := hdn hk3
   clear HK hk3 X2 O2 c0
   generalize (w2.setCell ⟨w.heap.size + 1, 1, none⟩ (.string (txt nm))) = W3 at *
   have hD : Below W3.heap.size W3 W3.drew := (Below.refl _ _).drew
   have HK4 : Hid (W3.drew.cell? ⟨gs, 0, none⟩ = some (.int .i64 x0)) := (hD.cell (p := ⟨gs, 0, none⟩) (block_lt_of_cell HK3.out)).trans HK3.out
   refine wp_region_held_drew (S := (fun W => W.cell? ⟨gs, 0, none⟩ = some (.int .i64 x0))) (by kernel_rfl) ?_ (fun hHeld => ?_)
   · exact HK4.out
   have X4 : Hid _ := X3.out.below hD
   clear hD X3 HK3
   generalize W3.drew = W4 at *
   refine tkH 0 hHeld ?_
   refine tkH 1 hHeld ?_
   refine tkH 2 hHeld ?_
   refine tkH 3 hHeld ?_
   refine tkH 5 hHeld ?_
   refine wpAnyH_ready (rs := [4]) (by kernel_rfl) (by simp) ?_
   refine AllReadyH.cons rfl (fun K hK => ?_) AllReadyH.nil
   have TP := takePlan_any q r W4 X4.out.r HRL.out.1
   go_simp
   refine TP.mono ?_
   rintro e w5 (⟨S, rs, ls, L, r2, hc, rfl, hr5, hg5, ho5, la, lc, rfl, hapt⟩ | ⟨hc, rfl, hg5⟩)
   rotate_left
   · exact ⟨rfl, .inr ⟨by show _ = _; unfold reqF; rw [if_neg (by rw [HP1.out]; decide), if_pos HP2.out, HL.out]; simp only [hc], rfl, grown_trans X4.out.g hg5⟩⟩
   have X5 : Hid (QX w w5 q r2 #[.int .i64 2, .string (txt nm), .int .i64 0, .int .i64 0, .int .i64 0, .int .i64 0, .slice none 0 0, .slice none 0 0, .slice none 0 0, .int .i64 0, .slice none 0 0, .slice none 0 0]) := X4.out.read hr5 hg5
   have HK5 : Hid (w5.cell? ⟨gs, 0, none⟩ = some (.int .i64 x0)) := hg5.cell HK4.out (fun e => by injection e with e; exact HGQ e)
   have HC := hdn hc
   have hB4 : w.heap.size + 2 <= W4.heap.size := row_lt X4.out.b
   have O5 := hdn (ho5.base (b0 := w.heap.size + 2) (by omega))
   have HAP := hdn hapt
   clear hc hr5 hg5 ho5 hapt TP hB4 X4 HK4
   (try go_wp2_with fail)
   refine hK.out _ _ ?_ (fun hHeld => ?_)
   · exact HK5.out
   clear hK K
   (try simp only [Act.put, List.setIfInBounds_toArray, List.set_cons_zero, List.set_cons_succ])
   obtain ⟨ra, rc, e, -⟩ := own_sl O5.out.r
   subst e
   obtain ⟨nr, HNR⟩ := nmd S.length
   obtain ⟨m, HM⟩ := nmd L.length
   rw [HNR.out, HM.out] at O5 ⊢
   refine wpAnyH_ready (rs := [6]) (by kernel_rfl) (by simp) ?_
   refine AllReadyH.cons rfl (fun K hK => ?_) AllReadyH.nil
   obtain ⟨d0, d1, d2, d3, d4, d5, d6, d7, d8, d9, d10, d11⟩ := cells12q X5.out.b
   have xf := fun i => frozen_of_row _ _ i _ _ X5.out.b
   have X6 : Hid (QX w (w5.setCell ⟨w.heap.size + 1, 2, none⟩ (.int .i64 x0)) q r2 #[.int .i64 2, .string (txt nm), .int .i64 x0, .int .i64 0, .int .i64 0, .int .i64 0, .slice none 0 0, .slice none 0 0, .slice none 0 0, .int .i64 0, .slice none 0 0, .slice none 0 0]) := by
    have := (X5.out).put 2 (.int .i64 x0)
    show QX _ _ _ _ _
    simpa using this
   have hgw : w5.grownBy (w5.setCell ⟨w.heap.size + 1, 2, none⟩ (.int .i64 x0)) (some (w.heap.size + 1)) := (grown_set _ _ _ _)
   have HK6 : Hid (((w5.setCell ⟨w.heap.size + 1, 2, none⟩ (.int .i64 x0))).cell? ⟨gs, 0, none⟩ = some (.int .i64 x0)) := hgw.cell HK5.out (fun e => by injection e with e; exact HGS e)
   have O6 := hdn (O5.out.otherQ hgw (by omega))
   clear O5
   clear hgw
   go_simp
   refine hK.out _ _ ?_ (fun hHeld => ?_)
   · exact HK6.out
   clear hK K d0 d1 d2 d3 d4 d5 d6 d7 d8 d9 d10 d11 xf X5 HK5
   generalize (w5.setCell ⟨w.heap.size + 1, 2, none⟩ (.int .i64 x0)) = W6 at *
   refine tkH 7 hHeld ?_
   refine wpAnyH_ready (rs := [8]) (by kernel_rfl) (by simp) ?_
   refine AllReadyH.cons rfl (fun K hK => ?_) AllReadyH.nil
   obtain ⟨d0, d1, d2, d3, d4, d5, d6, d7, d8, d9, d10, d11⟩ := cells12q X6.out.b
   have xf := fun i => frozen_of_row _ _ i _ _ X6.out.b
   have X7 : Hid (QX w ((W6.setCell ⟨w.heap.size + 1, 10, none⟩ (.slice ra nr rc)).setCell ⟨w.heap.size + 1, 11, none⟩ (.slice la m lc)) q r2 #[.int .i64 2, .string (txt nm), .int .i64 x0, .int .i64 0, .int .i64 0, .int .i64 0, .slice none 0 0, .slice none 0 0, .slice none 0 0, .int .i64 0, .slice ra nr rc, .slice la m lc]) := by
    have := ((X6.out).put 10 (.slice ra nr rc)).put 11 (.slice la m lc)
    show QX _ _ _ _ _
    simpa using this
   have hgw : W6.grownBy ((W6.setCell ⟨w.heap.size + 1, 10, none⟩ (.slice ra nr rc)).setCell ⟨w.heap.size + 1, 11, none⟩ (.slice la m lc)) (some (w.heap.size + 1)) := (grown_trans (grown_set _ _ _ _) (grown_set _ _ _ _))
   have HK7 : Hid ((((W6.setCell ⟨w.heap.size + 1, 10, none⟩ (.slice ra nr rc)).setCell ⟨w.heap.size + 1, 11, none⟩ (.slice la m lc))).cell? ⟨gs, 0, none⟩ = some (.int .i64 x0)) := hgw.cell HK6.out (fun e => by injection e with e; exact HGS e)
   have O7 := hdn (O6.out.otherQ hgw (by omega))
   clear O6
   clear hgw
   go_simp
   refine hK.out _ _ ?_ (fun hHeld => ?_)
   · exact HK7.out
   clear hK K d0 d1 d2 d3 d4 d5 d6 d7 d8 d9 d10 d11 xf X6 HK6
   generalize ((W6.setCell ⟨w.heap.size + 1, 10, none⟩ (.slice ra nr rc)).setCell ⟨w.heap.size + 1, 11, none⟩ (.slice la m lc)) = W7 at *
   refine wpAnyH_done (by kernel_rfl) ?_ _
   clear hHeld HK7
   have HRQ : Hid (inB x0 1 1000000000 = true -> reqF s = some (⟨2, nm, x0, 0, 0, cv0, S.map bare, L⟩, r2)) := fun hx => by show _ = _; unfold reqF; rw [if_neg (by rw [HP1.out]; decide), if_pos HP2.out, HL.out]; simp only [HC.out, HX0.out, hx, if_true]
   have HNQ : Hid (inB x0 1 1000000000 = false -> reqF s = none) := fun hx => by show _ = _; unfold reqF; rw [if_neg (by rw [HP1.out]; decide), if_pos HP2.out, HL.out]; simp only [HC.out, HX0.out, hx, Bool.false_eq_true, if_false]
   have hfm : formB S L = true := (formB_key L (key_bareQ S)).symm.trans (planF_form HC.out)
   have hfs := (formB_iff S L).1 hfm
   have HFM := hdn hfm
   have HFI : Hid (∀ r ∈ S, r.ids.length <= 1048576) := fun r hr => by have := (hfs.2.2 r hr).2.1; omega
   have hnr5 : nr <= 5 := by rw [<- HNR.out]; exact hfs.1
   have hm12 : m <= 12 := by rw [<- HM.out]; exact ((idsB_iff L).1 hfs.2.1).1
   clear HL HC HX0 hll hfm hfs
   obtain ⟨d0, d1, d2, d3, d4, d5, d6, d7, d8, d9, d10, d11⟩ := cells12q X7.out.b
   have xf := fun i => frozen_of_row _ _ i _ _ X7.out.b
   have ASK := askPlan_any x0 ra la nr rc m lc S L nm W7 (po_atQ O7.out HNR.out) (po_lQ O7.out) HNR.out HM.out (by omega) (by omega) HFI.out HFM.out HNM.out HRL.out.2 X7.out.e
   go_wp2_with fail
   clear d0 d1 d2 d3 d4 d5 d6 d7 d8 d9 d10 d11 xf
   skip
   refine ASK.mono ?_
   rintro e wb ⟨av, ev, rfl, hb, hev⟩
   have XB : Hid _ := X7.out.below hb
   have OB := hdn (O7.out.below hb)
   clear hb ASK
   rcases hev with ⟨hx, rfl⟩ | ⟨hx, T9, v9, rfl⟩
   · skip
     obtain ⟨d0, d1, d2, d3, d4, d5, d6, d7, d8, d9, d10, d11⟩ := cells12q XB.out.b
     have xf := fun i => frozen_of_row _ _ i _ _ XB.out.b
     obtain ⟨z0, z1, z2, z3, z4, z5, z6, z7, z8, z9, z10, z11⟩ := cells12q XB.out.z
     have zf := fun i => frozen_of_row _ _ i _ _ XB.out.z
     go_wp2_with fail
     refine (must_yes _ _).mono ?_
     rintro e w' ⟨rfl, hw⟩
     subst w'
     go_wp2_with fail
     clear d0 d1 d2 d3 d4 d5 d6 d7 d8 d9 d10 d11 xf z0 z1 z2 z3 z4 z5 z6 z7 z8 z9 z10 z11 zf
     have HGF := hdn (putAll_grown w.heap.size [.int .i64 2, .string (txt nm), .int .i64 x0, .int .i64 0, .int .i64 0, .int .i64 0, .slice none 0 0, .slice none 0 0, .slice none 0 0, .int .i64 0, .slice ra nr rc, .slice la m lc] 0 wb)
     have ZR := hdn (putAll12 (.int .i64 2) (.string (txt nm)) (.int .i64 x0) (.int .i64 0) (.int .i64 0) (.int .i64 0) (.slice none 0 0) (.slice none 0 0) (.slice none 0 0) (.int .i64 0) (.slice ra nr rc) (.slice la m lc) XB.out.z)
     refine bodyPost_ret (w := putAll w.heap.size [.int .i64 2, .string (txt nm), .int .i64 x0, .int .i64 0, .int .i64 0, .int .i64 0, .slice none 0 0, .slice none 0 0, .slice none 0 0, .int .i64 0, .slice ra nr rc, .slice la m lc] 0 wb) (v := .agg #[.int .i64 2, .string (txt nm), .int .i64 x0, .int .i64 0, .int .i64 0, .int .i64 0, .slice none 0 0, .slice none 0 0, .slice none 0 0, .int .i64 0, .slice ra nr rc, .slice la m lc]) ?_ rfl ?_
     · have r1 := run_loadVar_row (P := Tryz.prog) _ w.heap.size 33 33 #[.int .i64 2, .string (txt nm), .int .i64 x0, .int .i64 0, .int .i64 0, .int .i64 0, .slice none 0 0, .slice none 0 0, .slice none 0 0, .int .i64 0, .slice ra nr rc, .slice la m lc] (0, 0) _ ZR.out Tryz.underlying33 rfl sizeReq
       simp [results, Tryz.results16, asAddr, r1]
     · exact .inl ⟨⟨2, nm, x0, 0, 0, cv0, S.map bare, L⟩, r2, _, _, _, .slice ra nr rc, la, lc, S, HRQ.out hx, rfl, by rw [HM.out]; rfl, (grown_row HGF.out XB.out.r (fun e => by injection e with e; have := XB.out.l; omega)), grown_ownR XB.out.g HGF.out (fun k e => by injection e with e; omega), CO.nilQ _ _, (by have h9 := (OB.out.otherQ HGF.out (by omega)).base (b0 := w.heap.size) (by omega); show PO _ _ _ _ (.slice la L.length lc) _; rw [HM.out]; exact h9), HAP.out, .inr ⟨rfl, rfl, rfl⟩⟩
   · skip
     go_wp2_with fail
     refine (must_no _ _).mono ?_
     rintro e w' ⟨rfl, rfl⟩
     exact ⟨rfl, .inr ⟨HNQ.out hx, rfl, XB.out.g⟩⟩
 have HP2 := hdn hp2
 rw [hp2] at A2
 clear hp2
 refine A2.mono ?_
 rintro e w' ⟨rfl, hw⟩
 subst w'
 clear A2
 go_wp2_with fail
 cases hp3 : (wSearch ++ [32]).isPrefixOf s
 rotate_left
 · have HP3 := hdn hp3
   rw [hp3] at A3
   clear hp3
   refine A3.mono ?_
   rintro e w' ⟨rfl, hw⟩
   subst w'
   clear A3 A4 A5
   obtain ⟨d0, d1, d2, d3, d4, d5, d6, d7, d8, d9, d10, d11⟩ := cells12q X0.out.b
   have xf := fun i => frozen_of_row _ _ i _ _ X0.out.b
   go_wp2_with fail
   clear d0 d1 d2 d3 d4 d5 d6 d7 d8 d9 d10 d11 xf
   have X1 : Hid (QX w (W0.setCell ⟨w.heap.size + 1, 0, none⟩ (.int .i64 3)) q s #[.int .i64 3, .string ⟨#[]⟩, .int .i64 0, .int .i64 0, .int .i64 0, .int .i64 0, .slice none 0 0, .slice none 0 0, .slice none 0 0, .int .i64 0, .slice none 0 0, .slice none 0 0]) := by
    have := (X0.out).put 0 (.int .i64 3)
    show QX _ _ _ _ _
    simpa using this
   have NM := named_any q 3 s wSearch (W0.setCell ⟨w.heap.size + 1, 0, none⟩ (.int .i64 3)) X1.out.r hs (by decide) (by omega)
   change Calls Tryz.prog 32 #[.pointer (some ⟨q, 0, none⟩), .string ⟨#[115, 101, 97, 114, 99, 104]⟩, .int .i64 3] _ _ at NM
   generalize (W0.setCell ⟨w.heap.size + 1, 0, none⟩ (.int .i64 3)) = W1 at *
   clear X0
   refine NM.mono ?_
   rintro e w2 (⟨nm, l, r, sl, hl, rfl, hr2, hg2, ho2⟩ | ⟨hl, rfl, hg2⟩)
   rotate_left
   · exact ⟨rfl, .inr ⟨by show _ = _; unfold reqF; rw [if_neg (by rw [HP1.out]; decide), if_neg (by rw [HP2.out]; decide), if_pos HP3.out, hl], rfl, grown_trans X1.out.g hg2⟩⟩
   have HL : Hid (namedF wSearch 3 s = some (nm, l, r)) := hl
   obtain ⟨hnm, hse, hll, -⟩ := namedF_is hl
   have HNM : Hid (nmB nm = true) := hnm
   have HRL : Hid (r.length <= 1000000000 /\ nm.length <= 1000000000) := by
    have h9 := congrArg List.length hse
    rw [named_tx] at h9
    simp only [List.length_append, List.length_cons] at h9
    constructor <;> omega
   have X2 : Hid (QX w w2 q r #[.int .i64 3, .string ⟨#[]⟩, .int .i64 0, .int .i64 0, .int .i64 0, .int .i64 0, .slice none 0 0, .slice none 0 0, .slice none 0 0, .int .i64 0, .slice none 0 0, .slice none 0 0]) := X1.out.read hr2 hg2
   have O2 := hdn ho2
   have HG2 := hdn X1.out.g.size
   clear hl hr2 hg2 ho2 hnm hse NM X1
   have hsl : ∃ g c, sl = .slice (some ⟨g, 0, none⟩) 3 c := by
    rcases own_kinds O2.out with ⟨_, e0⟩ | ⟨g9, c9, e9, -, -⟩
    · omega
    · exact ⟨g9, c9, by rw [e9, hll]⟩
   obtain ⟨gs, c9, rfl⟩ := hsl
   have hcl : ∀ j, j < 3 -> w2.cell? ⟨gs, j, none⟩ = some (.int .i64 (l.getD j 0)) := fun j hj => by
    have h9 := (own_cellV O2.out (k := j) (x := .int .i64 (l.getD j 0)) (by rw [List.getElem?_map, List.getElem?_eq_getElem (show j < l.length by omega), List.getD_eq_getElem?_getD, List.getElem?_eq_getElem (show j < l.length by omega)]; rfl)).1
    simpa using h9
   have c0 := hcl 0 (by omega)
   obtain ⟨x0, HX0⟩ := nmd (l.getD 0 0)
   rw [HX0.out] at c0
   have c1 := hcl 1 (by omega)
   obtain ⟨x1, HX1⟩ := nmd (l.getD 1 0)
   rw [HX1.out] at c1
   have c2 := hcl 2 (by omega)
   obtain ⟨x2, HX2⟩ := nmd (l.getD 2 0)
   rw [HX2.out] at c2
   clear hcl
   obtain ⟨d0, d1, d2, d3, d4, d5, d6, d7, d8, d9, d10, d11⟩ := cells12q X2.out.b
   have xf := fun i => frozen_of_row _ _ i _ _ X2.out.b
   have HGS : gs ≠ w.heap.size + 1 := fun e => own_typ O2.out X2.out.b (by decide) (by rw [e]; rfl)
   have HGQ : gs ≠ q := by have := (O2.out.lt gs rfl).1; have := X2.out.l; have := HG2.out; omega
   go_wp2_with fail
   clear d0 d1 d2 d3 d4 d5 d6 d7 d8 d9 d10 d11 xf
   have X3 : Hid (QX w (w2.setCell ⟨w.heap.size + 1, 1, none⟩ (.string (txt nm))) q r #[.int .i64 3, .string (txt nm), .int .i64 0, .int .i64 0, .int .i64 0, .int .i64 0, .slice none 0 0, .slice none 0 0, .slice none 0 0, .int .i64 0, .slice none 0 0, .slice none 0 0]) := by
    have := (X2.out).put 1 (.string (txt nm))
    show QX _ _ _ _ _
    simpa using this
   have HK : Hid (∀ W (b : Nat), w2.grownBy W (some b) -> gs ≠ b -> W.cell? ⟨gs, 0, none⟩ = some (.int .i64 x0) /\ W.cell? ⟨gs, 1, none⟩ = some (.int .i64 x1) /\ W.cell? ⟨gs, 2, none⟩ = some (.int .i64 x2)) := fun W b hg hb => ⟨hg.cell c0 (fun e => by injection e with e; exact hb e), hg.cell c1 (fun e => by injection e with e; exact hb e), hg.cell c2 (fun e => by injection e with e; exact hb e)⟩
   have hk3 : ((w2.setCell ⟨w.heap.size + 1, 1, none⟩ (.string (txt nm)))).cell? ⟨gs, 0, none⟩ = some (.int .i64 x0) /\ ((w2.setCell ⟨w.heap.size + 1, 1, none⟩ (.string (txt nm)))).cell? ⟨gs, 1, none⟩ = some (.int .i64 x1) /\ ((w2.setCell ⟨w.heap.size + 1, 1, none⟩ (.string (txt nm)))).cell? ⟨gs, 2, none⟩ = some (.int .i64 x2) := HK.out _ _ (grown_set _ _ _ _) HGS
   have HK3 := hdn hk3
   clear HK hk3 X2 O2 c0 c1 c2
   generalize (w2.setCell ⟨w.heap.size + 1, 1, none⟩ (.string (txt nm))) = W3 at *
   have hD : Below W3.heap.size W3 W3.drew := (Below.refl _ _).drew
   have HK4 : Hid (W3.drew.cell? ⟨gs, 0, none⟩ = some (.int .i64 x0) /\ W3.drew.cell? ⟨gs, 1, none⟩ = some (.int .i64 x1) /\ W3.drew.cell? ⟨gs, 2, none⟩ = some (.int .i64 x2)) := ⟨(hD.cell (p := ⟨gs, 0, none⟩) (block_lt_of_cell HK3.out.1)).trans HK3.out.1, (hD.cell (p := ⟨gs, 1, none⟩) (block_lt_of_cell HK3.out.2.1)).trans HK3.out.2.1, (hD.cell (p := ⟨gs, 2, none⟩) (block_lt_of_cell HK3.out.2.2)).trans HK3.out.2.2⟩
   refine wp_region_held_drew (S := (fun W => W.cell? ⟨gs, 0, none⟩ = some (.int .i64 x0) /\ W.cell? ⟨gs, 1, none⟩ = some (.int .i64 x1) /\ W.cell? ⟨gs, 2, none⟩ = some (.int .i64 x2))) (by kernel_rfl) ?_ (fun hHeld => ?_)
   · exact HK4.out
   have X4 : Hid _ := X3.out.below hD
   clear hD X3 HK3
   generalize W3.drew = W4 at *
   refine tkH 0 hHeld ?_
   refine tkH 1 hHeld ?_
   refine tkH 2 hHeld ?_
   refine tkH 3 hHeld ?_
   refine tkH 4 hHeld ?_
   refine tkH 5 hHeld ?_
   refine tkH 6 hHeld ?_
   refine tkH 7 hHeld ?_
   refine tkH 8 hHeld ?_
   refine tkH 9 hHeld ?_
   refine wpAnyH_ready (rs := [10]) (by kernel_rfl) (by simp) ?_
   refine AllReadyH.cons rfl (fun K hK => ?_) AllReadyH.nil
   obtain ⟨d0, d1, d2, d3, d4, d5, d6, d7, d8, d9, d10, d11⟩ := cells12q X4.out.b
   have xf := fun i => frozen_of_row _ _ i _ _ X4.out.b
   have X5 : Hid (QX w (W4.setCell ⟨w.heap.size + 1, 2, none⟩ (.int .i64 x0)) q r #[.int .i64 3, .string (txt nm), .int .i64 x0, .int .i64 0, .int .i64 0, .int .i64 0, .slice none 0 0, .slice none 0 0, .slice none 0 0, .int .i64 0, .slice none 0 0, .slice none 0 0]) := by
    have := (X4.out).put 2 (.int .i64 x0)
    show QX _ _ _ _ _
    simpa using this
   have hgw : W4.grownBy (W4.setCell ⟨w.heap.size + 1, 2, none⟩ (.int .i64 x0)) (some (w.heap.size + 1)) := (grown_set _ _ _ _)
   have HK5 : Hid (((W4.setCell ⟨w.heap.size + 1, 2, none⟩ (.int .i64 x0))).cell? ⟨gs, 0, none⟩ = some (.int .i64 x0) /\ ((W4.setCell ⟨w.heap.size + 1, 2, none⟩ (.int .i64 x0))).cell? ⟨gs, 1, none⟩ = some (.int .i64 x1) /\ ((W4.setCell ⟨w.heap.size + 1, 2, none⟩ (.int .i64 x0))).cell? ⟨gs, 2, none⟩ = some (.int .i64 x2)) := ⟨hgw.cell HK4.out.1 (fun e => by injection e with e; exact HGS e), hgw.cell HK4.out.2.1 (fun e => by injection e with e; exact HGS e), hgw.cell HK4.out.2.2 (fun e => by injection e with e; exact HGS e)⟩
   clear hgw
   go_simp
   refine hK.out _ _ ?_ (fun hHeld => ?_)
   · exact HK5.out
   clear hK K d0 d1 d2 d3 d4 d5 d6 d7 d8 d9 d10 d11 xf X4 HK4
   generalize (W4.setCell ⟨w.heap.size + 1, 2, none⟩ (.int .i64 x0)) = W5 at *
   refine tkH 11 hHeld ?_
   refine wpAnyH_ready (rs := [12]) (by kernel_rfl) (by simp) ?_
   refine AllReadyH.cons rfl (fun K hK => ?_) AllReadyH.nil
   obtain ⟨d0, d1, d2, d3, d4, d5, d6, d7, d8, d9, d10, d11⟩ := cells12q X5.out.b
   have xf := fun i => frozen_of_row _ _ i _ _ X5.out.b
   have X6 : Hid (QX w (W5.setCell ⟨w.heap.size + 1, 3, none⟩ (.int .i64 x1)) q r #[.int .i64 3, .string (txt nm), .int .i64 x0, .int .i64 x1, .int .i64 0, .int .i64 0, .slice none 0 0, .slice none 0 0, .slice none 0 0, .int .i64 0, .slice none 0 0, .slice none 0 0]) := by
    have := (X5.out).put 3 (.int .i64 x1)
    show QX _ _ _ _ _
    simpa using this
   have hgw : W5.grownBy (W5.setCell ⟨w.heap.size + 1, 3, none⟩ (.int .i64 x1)) (some (w.heap.size + 1)) := (grown_set _ _ _ _)
   have HK6 : Hid (((W5.setCell ⟨w.heap.size + 1, 3, none⟩ (.int .i64 x1))).cell? ⟨gs, 0, none⟩ = some (.int .i64 x0) /\ ((W5.setCell ⟨w.heap.size + 1, 3, none⟩ (.int .i64 x1))).cell? ⟨gs, 1, none⟩ = some (.int .i64 x1) /\ ((W5.setCell ⟨w.heap.size + 1, 3, none⟩ (.int .i64 x1))).cell? ⟨gs, 2, none⟩ = some (.int .i64 x2)) := ⟨hgw.cell HK5.out.1 (fun e => by injection e with e; exact HGS e), hgw.cell HK5.out.2.1 (fun e => by injection e with e; exact HGS e), hgw.cell HK5.out.2.2 (fun e => by injection e with e; exact HGS e)⟩
   clear hgw
   go_simp
   refine hK.out _ _ ?_ (fun hHeld => ?_)
   · exact HK6.out
   clear hK K d0 d1 d2 d3 d4 d5 d6 d7 d8 d9 d10 d11 xf X5 HK5
   generalize (W5.setCell ⟨w.heap.size + 1, 3, none⟩ (.int .i64 x1)) = W6 at *
   refine tkH 13 hHeld ?_
   refine wpAnyH_ready (rs := [14]) (by kernel_rfl) (by simp) ?_
   refine AllReadyH.cons rfl (fun K hK => ?_) AllReadyH.nil
   obtain ⟨d0, d1, d2, d3, d4, d5, d6, d7, d8, d9, d10, d11⟩ := cells12q X6.out.b
   have xf := fun i => frozen_of_row _ _ i _ _ X6.out.b
   have X7 : Hid (QX w (W6.setCell ⟨w.heap.size + 1, 4, none⟩ (.int .i64 x2)) q r #[.int .i64 3, .string (txt nm), .int .i64 x0, .int .i64 x1, .int .i64 x2, .int .i64 0, .slice none 0 0, .slice none 0 0, .slice none 0 0, .int .i64 0, .slice none 0 0, .slice none 0 0]) := by
    have := (X6.out).put 4 (.int .i64 x2)
    show QX _ _ _ _ _
    simpa using this
   have hgw : W6.grownBy (W6.setCell ⟨w.heap.size + 1, 4, none⟩ (.int .i64 x2)) (some (w.heap.size + 1)) := (grown_set _ _ _ _)
   have HK7 : Hid (((W6.setCell ⟨w.heap.size + 1, 4, none⟩ (.int .i64 x2))).cell? ⟨gs, 0, none⟩ = some (.int .i64 x0) /\ ((W6.setCell ⟨w.heap.size + 1, 4, none⟩ (.int .i64 x2))).cell? ⟨gs, 1, none⟩ = some (.int .i64 x1) /\ ((W6.setCell ⟨w.heap.size + 1, 4, none⟩ (.int .i64 x2))).cell? ⟨gs, 2, none⟩ = some (.int .i64 x2)) := ⟨hgw.cell HK6.out.1 (fun e => by injection e with e; exact HGS e), hgw.cell HK6.out.2.1 (fun e => by injection e with e; exact HGS e), hgw.cell HK6.out.2.2 (fun e => by injection e with e; exact HGS e)⟩
   clear hgw
   go_simp
   refine hK.out _ _ ?_ (fun hHeld => ?_)
   · exact HK7.out
   clear hK K d0 d1 d2 d3 d4 d5 d6 d7 d8 d9 d10 d11 xf X6 HK6
   generalize (W6.setCell ⟨w.heap.size + 1, 4, none⟩ (.int .i64 x2)) = W7 at *
   refine wpAnyH_done (by kernel_rfl) ?_ _
   clear hHeld HK7
   have HRQ : Hid ((inB x0 1 1000000000 && (inB x1 0 2147483647 && inB x2 0 60)) = true -> reqF s = some (⟨3, nm, x0, x1, x2, cv0, [], []⟩, r)) := fun hx => by show _ = _; unfold reqF; rw [if_neg (by rw [HP1.out]; decide), if_neg (by rw [HP2.out]; decide), if_pos HP3.out, HL.out]; simp only [HX0.out, HX1.out, HX2.out, hx, if_true]
   have HNQ : Hid ((inB x0 1 1000000000 && (inB x1 0 2147483647 && inB x2 0 60)) = false -> reqF s = none) := fun hx => by show _ = _; unfold reqF; rw [if_neg (by rw [HP1.out]; decide), if_neg (by rw [HP2.out]; decide), if_pos HP3.out, HL.out]; simp only [HX0.out, HX1.out, HX2.out, hx, Bool.false_eq_true, if_false]
   clear HL HX0 HX1 HX2 hll
   obtain ⟨d0, d1, d2, d3, d4, d5, d6, d7, d8, d9, d10, d11⟩ := cells12q X7.out.b
   have xf := fun i => frozen_of_row _ _ i _ _ X7.out.b
   have ASK := askSearch_any x0 x1 x2 nm W7 HNM.out HRL.out.2 X7.out.e
   go_wp2_with fail
   clear d0 d1 d2 d3 d4 d5 d6 d7 d8 d9 d10 d11 xf
   skip
   refine ASK.mono ?_
   rintro e wb ⟨av, ev, rfl, hb, hev⟩
   have XB : Hid _ := X7.out.below hb
   clear hb ASK
   rcases hev with ⟨hx, rfl⟩ | ⟨hx, T9, v9, rfl⟩
   · skip
     obtain ⟨d0, d1, d2, d3, d4, d5, d6, d7, d8, d9, d10, d11⟩ := cells12q XB.out.b
     have xf := fun i => frozen_of_row _ _ i _ _ XB.out.b
     obtain ⟨z0, z1, z2, z3, z4, z5, z6, z7, z8, z9, z10, z11⟩ := cells12q XB.out.z
     have zf := fun i => frozen_of_row _ _ i _ _ XB.out.z
     go_wp2_with fail
     refine (must_yes _ _).mono ?_
     rintro e w' ⟨rfl, hw⟩
     subst w'
     go_wp2_with fail
     clear d0 d1 d2 d3 d4 d5 d6 d7 d8 d9 d10 d11 xf z0 z1 z2 z3 z4 z5 z6 z7 z8 z9 z10 z11 zf
     have HGF := hdn (putAll_grown w.heap.size [.int .i64 3, .string (txt nm), .int .i64 x0, .int .i64 x1, .int .i64 x2, .int .i64 0, .slice none 0 0, .slice none 0 0, .slice none 0 0, .int .i64 0, .slice none 0 0, .slice none 0 0] 0 wb)
     have ZR := hdn (putAll12 (.int .i64 3) (.string (txt nm)) (.int .i64 x0) (.int .i64 x1) (.int .i64 x2) (.int .i64 0) (.slice none 0 0) (.slice none 0 0) (.slice none 0 0) (.int .i64 0) (.slice none 0 0) (.slice none 0 0) XB.out.z)
     refine bodyPost_ret (w := putAll w.heap.size [.int .i64 3, .string (txt nm), .int .i64 x0, .int .i64 x1, .int .i64 x2, .int .i64 0, .slice none 0 0, .slice none 0 0, .slice none 0 0, .int .i64 0, .slice none 0 0, .slice none 0 0] 0 wb) (v := .agg #[.int .i64 3, .string (txt nm), .int .i64 x0, .int .i64 x1, .int .i64 x2, .int .i64 0, .slice none 0 0, .slice none 0 0, .slice none 0 0, .int .i64 0, .slice none 0 0, .slice none 0 0]) ?_ rfl ?_
     · have r1 := run_loadVar_row (P := Tryz.prog) _ w.heap.size 33 33 #[.int .i64 3, .string (txt nm), .int .i64 x0, .int .i64 x1, .int .i64 x2, .int .i64 0, .slice none 0 0, .slice none 0 0, .slice none 0 0, .int .i64 0, .slice none 0 0, .slice none 0 0] (0, 0) _ ZR.out Tryz.underlying33 rfl sizeReq
       simp [results, Tryz.results16, asAddr, r1]
     · exact .inl ⟨⟨3, nm, x0, x1, x2, cv0, [], []⟩, r, _, _, _, _, none, 0, [], HRQ.out hx, rfl, rfl, (grown_row HGF.out XB.out.r (fun e => by injection e with e; have := XB.out.l; omega)), grown_ownR XB.out.g HGF.out (fun k e => by injection e with e; omega), CO.nilQ _ _, PO.nilQ _ _, (by unfold Apt; simp), .inl ⟨rfl, rfl, rfl⟩⟩
   · skip
     go_wp2_with fail
     refine (must_no _ _).mono ?_
     rintro e w' ⟨rfl, rfl⟩
     exact ⟨rfl, .inr ⟨HNQ.out hx, rfl, XB.out.g⟩⟩
 have HP3 := hdn hp3
 rw [hp3] at A3
 clear hp3
 refine A3.mono ?_
 rintro e w' ⟨rfl, hw⟩
 subst w'
 clear A3
 go_wp2_with fail
 cases hp4 : (wPublish ++ [32]).isPrefixOf s
 rotate_left
 · have HP4 := hdn hp4
   rw [hp4] at A4
   clear hp4
   refine A4.mono ?_
   rintro e w' ⟨rfl, hw⟩
   subst w'
   clear A4 A5
   obtain ⟨d0, d1, d2, d3, d4, d5, d6, d7, d8, d9, d10, d11⟩ := cells12q X0.out.b
   have xf := fun i => frozen_of_row _ _ i _ _ X0.out.b
   go_wp2_with fail
   clear d0 d1 d2 d3 d4 d5 d6 d7 d8 d9 d10 d11 xf
   have X1 : Hid (QX w (W0.setCell ⟨w.heap.size + 1, 0, none⟩ (.int .i64 4)) q s #[.int .i64 4, .string ⟨#[]⟩, .int .i64 0, .int .i64 0, .int .i64 0, .int .i64 0, .slice none 0 0, .slice none 0 0, .slice none 0 0, .int .i64 0, .slice none 0 0, .slice none 0 0]) := by
    have := (X0.out).put 0 (.int .i64 4)
    show QX _ _ _ _ _
    simpa using this
   have NM := named_any q 1 s wPublish (W0.setCell ⟨w.heap.size + 1, 0, none⟩ (.int .i64 4)) X1.out.r hs (by decide) (by omega)
   change Calls Tryz.prog 32 #[.pointer (some ⟨q, 0, none⟩), .string ⟨#[112, 117, 98, 108, 105, 115, 104]⟩, .int .i64 1] _ _ at NM
   generalize (W0.setCell ⟨w.heap.size + 1, 0, none⟩ (.int .i64 4)) = W1 at *
   clear X0
   refine NM.mono ?_
   rintro e w2 (⟨nm, l, r, sl, hl, rfl, hr2, hg2, ho2⟩ | ⟨hl, rfl, hg2⟩)
   rotate_left
   · exact ⟨rfl, .inr ⟨by show _ = _; unfold reqF; rw [if_neg (by rw [HP1.out]; decide), if_neg (by rw [HP2.out]; decide), if_neg (by rw [HP3.out]; decide), if_pos HP4.out, hl], rfl, grown_trans X1.out.g hg2⟩⟩
   have HL : Hid (namedF wPublish 1 s = some (nm, l, r)) := hl
   obtain ⟨hnm, hse, hll, -⟩ := namedF_is hl
   have HNM : Hid (nmB nm = true) := hnm
   have HRL : Hid (r.length <= 1000000000 /\ nm.length <= 1000000000) := by
    have h9 := congrArg List.length hse
    rw [named_tx] at h9
    simp only [List.length_append, List.length_cons] at h9
    constructor <;> omega
   have X2 : Hid (QX w w2 q r #[.int .i64 4, .string ⟨#[]⟩, .int .i64 0, .int .i64 0, .int .i64 0, .int .i64 0, .slice none 0 0, .slice none 0 0, .slice none 0 0, .int .i64 0, .slice none 0 0, .slice none 0 0]) := X1.out.read hr2 hg2
   have O2 := hdn ho2
   have HG2 := hdn X1.out.g.size
   clear hl hr2 hg2 ho2 hnm hse NM X1
   have hsl : ∃ g c, sl = .slice (some ⟨g, 0, none⟩) 1 c := by
    rcases own_kinds O2.out with ⟨_, e0⟩ | ⟨g9, c9, e9, -, -⟩
    · omega
    · exact ⟨g9, c9, by rw [e9, hll]⟩
   obtain ⟨gs, c9, rfl⟩ := hsl
   have hcl : ∀ j, j < 1 -> w2.cell? ⟨gs, j, none⟩ = some (.int .i64 (l.getD j 0)) := fun j hj => by
    have h9 := (own_cellV O2.out (k := j) (x := .int .i64 (l.getD j 0)) (by rw [List.getElem?_map, List.getElem?_eq_getElem (show j < l.length by omega), List.getD_eq_getElem?_getD, List.getElem?_eq_getElem (show j < l.length by omega)]; rfl)).1
    simpa using h9
   have c0 := hcl 0 (by omega)
   obtain ⟨x0, HX0⟩ := nmd (l.getD 0 0)
   rw [HX0.out] at c0
   clear hcl
   obtain ⟨d0, d1, d2, d3, d4, d5, d6, d7, d8, d9, d10, d11⟩ := cells12q X2.out.b
   have xf := fun i => frozen_of_row _ _ i _ _ X2.out.b
   have HGS : gs ≠ w.heap.size + 1 := fun e => own_typ O2.out X2.out.b (by decide) (by rw [e]; rfl)
   have c1 : ((w2.setCell ⟨w.heap.size + 1, 1, none⟩ (.string (txt nm)))).cell? ⟨gs, 0, none⟩ = some (.int .i64 x0) := (grown_set _ _ _ _).cell c0 (fun e => by injection e with e; exact HGS e)
   go_wp2_with fail
   clear d0 d1 d2 d3 d4 d5 d6 d7 d8 d9 d10 d11 xf
   have X3 : Hid (QX w ((w2.setCell ⟨w.heap.size + 1, 1, none⟩ (.string (txt nm))).setCell ⟨w.heap.size + 1, 2, none⟩ (.int .i64 x0)) q r #[.int .i64 4, .string (txt nm), .int .i64 x0, .int .i64 0, .int .i64 0, .int .i64 0, .slice none 0 0, .slice none 0 0, .slice none 0 0, .int .i64 0, .slice none 0 0, .slice none 0 0]) := by
    have := ((X2.out).put 1 (.string (txt nm))).put 2 (.int .i64 x0)
    show QX _ _ _ _ _
    simpa using this
   have HRQ : Hid (inB x0 1 1000000000 = true -> reqF s = some (⟨4, nm, x0, 0, 0, cv0, [], []⟩, r)) := fun hx => by show _ = _; unfold reqF; rw [if_neg (by rw [HP1.out]; decide), if_neg (by rw [HP2.out]; decide), if_neg (by rw [HP3.out]; decide), if_pos HP4.out, HL.out]; simp only [HX0.out, hx, if_true]
   have HNQ : Hid (inB x0 1 1000000000 = false -> reqF s = none) := fun hx => by show _ = _; unfold reqF; rw [if_neg (by rw [HP1.out]; decide), if_neg (by rw [HP2.out]; decide), if_neg (by rw [HP3.out]; decide), if_pos HP4.out, HL.out]; simp only [HX0.out, hx, Bool.false_eq_true, if_false]
   clear HL X2 O2 c0 c1 HG2 HX0 hll HGS
   obtain ⟨d0, d1, d2, d3, d4, d5, d6, d7, d8, d9, d10, d11⟩ := cells12q X3.out.b
   have xf := fun i => frozen_of_row _ _ i _ _ X3.out.b
   have ASK := askPub_any x0 nm ((w2.setCell ⟨w.heap.size + 1, 1, none⟩ (.string (txt nm))).setCell ⟨w.heap.size + 1, 2, none⟩ (.int .i64 x0)) HNM.out HRL.out.2 X3.out.e
   go_wp2_with fail
   clear d0 d1 d2 d3 d4 d5 d6 d7 d8 d9 d10 d11 xf
   generalize ((w2.setCell ⟨w.heap.size + 1, 1, none⟩ (.string (txt nm))).setCell ⟨w.heap.size + 1, 2, none⟩ (.int .i64 x0)) = WA at *
   refine ASK.mono ?_
   rintro e wb ⟨av, ev, rfl, hb, hev⟩
   have XB : Hid _ := X3.out.below hb
   clear hb ASK
   rcases hev with ⟨hx, rfl⟩ | ⟨hx, T9, v9, rfl⟩
   · skip
     obtain ⟨d0, d1, d2, d3, d4, d5, d6, d7, d8, d9, d10, d11⟩ := cells12q XB.out.b
     have xf := fun i => frozen_of_row _ _ i _ _ XB.out.b
     obtain ⟨z0, z1, z2, z3, z4, z5, z6, z7, z8, z9, z10, z11⟩ := cells12q XB.out.z
     have zf := fun i => frozen_of_row _ _ i _ _ XB.out.z
     go_wp2_with fail
     refine (must_yes _ _).mono ?_
     rintro e w' ⟨rfl, hw⟩
     subst w'
     go_wp2_with fail
     clear d0 d1 d2 d3 d4 d5 d6 d7 d8 d9 d10 d11 xf z0 z1 z2 z3 z4 z5 z6 z7 z8 z9 z10 z11 zf
     have HGF := hdn (putAll_grown w.heap.size [.int .i64 4, .string (txt nm), .int .i64 x0, .int .i64 0, .int .i64 0, .int .i64 0, .slice none 0 0, .slice none 0 0, .slice none 0 0, .int .i64 0, .slice none 0 0, .slice none 0 0] 0 wb)
     have ZR := hdn (putAll12 (.int .i64 4) (.string (txt nm)) (.int .i64 x0) (.int .i64 0) (.int .i64 0) (.int .i64 0) (.slice none 0 0) (.slice none 0 0) (.slice none 0 0) (.int .i64 0) (.slice none 0 0) (.slice none 0 0) XB.out.z)
     refine bodyPost_ret (w := putAll w.heap.size [.int .i64 4, .string (txt nm), .int .i64 x0, .int .i64 0, .int .i64 0, .int .i64 0, .slice none 0 0, .slice none 0 0, .slice none 0 0, .int .i64 0, .slice none 0 0, .slice none 0 0] 0 wb) (v := .agg #[.int .i64 4, .string (txt nm), .int .i64 x0, .int .i64 0, .int .i64 0, .int .i64 0, .slice none 0 0, .slice none 0 0, .slice none 0 0, .int .i64 0, .slice none 0 0, .slice none 0 0]) ?_ rfl ?_
     · have r1 := run_loadVar_row (P := Tryz.prog) _ w.heap.size 33 33 #[.int .i64 4, .string (txt nm), .int .i64 x0, .int .i64 0, .int .i64 0, .int .i64 0, .slice none 0 0, .slice none 0 0, .slice none 0 0, .int .i64 0, .slice none 0 0, .slice none 0 0] (0, 0) _ ZR.out Tryz.underlying33 rfl sizeReq
       simp [results, Tryz.results16, asAddr, r1]
     · exact .inl ⟨⟨4, nm, x0, 0, 0, cv0, [], []⟩, r, _, _, _, _, none, 0, [], HRQ.out hx, rfl, rfl, (grown_row HGF.out XB.out.r (fun e => by injection e with e; have := XB.out.l; omega)), grown_ownR XB.out.g HGF.out (fun k e => by injection e with e; omega), CO.nilQ _ _, PO.nilQ _ _, (by unfold Apt; simp), .inl ⟨rfl, rfl, rfl⟩⟩
   · skip
     go_wp2_with fail
     refine (must_no _ _).mono ?_
     rintro e w' ⟨rfl, rfl⟩
     exact ⟨rfl, .inr ⟨HNQ.out hx, rfl, XB.out.g⟩⟩
 have HP4 := hdn hp4
 rw [hp4] at A4
 clear hp4
 refine A4.mono ?_
 rintro e w' ⟨rfl, hw⟩
 subst w'
 clear A4
 go_wp2_with fail
 cases hp5 : (wSweep ++ [32]).isPrefixOf s
 rotate_left
 · have HP5 := hdn hp5
   rw [hp5] at A5
   clear hp5
   refine A5.mono ?_
   rintro e w' ⟨rfl, hw⟩
   subst w'
   clear A5
   obtain ⟨d0, d1, d2, d3, d4, d5, d6, d7, d8, d9, d10, d11⟩ := cells12q X0.out.b
   have xf := fun i => frozen_of_row _ _ i _ _ X0.out.b
   go_wp2_with fail
   clear d0 d1 d2 d3 d4 d5 d6 d7 d8 d9 d10 d11 xf
   have X1 : Hid (QX w (W0.setCell ⟨w.heap.size + 1, 0, none⟩ (.int .i64 5)) q s #[.int .i64 5, .string ⟨#[]⟩, .int .i64 0, .int .i64 0, .int .i64 0, .int .i64 0, .slice none 0 0, .slice none 0 0, .slice none 0 0, .int .i64 0, .slice none 0 0, .slice none 0 0]) := by
    have := (X0.out).put 0 (.int .i64 5)
    show QX _ _ _ _ _
    simpa using this
   have NM := named_any q 0 s wSweep (W0.setCell ⟨w.heap.size + 1, 0, none⟩ (.int .i64 5)) X1.out.r hs (by decide) (by omega)
   change Calls Tryz.prog 32 #[.pointer (some ⟨q, 0, none⟩), .string ⟨#[115, 119, 101, 101, 112]⟩, .int .i64 0] _ _ at NM
   generalize (W0.setCell ⟨w.heap.size + 1, 0, none⟩ (.int .i64 5)) = W1 at *
   clear X0
   refine NM.mono ?_
   rintro e w2 (⟨nm, l, r, sl, hl, rfl, hr2, hg2, ho2⟩ | ⟨hl, rfl, hg2⟩)
   rotate_left
   · exact ⟨rfl, .inr ⟨by show _ = _; unfold reqF; rw [if_neg (by rw [HP1.out]; decide), if_neg (by rw [HP2.out]; decide), if_neg (by rw [HP3.out]; decide), if_neg (by rw [HP4.out]; decide), if_pos HP5.out, hl], rfl, grown_trans X1.out.g hg2⟩⟩
   have HL : Hid (namedF wSweep 0 s = some (nm, l, r)) := hl
   obtain ⟨hnm, hse, hll, -⟩ := namedF_is hl
   have HNM : Hid (nmB nm = true) := hnm
   have HRL : Hid (r.length <= 1000000000 /\ nm.length <= 1000000000) := by
    have h9 := congrArg List.length hse
    rw [named_tx] at h9
    simp only [List.length_append, List.length_cons] at h9
    constructor <;> omega
   have X2 : Hid (QX w w2 q r #[.int .i64 5, .string ⟨#[]⟩, .int .i64 0, .int .i64 0, .int .i64 0, .int .i64 0, .slice none 0 0, .slice none 0 0, .slice none 0 0, .int .i64 0, .slice none 0 0, .slice none 0 0]) := X1.out.read hr2 hg2
   clear hl hr2 hg2 ho2 hnm hse hll NM X1
   obtain ⟨d0, d1, d2, d3, d4, d5, d6, d7, d8, d9, d10, d11⟩ := cells12q X2.out.b
   have xf := fun i => frozen_of_row _ _ i _ _ X2.out.b
   go_wp2_with fail
   clear d0 d1 d2 d3 d4 d5 d6 d7 d8 d9 d10 d11 xf
   have X3 : Hid (QX w (w2.setCell ⟨w.heap.size + 1, 1, none⟩ (.string (txt nm))) q r #[.int .i64 5, .string (txt nm), .int .i64 0, .int .i64 0, .int .i64 0, .int .i64 0, .slice none 0 0, .slice none 0 0, .slice none 0 0, .int .i64 0, .slice none 0 0, .slice none 0 0]) := by
    have := (X2.out).put 1 (.string (txt nm))
    show QX _ _ _ _ _
    simpa using this
   have HRQ : Hid (reqF s = some (⟨5, nm, 0, 0, 0, cv0, [], []⟩, r)) := by show _ = _; unfold reqF; rw [if_neg (by rw [HP1.out]; decide), if_neg (by rw [HP2.out]; decide), if_neg (by rw [HP3.out]; decide), if_neg (by rw [HP4.out]; decide), if_pos HP5.out, HL.out]
   clear HL X2
   obtain ⟨d0, d1, d2, d3, d4, d5, d6, d7, d8, d9, d10, d11⟩ := cells12q X3.out.b
   have xf := fun i => frozen_of_row _ _ i _ _ X3.out.b
   have ASK := askSweep_any nm (w2.setCell ⟨w.heap.size + 1, 1, none⟩ (.string (txt nm))) HNM.out HRL.out.2
   go_wp2_with fail
   clear d0 d1 d2 d3 d4 d5 d6 d7 d8 d9 d10 d11 xf
   generalize (w2.setCell ⟨w.heap.size + 1, 1, none⟩ (.string (txt nm))) = WA at *
   refine ASK.mono ?_
   rintro e wb ⟨av, ev, rfl, hb, hev⟩
   have XB : Hid _ := X3.out.below hb
   clear hb ASK
   rcases hev with ⟨-, rfl⟩ | ⟨h9, -⟩
   rotate_left
   · cases h9
   obtain ⟨d0, d1, d2, d3, d4, d5, d6, d7, d8, d9, d10, d11⟩ := cells12q XB.out.b
   have xf := fun i => frozen_of_row _ _ i _ _ XB.out.b
   obtain ⟨z0, z1, z2, z3, z4, z5, z6, z7, z8, z9, z10, z11⟩ := cells12q XB.out.z
   have zf := fun i => frozen_of_row _ _ i _ _ XB.out.z
   go_wp2_with fail
   refine (must_yes _ _).mono ?_
   rintro e w' ⟨rfl, hw⟩
   subst w'
   go_wp2_with fail
   clear d0 d1 d2 d3 d4 d5 d6 d7 d8 d9 d10 d11 xf z0 z1 z2 z3 z4 z5 z6 z7 z8 z9 z10 z11 zf
   have HGF := hdn (putAll_grown w.heap.size [.int .i64 5, .string (txt nm), .int .i64 0, .int .i64 0, .int .i64 0, .int .i64 0, .slice none 0 0, .slice none 0 0, .slice none 0 0, .int .i64 0, .slice none 0 0, .slice none 0 0] 0 wb)
   have ZR := hdn (putAll12 (.int .i64 5) (.string (txt nm)) (.int .i64 0) (.int .i64 0) (.int .i64 0) (.int .i64 0) (.slice none 0 0) (.slice none 0 0) (.slice none 0 0) (.int .i64 0) (.slice none 0 0) (.slice none 0 0) XB.out.z)
   refine bodyPost_ret (w := putAll w.heap.size [.int .i64 5, .string (txt nm), .int .i64 0, .int .i64 0, .int .i64 0, .int .i64 0, .slice none 0 0, .slice none 0 0, .slice none 0 0, .int .i64 0, .slice none 0 0, .slice none 0 0] 0 wb) (v := .agg #[.int .i64 5, .string (txt nm), .int .i64 0, .int .i64 0, .int .i64 0, .int .i64 0, .slice none 0 0, .slice none 0 0, .slice none 0 0, .int .i64 0, .slice none 0 0, .slice none 0 0]) ?_ rfl ?_
   · have r1 := run_loadVar_row (P := Tryz.prog) _ w.heap.size 33 33 #[.int .i64 5, .string (txt nm), .int .i64 0, .int .i64 0, .int .i64 0, .int .i64 0, .slice none 0 0, .slice none 0 0, .slice none 0 0, .int .i64 0, .slice none 0 0, .slice none 0 0] (0, 0) _ ZR.out Tryz.underlying33 rfl sizeReq
     simp [results, Tryz.results16, asAddr, r1]
   · exact .inl ⟨⟨5, nm, 0, 0, 0, cv0, [], []⟩, r, _, _, _, _, none, 0, [], HRQ.out, rfl, rfl, (grown_row HGF.out XB.out.r (fun e => by injection e with e; have := XB.out.l; omega)), grown_ownR XB.out.g HGF.out (fun k e => by injection e with e; omega), CO.nilQ _ _, PO.nilQ _ _, (by unfold Apt; simp), .inl ⟨rfl, rfl, rfl⟩⟩
 have HP5 := hdn hp5
 rw [hp5] at A5
 clear hp5
 refine A5.mono ?_
 rintro e w' ⟨rfl, hw⟩
 subst w'
 clear A5
 obtain ⟨d0, d1, d2, d3, d4, d5, d6, d7, d8, d9, d10, d11⟩ := cells12q X0.out.b
 have xf := fun i => frozen_of_row _ _ i _ _ X0.out.b
 have ASK := askNone_any W0 X0.out.e
 go_wp2_with fail
 clear d0 d1 d2 d3 d4 d5 d6 d7 d8 d9 d10 d11 xf
 refine ASK.mono ?_
 rintro e wb ⟨av, ev, rfl, hb, hev⟩
 have XB : Hid _ := X0.out.below hb
 clear hb ASK
 rcases hev with ⟨h9, -⟩ | ⟨-, T9, v9, rfl⟩
 · cases h9
 go_wp2_with fail
 refine (must_no _ _).mono ?_
 rintro e w' ⟨rfl, rfl⟩
 exact ⟨rfl, .inr ⟨by show _ = _; unfold reqF; rw [if_neg (by rw [HP1.out]; decide), if_neg (by rw [HP2.out]; decide), if_neg (by rw [HP3.out]; decide), if_neg (by rw [HP4.out]; decide), if_neg (by rw [HP5.out]; decide)], rfl, XB.out.g⟩⟩
end Go.Proofs.YtcapkcallaajaaaGreatDoor
