import Derived.Test.YtehfjfmfpdgibaaGreatDoorPack4
import Derived.Test.YtehfjfmfpdgibaaGreatDoorPack5
import Derived.Test.YtehfjfmfpdgibaaGreatDoorInsKit
import Derived.Test.YtehfjfmfpdgibaaGreatDoorPack20
namespace Go.Proofs.YtehfjfmfpdgibaaGreatDoor
open Go.RowKit
structure SNO (w : World) (base : Nat) (s : SN) : Prop where
 z : w.ownsRow base 2 1 (.slice s.za s.c.zs.length s.zc) s.c.zs.length (s.c.zs.map (Value.int .i64))
 o : w.ownsRow base 146 6 (.slice s.oa s.c.ko s.oc) s.c.ko (s.c.os.map (Value.int .i64))
 v : w.ownsRow base 137 5 (.slice s.va s.c.kv s.vc) s.c.kv (s.c.vs.map (Value.int .i64))
theorem SNO.below {w w' : World} {base : Nat} {s : SN} (h : SNO w base s) (hb : Below w.heap.size w w') : SNO w' base s := ⟨owns_below h.z hb, owns_below h.o hb, owns_below h.v hb⟩
theorem SNO.base {w : World} {base b0 : Nat} {s : SN} (h : SNO w base s) (hb : b0 <= base) : SNO w b0 s := ⟨owns_base h.z hb, owns_base h.o hb, owns_base h.v hb⟩
theorem SNO.set {w : World} {base b i : Nat} {u : Value} {s : SN} (h : SNO w base s) (hb : b < base) : SNO (w.setCell ⟨b, i, none⟩ u) base s := ⟨owns_set h.z hb, owns_set h.o hb, owns_set h.v hb⟩
theorem own_nil0 (W : World) (E : TypeId) (size base : Nat) (hb : base <= W.heap.size) : (W.alloc (.cells #[] E)).ownsRow base E size (.slice (some ⟨W.heap.size, 0, none⟩) 0 0) 0 ([] : List Value) := by
 exact ⟨by simp, .inr ⟨W.heap.size, 0, #[], rfl, hb, heap_alloc_new _ _, Nat.le_refl _, by unfold maxLen; omega, by simp, by simp⟩⟩
theorem ints_cellsO {w : World} {a : Option Addr} {zs : List Int} (h : IntsAt w a zs) : ∀ j u, (zs.map (Value.int .i64))[j]? = some u -> ∃ b off, a = some ⟨b, off, none⟩ /\ w.cell? ⟨b, off + j, none⟩ = some u := by
 intro j u hu
 have hj : j < zs.length := by
  rcases Nat.lt_or_ge j zs.length with h' | h'
  · exact h'
  · simp [List.getElem?_eq_none (by simpa using h' : (zs.map (Value.int .i64)).length <= j)] at hu
 obtain ⟨b, off, e, hc⟩ := h j hj
 refine ⟨b, off, e, ?_⟩
 rw [hc, <- hu]
 simp [List.getD, hj]
structure CC (w W : World) (s : Array Value) : Prop where
 b : Below w.heap.size w W
 s : W.heap[w.heap.size]? = some (.cells s 78 (0, 0))
 o : W.heap[w.heap.size + 1]? = some (.cells #[.int .i64 0, .slice none 0 0, .slice none 0 0, .slice none 0 0, .int .i64 0] 78 (0, 0))
theorem CC.new (w : World) (s : Array Value) : CC w ((w.alloc (.cells s 78)).alloc (.cells #[.int .i64 0, .slice none 0 0, .slice none 0 0, .slice none 0 0, .int .i64 0] 78)) s :=
 ⟨((Below.refl _ _).alloc (Nat.le_refl _) _).alloc (by simp) _, heap_alloc2_old _ _ _, heap_alloc2_new _ _ _⟩
theorem CC.size {w W : World} {s : Array Value} (h : CC w W s) : w.heap.size + 2 <= W.heap.size := row_lt h.o
theorem CC.alloc {w W : World} {s : Array Value} (h : CC w W s) (o : Obj) : CC w (W.alloc o) s := by
 have hb : Below W.heap.size W (W.alloc o) := (Below.refl _ _).alloc (Nat.le_refl _) _
 exact ⟨h.b.alloc h.b.size _, below_row hb (row_lt h.s) h.s, below_row hb (row_lt h.o) h.o⟩
theorem CC.grown {w W W' : World} {s : Array Value} {g : Nat} (h : CC w W s) (hg : W.grownBy W' (some g)) (h2 : w.heap.size + 2 <= g) : CC w W' s :=
 ⟨h.b.grown hg h.b.size (fun k e => by injection e with e; omega), grown_row hg h.s (fun e => by injection e with e; omega), grown_row hg h.o (fun e => by injection e with e; omega)⟩
theorem CC.put {w W : World} {s : Array Value} (h : CC w W s) (i : Nat) (v : Value) : CC w (W.setCell ⟨w.heap.size, i, none⟩ v) (s.setIfInBounds i v) :=
 ⟨h.b.setCell (Nat.le_refl _) _, heap_setCell_same _ _ _ _ _ _ h.s, by rw [heap_setCell_other _ _ _ _ (by simp)]; exact h.o⟩
theorem infoOr6 : (Tryz.prog.info? 146).map (fun i => (i.zero, i.size, i.bytes)) = some (some (.agg #[Value.int .i64 0, Value.int .i64 0, Value.int .i64 0, Value.int .i64 0, Value.int .i64 0, Value.int .i64 0]), 6, 48) := by kernel_rfl
theorem infoVe5 : (Tryz.prog.info? 137).map (fun i => (i.zero, i.size, i.bytes)) = some (some (.agg #[Value.int .i64 0, Value.int .i64 0, Value.int .i64 0, Value.int .i64 0, Value.int .i64 0]), 5, 40) := by kernel_rfl
theorem infoIn1 : (Tryz.prog.info? 2).map (fun i => (i.zero, i.size, i.bytes)) = some (some (Value.int .i64 0), 1, 8) := by kernel_rfl
set_option maxHeartbeats 4000000 in
theorem specCopyCase_any (s : SN) (w : World) (ho : SNOk 1048576 s) (hA : SNAt w s) :
 Calls Tryz.prog 133 #[.agg #[.int .i64 s.c.n, .slice s.za s.c.zs.length s.zc, .slice s.oa s.c.ko s.oc, .slice s.va s.c.kv s.vc, .int .i64 s.c.f]] w fun e w' => ∃ s' : SN, e = .returned (.agg #[.int .i64 s'.c.n, .slice s'.za s'.c.zs.length s'.zc, .slice s'.oa s'.c.ko s'.oc, .slice s'.va s'.c.kv s'.vc, .int .i64 s'.c.f]) /\ s'.plain = s.plain /\ Below w.heap.size w w' /\ SNO w' (w.heap.size + 2) s' := by
 obtain ⟨id, ⟨cn, cf, zs, os, vs, ko, kv⟩, za, oa, va, zc, oc, vc⟩ := s
 have hoz := ho.zm
 have hoo := ho.om
 have hov := ho.vm
 have HO := hdn ho.o
 have HV := hdn ho.v
 have HA := hdn hA
 clear hA ho
 simp only at hoz hoo hov HO HV ⊢
 obtain ⟨nz, HNZ⟩ := nmd zs.length
 rw [HNZ.out] at hoz ⊢
 have T0 := hdn (CC.new w #[.int .i64 cn, .slice za nz zc, .slice oa ko oc, .slice va kv vc, .int .i64 cf])
 have O0 : Hid ((((w.alloc (.cells #[.int .i64 cn, .slice za nz zc, .slice oa ko oc, .slice va kv vc, .int .i64 cf] 78)).alloc (.cells #[.int .i64 0, .slice none 0 0, .slice none 0 0, .slice none 0 0, .int .i64 0] 78)).alloc (.cells #[] 2)).ownsRow (w.heap.size + 2) 2 1 (.slice (some ⟨w.heap.size + 2, 0, none⟩) 0 0) 0 ([] : List Value)) := by
  have h := own_nil0 ((w.alloc (.cells #[.int .i64 cn, .slice za nz zc, .slice oa ko oc, .slice va kv vc, .int .i64 cf] 78)).alloc (.cells #[.int .i64 0, .slice none 0 0, .slice none 0 0, .slice none 0 0, .int .i64 0] 78)) 2 1 (w.heap.size + 2) T0.out.size
  rw [show (((w.alloc (.cells #[.int .i64 cn, .slice za nz zc, .slice oa ko oc, .slice va kv vc, .int .i64 cf] 78)).alloc (.cells #[.int .i64 0, .slice none 0 0, .slice none 0 0, .slice none 0 0, .int .i64 0] 78))).heap.size = w.heap.size + 2 from by simp] at h
  exact hdn h
 have T1 := hdn (T0.out.alloc (.cells #[] 2))
 clear T0
 have HC0 := hdn (ints_cellsO (HA.out.z.below T1.out.b))
 have b0 : w.heap.size + 2 <= (((w.alloc (.cells #[.int .i64 cn, .slice za nz zc, .slice oa ko oc, .slice va kv vc, .int .i64 cf] 78)).alloc (.cells #[.int .i64 0, .slice none 0 0, .slice none 0 0, .slice none 0 0, .int .i64 0] 78)).alloc (.cells #[] 2)).heap.size := by simp
 have HB0 := hdn b0
 clear b0
 go_enter Tryz.func133, Tryz.ntmps133
 go_wp2_with (
  at_builtin
  first
  | (refine append_opt Tryz.underlying44 infoIn1 rfl (by decide) _ rfl _ _ rfl (w.heap.size + 2) _ 0 [] rfl O0.out za nz zc (zs.map (Value.int .i64)) rfl (by rw [List.length_map, HNZ.out, Nat.mul_one]) HC0.out (by simp [Value.oneCell']) (by omega) (by omega) HB0.out ?_
     intro v1 w1 hown hg hbk hnl
     rw [List.nil_append, Nat.zero_add] at hown
     obtain ⟨a1, k1, rfl⟩ := own_anyV hown
     have T2 := hdn (T1.out.grown (show World.grownBy _ w1 (some (w.heap.size + 2)) from hg) (Nat.le_refl _))
     have Z2 := hdn hown
     clear hown hg hbk hnl O0 T1 HC0 HB0
     obtain ⟨c0, c1, c2, c3, c4⟩ := cells5 T2.out.s
     have f0 := fun i => frozen_of_row _ _ i _ _ T2.out.s
     have O3 : Hid (((w1.setCell ⟨w.heap.size, 1, none⟩ (.slice a1 nz k1)).alloc (.cells #[] 146)).ownsRow (w.heap.size + 2) 146 6 (.slice (some ⟨w1.heap.size, 0, none⟩) 0 0) 0 ([] : List Value)) := by
      have h := own_nil0 (w1.setCell ⟨w.heap.size, 1, none⟩ (.slice a1 nz k1)) 146 6 (w.heap.size + 2) (by simpa using T2.out.size)
      rw [show (w1.setCell ⟨w.heap.size, 1, none⟩ (.slice a1 nz k1)).heap.size = w1.heap.size from by simp] at h
      exact hdn h
     have T3 : Hid (CC w ((w1.setCell ⟨w.heap.size, 1, none⟩ (.slice a1 nz k1)).alloc (.cells #[] 146)) #[.int .i64 cn, .slice a1 nz k1, .slice oa ko oc, .slice va kv vc, .int .i64 cf]) := hdn ((T2.out.put 1 (.slice a1 nz k1)).alloc (.cells #[] 146))
     have Z3 := hdn (owns_below (owns_set (i := 1) (u := .slice a1 nz k1) Z2.out (show w.heap.size < w.heap.size + 2 by omega)) ((Below.refl _ (w1.setCell ⟨w.heap.size, 1, none⟩ (.slice a1 nz k1))).alloc (Nat.le_refl _) (.cells #[] 146)))
     have HC3 := hdn (ints_cellsO (HA.out.o.below T3.out.b))
     have HB3 := hdn (show w.heap.size + 2 <= ((w1.setCell ⟨w.heap.size, 1, none⟩ (.slice a1 nz k1)).alloc (.cells #[] 146)).heap.size by have := T2.out.size; simp; omega)
     have HS3 := hdn T2.out.size
     have HL3 := hdn (show ∀ k, (Value.slice a1 nz k1).ownBlock = some k -> k < w1.heap.size from fun k hk => (Z2.out.lt k hk).2)
     obtain ⟨d0, d1, d2, d3, d4⟩ := cells5 T3.out.s
     clear T2 Z2)
  | (clear c0 c1 c2 c3 c4 d0 d1 d2 d3 d4 f0
     refine append_opt Tryz.underlying75 infoOr6 rfl (by decide) _ rfl _ _ rfl (w.heap.size + 2) _ 0 [] rfl O3.out oa ko oc (os.map (Value.int .i64)) rfl (by rw [List.length_map, HO.out]) HC3.out (by simp [Value.oneCell']) (by omega) (by omega) HB3.out ?_
     intro v2 w2 hown hg hbk hnl
     rw [List.nil_append, Nat.zero_add] at hown
     obtain ⟨a2, k2, rfl⟩ := own_anyV hown
     have T4 := hdn (T3.out.grown (show World.grownBy _ w2 (some _) from hg) HS3.out)
     have Y4 := hdn hown
     have Z4 := hdn (own_grown Z3.out (show World.grownBy _ w2 (some _) from hg) (fun e => Nat.lt_irrefl _ (HL3.out _ e)))
     clear hown hg hbk hnl O3 T3 HC3 HB3 HS3 HL3 Z3
     obtain ⟨c0, c1, c2, c3, c4⟩ := cells5 T4.out.s
     have f0 := fun i => frozen_of_row _ _ i _ _ T4.out.s
     have O5 : Hid (((w2.setCell ⟨w.heap.size, 2, none⟩ (.slice a2 ko k2)).alloc (.cells #[] 137)).ownsRow (w.heap.size + 2) 137 5 (.slice (some ⟨w2.heap.size, 0, none⟩) 0 0) 0 ([] : List Value)) := by
      have h := own_nil0 (w2.setCell ⟨w.heap.size, 2, none⟩ (.slice a2 ko k2)) 137 5 (w.heap.size + 2) (by simpa using T4.out.size)
      rw [show (w2.setCell ⟨w.heap.size, 2, none⟩ (.slice a2 ko k2)).heap.size = w2.heap.size from by simp] at h
      exact hdn h
     have T5 : Hid (CC w ((w2.setCell ⟨w.heap.size, 2, none⟩ (.slice a2 ko k2)).alloc (.cells #[] 137)) #[.int .i64 cn, .slice a1 nz k1, .slice a2 ko k2, .slice va kv vc, .int .i64 cf]) := hdn ((T4.out.put 2 (.slice a2 ko k2)).alloc (.cells #[] 137))
     have bb := (Below.refl _ (w2.setCell ⟨w.heap.size, 2, none⟩ (.slice a2 ko k2))).alloc (Nat.le_refl _) (.cells #[] 137)
     have Z5 := hdn (owns_below (owns_set (i := 2) (u := .slice a2 ko k2) Z4.out (show w.heap.size < w.heap.size + 2 by omega)) bb)
     have Y5 := hdn (owns_below (owns_set (i := 2) (u := .slice a2 ko k2) Y4.out (show w.heap.size < w.heap.size + 2 by omega)) bb)
     clear bb
     have HC5 := hdn (ints_cellsO (HA.out.v.below T5.out.b))
     have HB5 := hdn (show w.heap.size + 2 <= ((w2.setCell ⟨w.heap.size, 2, none⟩ (.slice a2 ko k2)).alloc (.cells #[] 137)).heap.size by have := T4.out.size; simp; omega)
     have HS5 := hdn T4.out.size
     have HL5 := hdn (show ∀ k, (Value.slice a1 nz k1).ownBlock = some k -> k < w2.heap.size from fun k hk => (Z4.out.lt k hk).2)
     have HM5 := hdn (show ∀ k, (Value.slice a2 ko k2).ownBlock = some k -> k < w2.heap.size from fun k hk => (Y4.out.lt k hk).2)
     obtain ⟨d0, d1, d2, d3, d4⟩ := cells5 T5.out.s
     clear T4 Z4 Y4)
  | (clear c0 c1 c2 c3 c4 d0 d1 d2 d3 d4 f0
     refine append_opt Tryz.underlying76 infoVe5 rfl (by decide) _ rfl _ _ rfl (w.heap.size + 2) _ 0 [] rfl O5.out va kv vc (vs.map (Value.int .i64)) rfl (by rw [List.length_map, HV.out]) HC5.out (by simp [Value.oneCell']) (by omega) (by omega) HB5.out ?_
     intro v3 w3 hown hg hbk hnl
     rw [List.nil_append, Nat.zero_add] at hown
     obtain ⟨a3, k3, rfl⟩ := own_anyV hown
     have T6 := hdn (T5.out.grown (show World.grownBy _ w3 (some _) from hg) HS5.out)
     have X6 := hdn hown
     have Z6 := hdn (own_grown Z5.out (show World.grownBy _ w3 (some _) from hg) (fun e => Nat.lt_irrefl _ (HL5.out _ e)))
     have Y6 := hdn (own_grown Y5.out (show World.grownBy _ w3 (some _) from hg) (fun e => Nat.lt_irrefl _ (HM5.out _ e)))
     clear hown hg hbk hnl O5 T5 HC5 HB5 HS5 HL5 HM5 Z5 Y5
     obtain ⟨c0, c1, c2, c3, c4⟩ := cells5 T6.out.s
     have f0 := fun i => frozen_of_row _ _ i _ _ T6.out.s
     obtain ⟨o0, o1, o2, o3, o4⟩ := cells5 T6.out.o
     have f1 := fun i => frozen_of_row _ _ i _ _ T6.out.o
     ))
 refine bodyPost_ret (v := .agg #[.int .i64 cn, .slice a1 nz k1, .slice a2 ko k2, .slice a3 kv k3, .int .i64 cf]) (by simp [results, Tryz.results133, go_sem, o0, o1, o2, o3, o4]) rfl ⟨⟨id, ⟨cn, cf, zs, os, vs, ko, kv⟩, a1, a2, a3, k1, k2, k3⟩, by simp only [HNZ.out], rfl, ?_, ?_⟩
 · repeat (first | with_reducible exact T6.out.b | refine Below.setCell ?_ (by simp <;> omega) _)
 · have h : SNO w3 (w.heap.size + 2) ⟨id, ⟨cn, cf, zs, os, vs, ko, kv⟩, a1, a2, a3, k1, k2, k3⟩ := ⟨by simp only [HNZ.out]; exact Z6.out, Y6.out, X6.out⟩
   repeat (first | with_reducible exact h | refine SNO.set ?_ (by omega))
theorem own_gro {w w' : World} {base size n : Nat} {e : TypeId} {v : Value} {xs : List Value} {row : Option Nat} (h : w.ownsRow base e size v n xs) (hg : w.grownBy w' row) (hne : ∀ k, v.ownBlock = some k -> row ≠ some k) : w'.ownsRow base e size v n xs := by
 obtain ⟨h1, h2 | ⟨g, cap, cur, h2, h3, h4, h5⟩⟩ := h
 · exact ⟨h1, .inl h2⟩
 · refine ⟨h1, .inr ⟨g, cap, cur, h2, h3, grown_row hg h4 (fun e => hne g (by rw [h2]; rfl) e.symm), h5⟩⟩
theorem own_neK {w : World} {b1 b2 z1 z2 n1 n2 k : Nat} {e1 e2 : TypeId} {v1 v2 : Value} {x1 x2 : List Value} (h1 : w.ownsRow b1 e1 z1 v1 n1 x1) (h2 : w.ownsRow b2 e2 z2 v2 n2 x2) (he : e1 ≠ e2) (hk : v1.ownBlock = some k) : v2.ownBlock ≠ some k := by
 obtain ⟨_, ⟨rfl, _⟩ | ⟨g, cap, cur, rfl, _, h4, _⟩⟩ := h1
 · cases hk
 · have : g = k := by simpa [Value.ownBlock] using hk
   subst this
   exact own_typ h2 h4 he
def bkS (s : SN) (b : Nat) : Prop := caseBl (.slice s.za s.c.zs.length s.zc) (.slice s.oa s.c.ko s.oc) (.slice s.va s.c.kv s.vc) b
def bkV (v : VN) (b : Nat) : Prop := (Value.slice v.ra v.R.length v.rc).ownBlock = some b ∨ (Value.slice v.la v.L.length v.lc).ownBlock = some b ∨ ∃ r ∈ v.R, (Value.slice r.a r.ids.length r.c).ownBlock = some b
theorem SNO.tops {w : World} {base : Nat} {s : SN} (h : SNO w base s) {b : Nat} (hb : bkS s b) : base <= b /\ b < w.heap.size := by
 rcases hb with e | e | e
 · exact h.z.lt b e
 · exact h.o.lt b e
 · exact h.v.lt b e
theorem SNO.gro {w w' : World} {base bx zx nx : Nat} {s : SN} {row : Value} {T : TypeId} {xs : List Value} (h : SNO w base s) (hr : w.ownsRow bx T zx row nx xs) (hg : w.grownBy w' row.ownBlock) (h1 : 2 ≠ T) (h2 : 146 ≠ T) (h3 : 137 ≠ T) : SNO w' base s :=
 ⟨own_gro h.z hg (fun _ hk => own_neK h.z hr h1 hk), own_gro h.o hg (fun _ hk => own_neK h.o hr h2 hk), own_gro h.v hg (fun _ hk => own_neK h.v hr h3 hk)⟩
structure VNO (w : World) (base : Nat) (v : VN) : Prop where
 p : PO w base (.slice v.ra v.R.length v.rc) v.R (.slice v.la v.L.length v.lc) v.L
theorem VNO.below {w w' : World} {base : Nat} {v : VN} (h : VNO w base v) (hb : Below w.heap.size w w') : VNO w' base v := ⟨h.p.below hb⟩
theorem VNO.base {w : World} {base b0 : Nat} {v : VN} (h : VNO w base v) (hb : b0 <= base) : VNO w b0 v := ⟨h.p.base hb⟩
theorem VNO.set {w : World} {base b i : Nat} {u : Value} {v : VN} (h : VNO w base v) (hb : b < base) : VNO (w.setCell ⟨b, i, none⟩ u) base v := ⟨h.p.set hb⟩
theorem VNO.tops {w : World} {base : Nat} {v : VN} (h : VNO w base v) {b : Nat} (hb : bkV v b) : base <= b /\ b < w.heap.size := by
 rcases hb with e | e | ⟨r, hr, e⟩
 · exact h.p.r.lt b e
 · exact h.p.l.lt b e
 · exact (h.p.s r hr).lt b e
theorem VNO.gro {w w' : World} {base bx zx nx : Nat} {v : VN} {row : Value} {T : TypeId} {xs : List Value} (h : VNO w base v) (hr : w.ownsRow bx T zx row nx xs) (hg : w.grownBy w' row.ownBlock) (h1 : 2 ≠ T) (h2 : 134 ≠ T) : VNO w' base v :=
 ⟨⟨own_gro h.p.r hg (fun _ hk => own_neK h.p.r hr h2 hk), fun s hs => own_gro (h.p.s s hs) hg (fun _ hk => own_neK (h.p.s s hs) hr h1 hk), own_gro h.p.l hg (fun _ hk => own_neK h.p.l hr h1 hk)⟩⟩
structure SO (w : World) (base : Nat) (sl : Value) (S : List SN) : Prop where
 r : w.ownsRow base 86 6 sl S.length (rowX snCells S)
 s : ∀ s ∈ S, SNO w base s
 p : S.Pairwise (fun s t => ∀ b c, bkS s b -> bkS t c -> b < c)
structure VO (w : World) (base : Nat) (sl : Value) (V : List VN) : Prop where
 r : w.ownsRow base 70 4 sl V.length (rowX vnCells V)
 s : ∀ v ∈ V, VNO w base v
 p : V.Pairwise (fun s t => ∀ b c, bkV s b -> bkV t c -> b < c)
theorem SO.nil (w : World) (base : Nat) : SO w base (.slice none 0 0) [] := ⟨World.ownsRow_nil _ _ _ _, fun _ h => by simp at h, .nil⟩
theorem VO.nil (w : World) (base : Nat) : VO w base (.slice none 0 0) [] := ⟨World.ownsRow_nil _ _ _ _, fun _ h => by simp at h, .nil⟩
theorem SO.below {w w' : World} {base : Nat} {sl : Value} {S : List SN} (h : SO w base sl S) (hb : Below w.heap.size w w') : SO w' base sl S := ⟨owns_below h.r hb, fun s hs => (h.s s hs).below hb, h.p⟩
theorem VO.below {w w' : World} {base : Nat} {sl : Value} {V : List VN} (h : VO w base sl V) (hb : Below w.heap.size w w') : VO w' base sl V := ⟨owns_below h.r hb, fun s hs => (h.s s hs).below hb, h.p⟩
theorem SO.base {w : World} {base b0 : Nat} {sl : Value} {S : List SN} (h : SO w base sl S) (hb : b0 <= base) : SO w b0 sl S := ⟨owns_base h.r hb, fun s hs => (h.s s hs).base hb, h.p⟩
theorem VO.base {w : World} {base b0 : Nat} {sl : Value} {V : List VN} (h : VO w base sl V) (hb : b0 <= base) : VO w b0 sl V := ⟨owns_base h.r hb, fun s hs => (h.s s hs).base hb, h.p⟩
theorem SO.set {w : World} {base b i : Nat} {u sl : Value} {S : List SN} (h : SO w base sl S) (hb : b < base) : SO (w.setCell ⟨b, i, none⟩ u) base sl S := ⟨owns_set h.r hb, fun s hs => (h.s s hs).set hb, h.p⟩
theorem VO.set {w : World} {base b i : Nat} {u sl : Value} {V : List VN} (h : VO w base sl V) (hb : b < base) : VO (w.setCell ⟨b, i, none⟩ u) base sl V := ⟨owns_set h.r hb, fun s hs => (h.s s hs).set hb, h.p⟩
theorem SO.add {W W1 W2 : World} {base lo : Nat} {sl sl' : Value} {S : List SN} {s : SN} (h : SO W base sl S) (hb : Below W.heap.size W W1) (hs : SNO W1 lo s) (hlo : W.heap.size <= lo) (hbs : base <= W.heap.size) (ho : W2.ownsRow base 86 6 sl' (S.length + 1) (rowX snCells S ++ snCells s)) (hg : W1.grownBy W2 sl.ownBlock) : SO W2 base sl' (S ++ [s]) := by
 have h1 := h.below hb
 have h2 : SNO W1 base s := hs.base (by omega)
 refine ⟨by rw [List.length_append, rowX_app, rowX_cons]; simpa [rowX] using ho, fun t ht => ?_, List.pairwise_append.2 ⟨h.p, List.pairwise_singleton _ _, fun t ht u hu b c hbt hcu => ?_⟩⟩
 · rcases List.mem_append.1 ht with ht | ht
   · exact (h1.s t ht).gro h1.r hg (by decide) (by decide) (by decide)
   · obtain rfl : t = s := by simpa using ht
     exact h2.gro h1.r hg (by decide) (by decide) (by decide)
 · obtain rfl : u = s := by simpa using hu
   have h3 := (h.s t ht).tops hbt
   have h4 := hs.tops hcu
   omega
theorem VO.add {W W1 W2 : World} {base lo : Nat} {sl sl' : Value} {S : List VN} {s : VN} (h : VO W base sl S) (hb : Below W.heap.size W W1) (hs : VNO W1 lo s) (hlo : W.heap.size <= lo) (hbs : base <= W.heap.size) (ho : W2.ownsRow base 70 4 sl' (S.length + 1) (rowX vnCells S ++ vnCells s)) (hg : W1.grownBy W2 sl.ownBlock) : VO W2 base sl' (S ++ [s]) := by
 have h1 := h.below hb
 have h2 : VNO W1 base s := hs.base (by omega)
 refine ⟨by rw [List.length_append, rowX_app, rowX_cons]; simpa [rowX] using ho, fun t ht => ?_, List.pairwise_append.2 ⟨h.p, List.pairwise_singleton _ _, fun t ht u hu b c hbt hcu => ?_⟩⟩
 · rcases List.mem_append.1 ht with ht | ht
   · exact (h1.s t ht).gro h1.r hg (by decide) (by decide)
   · obtain rfl : t = s := by simpa using ht
     exact h2.gro h1.r hg (by decide) (by decide)
 · obtain rfl : u = s := by simpa using hu
   have h3 := (h.s t ht).tops hbt
   have h4 := hs.tops hcu
   omega
theorem SO.gro {w w' : World} {base bx zx nx : Nat} {sl row : Value} {S : List SN} {xs : List Value} (h : SO w base sl S) (hr : w.ownsRow bx 70 zx row nx xs) (hg : w.grownBy w' row.ownBlock) : SO w' base sl S :=
 ⟨own_gro h.r hg (fun _ hk => own_neK h.r hr (by decide) hk), fun s hs => (h.s s hs).gro hr hg (by decide) (by decide) (by decide), h.p⟩
structure TNO (w : World) (base : Nat) (t : TN) : Prop where
 s : SO w base (.slice t.sa t.S.length t.sc) t.S
 v : ∃ lo, base <= lo /\ VO w base (.slice t.va t.V.length t.vc) t.V /\ (∀ v ∈ t.V, ∀ b, bkV v b -> lo <= b) /\ ∀ s ∈ t.S, ∀ b, bkS s b -> b < lo
theorem TNO.below {w w' : World} {base : Nat} {t : TN} (h : TNO w base t) (hb : Below w.heap.size w w') : TNO w' base t := by
 obtain ⟨lo, h1, h2, h3⟩ := h.v
 exact ⟨h.s.below hb, lo, h1, h2.below hb, h3⟩
theorem TNO.base {w : World} {base b0 : Nat} {t : TN} (h : TNO w base t) (hb : b0 <= base) : TNO w b0 t := by
 obtain ⟨lo, h1, h2, h3⟩ := h.v
 exact ⟨h.s.base hb, lo, by omega, h2.base hb, h3⟩
theorem TNO.set {w : World} {base b i : Nat} {u : Value} {t : TN} (h : TNO w base t) (hb : b < base) : TNO (w.setCell ⟨b, i, none⟩ u) base t := by
 obtain ⟨lo, h1, h2, h3⟩ := h.v
 exact ⟨h.s.set hb, lo, h1, h2.set hb, h3⟩
end Go.Proofs.YtehfjfmfpdgibaaGreatDoor
