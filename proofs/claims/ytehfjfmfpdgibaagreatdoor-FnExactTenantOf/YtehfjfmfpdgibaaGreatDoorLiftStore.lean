import Derived.Test.YtehfjfmfpdgibaaGreatDoorPack4
import Derived.Test.YtehfjfmfpdgibaaGreatDoorLiftPlan
namespace Go.Proofs.YtehfjfmfpdgibaaGreatDoor
open Go.ChangeShapes Go.WideShapes Go.ChangeAt Go.RowKit Go.Joins Go.Deep
theorem txt_ofS (s : ByteArray) : s = txt s.data.toList := by unfold txt; cases s; simp
theorem Tryz.cellsSnapshot : Tryz.prog.cellsOf 208 = 6 := by kernel_rfl
theorem Tryz.cellsVersion : Tryz.prog.cellsOf 214 = 4 := by kernel_rfl
theorem Tryz.cellsTenant : Tryz.prog.cellsOf 117 = 5 := by kernel_rfl
theorem Tryz.cellsStore : Tryz.prog.cellsOf 24 = 1 := by kernel_rfl
theorem Tryz.cellsSnaps : Tryz.prog.cellsOf 114 = 1 := by kernel_rfl
theorem Tryz.cellsVers : Tryz.prog.cellsOf 115 = 1 := by kernel_rfl
theorem Tryz.cellsTens : Tryz.prog.cellsOf 22 = 1 := by kernel_rfl
theorem Tryz.cellsStr9 : Tryz.prog.cellsOf 9 = 1 := by kernel_rfl
section
variable {H : Type} {enc : TypeId × Value -> H} {W : World}
theorem trod_struct5 {P : Program} {base : Nat} {spare : Nat -> Bool} {held : Bool} {t : TypeId} {f0 f1 f2 f3 f4 : Field} {fuel : Nat} {cs : List Value} {x : DataW H × List MemPlace} (ht : P.underlying t = some (.struct #[f0, f1, f2, f3, f4])) (h : DataW.trod enc P W base spare held fuel t cs = some x) :
 ∃ y0 y1 y2 y3 y4 n, cs.length = P.cellsOf t /\ DataW.trod enc P W base spare held n f0.type ((cs.drop f0.offset).take (P.cellsOf f0.type)) = some y0 ∧
   DataW.trod enc P W base spare held n f1.type ((cs.drop f1.offset).take (P.cellsOf f1.type)) = some y1 /\ DataW.trod enc P W base spare held n f2.type ((cs.drop f2.offset).take (P.cellsOf f2.type)) = some y2 ∧
   DataW.trod enc P W base spare held n f3.type ((cs.drop f3.offset).take (P.cellsOf f3.type)) = some y3 /\ DataW.trod enc P W base spare held n f4.type ((cs.drop f4.offset).take (P.cellsOf f4.type)) = some y4 := by
 obtain ⟨xs, n, _, rfl, hl, hlen, hf⟩ := DataW.trod_struct ht h
 match xs, hlen with
 | [y0, y1, y2, y3, y4], _ => exact ⟨y0, y1, y2, y3, y4, n, hl, by simpa using hf 0 f0 rfl, by simpa using hf 1 f1 rfl, by simpa using hf 2 f2 rfl, by simpa using hf 3 f3 rfl, by simpa using hf 4 f4 rfl⟩
theorem trod_struct1 {P : Program} {base : Nat} {spare : Nat -> Bool} {held : Bool} {t : TypeId} {f0 : Field} {fuel : Nat} {cs : List Value} {x : DataW H × List MemPlace} (ht : P.underlying t = some (.struct #[f0])) (h : DataW.trod enc P W base spare held fuel t cs = some x) :
 ∃ y0 n, DataW.trod enc P W base spare held n f0.type ((cs.drop f0.offset).take (P.cellsOf f0.type)) = some y0 := by
 obtain ⟨xs, n, _, rfl, hl, hlen, hf⟩ := DataW.trod_struct ht h
 match xs, hlen with
 | [y0], _ => exact ⟨y0, n, by simpa using hf 0 f0 rfl⟩
theorem rows_open {α : Type} {k : Nat} {cells : α -> List Value} {T Ts : TypeId} (Q : α -> Prop) (hT : Tryz.prog.underlying Ts = some (.slice T)) (hc : Tryz.prog.cellsOf T = k) (hk0 : 0 < k) (hk : ∀ x, (cells x).length = k)
 (el : ∀ n cs y, DataW.trod enc Tryz.prog W 0 (fun _ => true) true n T cs = some y -> ∃ x : α, cs = cells x /\ Q x) {fuel : Nat} {cs : List Value} {y : DataW H × List MemPlace} (h : DataW.trod enc Tryz.prog W 0 (fun _ => true) true fuel Ts cs = some y) :
 ∃ a c l, cs = [.slice a (List.length l) c] /\ List.length l <= 9223372036854775807 /\ RowAt k cells W a l /\ ∀ x ∈ l, Q x := by
 rcases open_slice hT h with ⟨hcs, _⟩ | ⟨x, len, cap, m, n, D, Pl, hcs, _, hl, hm, hmm, _, hel⟩
 · exact ⟨none, 0, [], hcs, by simp, fun j hj => by simp at hj, fun x hx => by cases hx⟩
 · simp [maxLen] at hm
   have hmc : m = cap := by simpa using hmm
   have hone : ∀ i, i < len -> ∃ r : α, (∀ j, j < k -> W.cell? ((x.add (i * k)).add j) = (cells r)[j]?) /\ Q r := by
    intro i hi
    obtain ⟨cs', hc', htr⟩ := hel i (by omega)
    rw [hc] at hc'
    obtain ⟨_, _, hcc⟩ := World.cells?_some hc'
    obtain ⟨r, e, hq⟩ := el _ _ _ htr
    subst e
    exact ⟨r, fun j hj => by rw [hcc j hj], hq⟩
   by_cases hlen : len = 0
   · subst hlen
     exact ⟨some x, cap, [], hcs, by simp, fun j hj => by simp at hj, fun x hx => by cases hx⟩
   · obtain ⟨b, off, spot⟩ := x
     have hspot : spot = none := by
      obtain ⟨r, hv, _⟩ := hone 0 (by omega)
      have h0 := hv 0 hk0
      have hr := List.getElem?_eq_getElem (show 0 < (cells r).length by rw [hk]; exact hk0)
      rw [hr] at h0
      simpa [Addr.add] using World.cell?_spot h0
     subst hspot
     have hch : ∃ f : Nat -> α, ∀ i, i < len -> (∀ j, j < k -> W.cell? ((Addr.add ⟨b, off, none⟩ (i * k)).add j) = (cells (f i))[j]?) /\ Q (f i) := by
      obtain ⟨r0, _⟩ := hone 0 (by omega)
      refine ⟨fun i => if hi : i < len then Classical.choose (hone i hi) else r0, fun i hi => ?_⟩
      simp only [dif_pos hi]
      exact Classical.choose_spec (hone i hi)
     obtain ⟨f, hf⟩ := hch
     have hR : ((List.range len).map f).length = len := by simp
     refine ⟨some ⟨b, off, none⟩, cap, (List.range len).map f, by rw [hR]; exact hcs, by rw [hR]; omega, fun j hj => ?_, fun x hx => ?_⟩
     · rw [hR] at hj
       have e : ((List.range len).map f)[j]'(by rw [hR]; exact hj) = f j := by simp
       refine ⟨b, off, rfl, fun i v hv => ?_⟩
       rw [e] at hv
       have hi : i < k := by rw [<- hk (f j)]; exact (List.getElem?_eq_some_iff.1 hv).1
       have := (hf j hj).1 i hi
       rw [add_plain, add_plain, hv] at this
       exact this
     · obtain ⟨i, hi, rfl⟩ := List.mem_map.1 hx
       exact (hf i (by simpa using hi)).2
set_option maxRecDepth 100000 in
theorem case_openT {n : Nat} {cs : List Value} {y : DataW H × List MemPlace} (h : DataW.trod enc Tryz.prog W 0 (fun _ => true) true n 206 cs = some y) :
 ∃ (c : CV) (a ao av : Option Addr) (cap co cv : Nat), cs = [.int .i64 c.n, .slice a c.zs.length cap, .slice ao c.ko co, .slice av c.kv cv, .int .i64 c.f] /\ c.os.length = c.ko * 6 /\ c.vs.length = c.kv * 5 ∧
   c.zs.length <= 9223372036854775807 /\ c.ko <= 9223372036854775807 /\ c.kv <= 9223372036854775807 /\ IntsAt W a c.zs /\ IntsAt W ao c.os /\ IntsAt W av c.vs := by
 obtain ⟨y0, y1, y2, y3, m, _, hlen, h0, h1, h2, h3⟩ := trod_struct4 Tryz.underlying206 h
 rw [Tryz.cellsCase] at hlen
 match cs, hlen with
 | [c0, c1, c2, c3, c4], _ =>
   simp only [Tryz.cellsMat, Tryz.cellsOrds, Tryz.cellsVehs, Tryz.cellsInt, List.drop_zero, List.drop_succ_cons, List.take_succ_cons, List.take_zero] at h0 h1 h2 h3
   obtain ⟨z0, z1, m', _, _, k0, k1⟩ := trod_struct2 Tryz.underlying202 h0
   simp only [Tryz.cellsInt, Tryz.cellsInts, List.drop_zero, List.drop_succ_cons, List.take_succ_cons, List.take_zero] at k0 k1
   obtain ⟨n, e0, _, _⟩ := DataW.trod_int Tryz.underlying2 k0
   obtain ⟨a, lt, cap, zs, e1, rfl, hlt, hA⟩ := ints_open k1
   obtain ⟨ao, ko, co, os, e2, hlo, hko, hO⟩ := recs_open Tryz.underlying203 Tryz.underlying286 Tryz.cellsOrd (by omega) (by kernel_rfl) h1
   obtain ⟨av, kv, cv, vs, e3, hlv, hkv, hV⟩ := recs_open Tryz.underlying204 Tryz.underlying288 Tryz.cellsVeh (by omega) (by kernel_rfl) h2
   obtain ⟨fine, e4, _, _⟩ := DataW.trod_int Tryz.underlying2 h3
   simp at e0 e1 e2 e3 e4
   subst e0 e1 e2 e3 e4
   exact ⟨⟨n, fine, zs, os, vs, ko, kv⟩, a, ao, av, cap, co, cv, rfl, hlo, hlv, hlt, hko, hkv, hA, hO, hV⟩
set_option maxRecDepth 100000 in
theorem sn_open {n : Nat} {cs : List Value} {y : DataW H × List MemPlace} (h : DataW.trod enc Tryz.prog W 0 (fun _ => true) true n 208 cs = some y) :
 ∃ s : SN, cs = snCells s /\ SNAt W s /\ SNOk 9223372036854775807 s := by
 obtain ⟨y0, y1, m, _, hlen, h0, h1⟩ := trod_struct2 Tryz.underlying208 h
 rw [Tryz.cellsSnapshot] at hlen
 match cs, hlen with
 | [c0, c1, c2, c3, c4, c5], _ =>
   simp only [Tryz.cellsCase, Tryz.cellsInt, List.drop_zero, List.drop_succ_cons, List.take_succ_cons, List.take_zero] at h0 h1
   obtain ⟨id, e0, _, _⟩ := DataW.trod_int Tryz.underlying2 h0
   obtain ⟨c, a, ao, av, cap, co, cv, e1, k1, k2, k3, k4, k5, i1, i2, i3⟩ := case_openT h1
   simp at e0 e1
   obtain ⟨e1, e2, e3, e4, e5⟩ := e1
   subst e0 e1 e2 e3 e4 e5
   exact ⟨⟨id, c, a, ao, av, cap, co, cv⟩, rfl, ⟨i1, i2, i3⟩, ⟨k1, k2, k3, k4, k5⟩⟩
set_option maxRecDepth 100000 in
theorem vn_open {n : Nat} {cs : List Value} {y : DataW H × List MemPlace} (h : DataW.trod enc Tryz.prog W 0 (fun _ => true) true n 214 cs = some y) :
 ∃ v : VN, cs = vnCells v /\ VNAt W v /\ VNOk 9223372036854775807 v := by
 obtain ⟨y0, y1, y2, m, _, hlen, h0, h1, h2⟩ := trod_struct3 Tryz.underlying214 h
 rw [Tryz.cellsVersion] at hlen
 match cs, hlen with
 | [c0, c1, c2, c3], _ =>
   simp only [Tryz.cellsPlan, Tryz.cellsInt, List.drop_zero, List.drop_succ_cons, List.take_succ_cons, List.take_zero] at h0 h1 h2
   obtain ⟨id, e0, _, _⟩ := DataW.trod_int Tryz.underlying2 h0
   obtain ⟨sn, e1, _, _⟩ := DataW.trod_int Tryz.underlying2 h1
   obtain ⟨z0, z1, m', _, _, k0, k1⟩ := trod_struct2 Tryz.underlying212 h2
   simp only [Tryz.cellsRoutes, Tryz.cellsInts, List.drop_zero, List.drop_succ_cons, List.take_succ_cons, List.take_zero] at k0 k1
   obtain ⟨ra, rc, R, e2, hRn, hRi, hR⟩ := routes_open k0
   obtain ⟨la, lt, lc, L, e3, rfl, hlt, hL, hw⟩ := ints_open_wf k1
   simp at e0 e1 e2 e3
   subst e0 e1 e2 e3
   exact ⟨⟨id, sn, R, L, ra, la, rc, lc⟩, rfl, ⟨hR, hL⟩, ⟨hRn, hRi, hlt, hw⟩⟩
set_option maxRecDepth 100000 in
theorem tn_open {n : Nat} {cs : List Value} {y : DataW H × List MemPlace} (h : DataW.trod enc Tryz.prog W 0 (fun _ => true) true n 117 cs = some y) :
 ∃ t : TN, cs = tnCells t /\ TNAt W t /\ TNOk 9223372036854775807 t := by
 obtain ⟨y0, y1, y2, y3, y4, m, hlen, h0, h1, h2, h3, h4⟩ := trod_struct5 Tryz.underlying117 h
 rw [Tryz.cellsTenant] at hlen
 match cs, hlen with
 | [c0, c1, c2, c3, c4], _ =>
   simp only [Tryz.cellsStr9, Tryz.cellsInt, Tryz.cellsSnaps, Tryz.cellsVers, List.drop_zero, List.drop_succ_cons, List.take_succ_cons, List.take_zero] at h0 h1 h2 h3 h4
   obtain ⟨s, e0, _, hs⟩ := DataW.trod_string Tryz.underlying9 h0
   obtain ⟨nx, e1, _, _⟩ := DataW.trod_int Tryz.underlying2 h1
   obtain ⟨sa, sc, S, e2, hSn, hS, hSq⟩ := rows_open (fun s => SNAt W s /\ SNOk 9223372036854775807 s) Tryz.underlying114 Tryz.cellsSnapshot (by omega) sn_len (fun _ _ _ h => sn_open h) h2
   obtain ⟨va, vc, V, e3, hVn, hV, hVq⟩ := rows_open (fun v => VNAt W v /\ VNOk 9223372036854775807 v) Tryz.underlying115 Tryz.cellsVersion (by omega) vn_len (fun _ _ _ h => vn_open h) h3
   obtain ⟨pub, e4, _, _⟩ := DataW.trod_int Tryz.underlying2 h4
   simp at e0 e1 e2 e3 e4
   subst e0 e1 e2 e3 e4
   refine ⟨⟨s.data.toList, nx, S, V, pub, sa, va, sc, vc⟩, ?_, ⟨⟨hS, fun x hx => (hSq x hx).1⟩, ⟨hV, fun x hx => (hVq x hx).1⟩⟩, ⟨?_, hSn, hVn, fun x hx => (hSq x hx).2, fun x hx => (hVq x hx).2⟩⟩
   · unfold tnCells
     simp only
     rw [<- txt_ofS]
   · unfold maxLen at hs
     simpa using hs
end
set_option maxRecDepth 100000 in
theorem store_open {H : Type} {enc : TypeId × Value -> H} {W : World} {r : Reach} {base : Nat} {v : Value} {d : DataW H} {p : List MemPlace}
 (hv : Value.okWide Tryz.prog W r base 24 v) (h : DataW.Trod enc Tryz.prog W 0 (fun _ => true) true 24 v d p) :
 ∃ a c T, v = .agg #[.slice a (List.length T) c] /\ List.length T <= 9223372036854775807 /\ TensAt W a T /\ ∀ t ∈ T, TNOk 9223372036854775807 t := by
 obtain ⟨cs, rfl, hsz⟩ := okWide_struct Tryz.underlying24 hv
 obtain ⟨l⟩ := cs
 match l, hsz.trans Tryz.cellsStore with
 | [c0], _ =>
   obtain ⟨fuel, hf⟩ := h
   obtain ⟨y0, n, h0⟩ := trod_struct1 Tryz.underlying24 hf
   simp only [Value.cells, Tryz.cellsTens, List.drop_zero, List.take_succ_cons, List.take_zero] at h0
   obtain ⟨a, c, T, e, hn, hr, hq⟩ := rows_open (fun t => TNAt W t /\ TNOk 9223372036854775807 t) Tryz.underlying22 Tryz.cellsTenant (by omega) tn_len (fun _ _ _ h => tn_open h) h0
   simp at e
   subst e
   exact ⟨a, c, T, rfl, hn, ⟨hr, fun x hx => (hq x hx).1⟩, fun x hx => (hq x hx).2⟩
end Go.Proofs.YtehfjfmfpdgibaaGreatDoor
