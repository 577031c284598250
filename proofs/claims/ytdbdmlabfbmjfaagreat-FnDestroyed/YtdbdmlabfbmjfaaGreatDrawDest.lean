import Derived.Test.YtdbdmlabfbmjfaaGreatPack1
import Derived.Test.YtdbdmlabfbmjfaaGreatPack2
import Derived.Test.YtdbdmlabfbmjfaaGreatPack4
import Derived.Test.YtdbdmlabfbmjfaaGreatDrawPlan
import Derived.Test.YtdbdmlabfbmjfaaGreatDrawCase
namespace Go.Proofs.YtdbdmlabfbmjfaaGreat
open Go.RowKit
def DestTold (w : World) (e : Ending) (w' : World) : Prop := ∃ (n : Int) (g zl cg go ko co gv kv cv : Nat) (zs O V : List Int) (fi : Int) (rs ls : Value) (R : List RT) (L : List Int) (sd kk : Int),
 e = .returned (.tuple #[.agg #[.int .i64 n, .slice (some ⟨g, 0, none⟩) zl cg, .slice (some ⟨go, 0, none⟩) ko co, .slice (some ⟨gv, 0, none⟩) kv cv, .int .i64 fi], .agg #[rs, ls], .int .i64 sd, .int .i64 kk]) /\ (zs.length = zl /\ O.length = ko * 6 /\ V.length = kv * 5 /\ 1 <= ko /\ ko <= 5 /\ 1 <= kv /\ kv <= 3) /\ (R.length <= 10 /\ (∀ r ∈ R, r.ids.length <= 9) /\ L.length <= 13 /\ (∀ x ∈ L, -9223372036854775808 <= x /\ x < 9223372036854775808)) ∧
 Below w.heap.size w w' /\ IntsAt w' (some ⟨g, 0, none⟩) zs /\ IntsAt w' (some ⟨go, 0, none⟩) O /\ IntsAt w' (some ⟨gv, 0, none⟩) V /\ PO w' w.heap.size rs R ls L
set_option maxRecDepth 10000 in
set_option maxHeartbeats 4000000 in
theorem drawDest_any (a : Option Addr) (c : Nat) (bs : List Int) (w : World) (h : CodeAt w a bs) (hl : bs.length <= 1048576) :
   Calls Tryz.prog 5 #[.slice a bs.length c] w (DestTold w) := by
 have H : Hid (CodeAt w a bs) := h
 clear h
 have BA : Hid (Below w.heap.size w ((w.alloc (.cells #[.int .i64 0, .slice none 0 0, .slice none 0 0, .slice none 0 0, .int .i64 0] 30)).alloc (.cells #[.slice none 0 0, .slice none 0 0] 33))) := ((Below.refl _ _).alloc (Nat.le_refl _) _).alloc (by simp) _
 have GA : Hid (((w.alloc (.cells #[.int .i64 0, .slice none 0 0, .slice none 0 0, .slice none 0 0, .int .i64 0] 30)).alloc (.cells #[.slice none 0 0, .slice none 0 0] 33)).heap[w.heap.size]? = some (.cells #[.int .i64 0, .slice none 0 0, .slice none 0 0, .slice none 0 0, .int .i64 0] 30 (0, 0))) := heap_alloc2_old _ _ _
 have GB : Hid (((w.alloc (.cells #[.int .i64 0, .slice none 0 0, .slice none 0 0, .slice none 0 0, .int .i64 0] 30)).alloc (.cells #[.slice none 0 0, .slice none 0 0] 33)).heap[w.heap.size + 1]? = some (.cells #[.slice none 0 0, .slice none 0 0] 33 (0, 0))) := heap_alloc2_new _ _ _
 have CA : Hid (CodeAt ((w.alloc (.cells #[.int .i64 0, .slice none 0 0, .slice none 0 0, .slice none 0 0, .int .i64 0] 30)).alloc (.cells #[.slice none 0 0, .slice none 0 0] 33)) a bs) := by
   intro j hj
   obtain ⟨b, off, e, hc, hv⟩ := H.out j hj
   exact ⟨b, off, e, (BA.out.cell (p := ⟨b, off + j, none⟩) (block_lt_of_cell hc)).trans hc, hv⟩
 go_enter Tryz.func5, Tryz.ntmps5
 go_wp2_with fail
 generalize (w.alloc (.cells #[.int .i64 0, .slice none 0 0, .slice none 0 0, .slice none 0 0, .int .i64 0] 30)).alloc (.cells #[.slice none 0 0, .slice none 0 0] 33) = W0 at *
 refine (l1Open_any a c bs W0 CA.out hl).mono ?_
 rintro e w1 ⟨rfl, hb, hr⟩
 obtain ⟨q, HQ⟩ : ∃ q, Hid (W0.heap.size = q) := ⟨_, rfl⟩
 have hw0 : w.heap.size + 1 < W0.heap.size := row_lt GB.out
 have HQL : Hid (w.heap.size + 1 < q) := by show _ < _; rw [<- HQ.out]; exact hw0
 have B1 : Hid (Below w.heap.size w w1) := BA.out.trans (hb.mono BA.out.size)
 have G1 : Hid (w1.heap[w.heap.size]? = some (.cells #[.int .i64 0, .slice none 0 0, .slice none 0 0, .slice none 0 0, .int .i64 0] 30 (0, 0))) := below_row hb (row_lt GA.out) GA.out
 have G2 : Hid (w1.heap[w.heap.size + 1]? = some (.cells #[.slice none 0 0, .slice none 0 0] 33 (0, 0))) := below_row hb (row_lt GB.out) GB.out
 have R1 : Hid (RD w1 q a bs c 0) := by have := hr; rw [HQ.out] at this; exact this
 clear hb hr hw0
 rw [HQ.out]
 go_wp2_with fail
 refine (case1_any q 0 c 5 a bs w1 R1.out (by omega) (by omega)).mono ?_
 rintro e w3 ⟨n, g, zl, cg, go, ko, co, gv, kv, cv, zs, O, V, fi, rfl, hls, hg, ⟨p3, hr⟩, iz, io, iv, hgs⟩
 have HLS : Hid (zs.length = zl /\ O.length = ko * 6 /\ V.length = kv * 5 /\ 1 <= ko /\ ko <= 5 /\ 1 <= kv /\ kv <= 3) := hls
 obtain ⟨-, -, -, hk1, hk5, hv1, hv3⟩ := hls
 have hA : Below w3.heap.size w3 (w3.alloc (.cells #[.int .i64 n, .slice (some ⟨g, 0, none⟩) zl cg, .slice (some ⟨go, 0, none⟩) ko co, .slice (some ⟨gv, 0, none⟩) kv cv, .int .i64 fi] 30)) := (Below.refl _ _).alloc (Nat.le_refl _) _
 have hwq := HQL.out
 have hq1 : q < w1.heap.size := row_lt R1.out.1
 have b3 : Below w.heap.size w w3 := grown_below B1.out (by omega) hg
 have B3 : Hid (Below w.heap.size w (w3.alloc (.cells #[.int .i64 n, .slice (some ⟨g, 0, none⟩) zl cg, .slice (some ⟨go, 0, none⟩) ko co, .slice (some ⟨gv, 0, none⟩) kv cv, .int .i64 fi] 30))) := b3.trans (hA.mono b3.size)
 have g3 := grown_row hg G1.out (fun e => by injection e with e; omega)
 have g4 := grown_row hg G2.out (fun e => by injection e with e; omega)
 have G3 : Hid ((w3.alloc (.cells #[.int .i64 n, .slice (some ⟨g, 0, none⟩) zl cg, .slice (some ⟨go, 0, none⟩) ko co, .slice (some ⟨gv, 0, none⟩) kv cv, .int .i64 fi] 30)).heap[w.heap.size]? = some (.cells #[.int .i64 0, .slice none 0 0, .slice none 0 0, .slice none 0 0, .int .i64 0] 30 (0, 0))) := below_row hA (row_lt g3) g3
 have G4 : Hid ((w3.alloc (.cells #[.int .i64 n, .slice (some ⟨g, 0, none⟩) zl cg, .slice (some ⟨go, 0, none⟩) ko co, .slice (some ⟨gv, 0, none⟩) kv cv, .int .i64 fi] 30)).heap[w.heap.size + 1]? = some (.cells #[.slice none 0 0, .slice none 0 0] 33 (0, 0))) := below_row hA (row_lt g4) g4
 have K3 : Hid ((w3.alloc (.cells #[.int .i64 n, .slice (some ⟨g, 0, none⟩) zl cg, .slice (some ⟨go, 0, none⟩) ko co, .slice (some ⟨gv, 0, none⟩) kv cv, .int .i64 fi] 30)).heap[w3.heap.size]? = some (.cells #[.int .i64 n, .slice (some ⟨g, 0, none⟩) zl cg, .slice (some ⟨go, 0, none⟩) ko co, .slice (some ⟨gv, 0, none⟩) kv cv, .int .i64 fi] 30 (0, 0))) := heap_alloc_new _ _
 have HKQ : Hid (w.heap.size + 1 < w3.heap.size /\ w3.heap.size ≠ q) := ⟨row_lt g4, by have := row_lt hr.1; omega⟩
 have R3 : Hid (RD (w3.alloc (.cells #[.int .i64 n, .slice (some ⟨g, 0, none⟩) zl cg, .slice (some ⟨go, 0, none⟩) ko co, .slice (some ⟨gv, 0, none⟩) kv cv, .int .i64 fi] 30)) q a bs c p3) := hr.below hA
 have IZ : Hid (IntsAt (w3.alloc (.cells #[.int .i64 n, .slice (some ⟨g, 0, none⟩) zl cg, .slice (some ⟨go, 0, none⟩) ko co, .slice (some ⟨gv, 0, none⟩) kv cv, .int .i64 fi] 30)) (some ⟨g, 0, none⟩) zs /\ g ≠ q /\ w.heap.size + 1 < g) := ⟨iz.below hA, by have := hgs.1; omega, by have := hgs.1; omega⟩
 have IO : Hid (IntsAt (w3.alloc (.cells #[.int .i64 n, .slice (some ⟨g, 0, none⟩) zl cg, .slice (some ⟨go, 0, none⟩) ko co, .slice (some ⟨gv, 0, none⟩) kv cv, .int .i64 fi] 30)) (some ⟨go, 0, none⟩) O /\ go ≠ q /\ w.heap.size + 1 < go) := ⟨io.below hA, by have := hgs.2.1; omega, by have := hgs.2.1; omega⟩
 have IV : Hid (IntsAt (w3.alloc (.cells #[.int .i64 n, .slice (some ⟨g, 0, none⟩) zl cg, .slice (some ⟨go, 0, none⟩) ko co, .slice (some ⟨gv, 0, none⟩) kv cv, .int .i64 fi] 30)) (some ⟨gv, 0, none⟩) V /\ gv ≠ q /\ w.heap.size + 1 < gv) := ⟨iv.below hA, by have := hgs.2.2.1; omega, by have := hgs.2.2.1; omega⟩
 clear hr hg iz io iv hgs B1 G1 G2 R1 BA GA GB CA hA hwq hq1 b3 g3 g4
 obtain ⟨d0, d1, d2, d3, d4⟩ := cells5z K3.out
 go_wp2_with fail
 clear d0 d1 d2 d3 d4
 obtain ⟨kc, HKC⟩ : ∃ v, Hid (w3.heap.size = v) := ⟨_, rfl⟩
 rw [HKC.out] at K3 HKQ ⊢
 generalize (w3.alloc (.cells #[.int .i64 n, .slice (some ⟨g, 0, none⟩) zl cg, .slice (some ⟨go, 0, none⟩) ko co, .slice (some ⟨gv, 0, none⟩) kv cv, .int .i64 fi] 30)) = W3 at *
 refine (plan_any (fun _ => True) q p3 c n fi g zl cg go ko co gv kv cv zs O V a bs W3 R3.out IZ.out.1 IO.out.1 IV.out.1 IZ.out.2.1 IO.out.2.1 IV.out.2.1 HLS.out.1 HLS.out.2.1 HLS.out.2.2.1 (by omega) (by omega) (by omega) (by omega) ids_range (fun _ _ => trivial) (fun _ _ _ => trivial)).mono ?_
 rintro e w5 ⟨rs, ls, R, L, rfl, hR1, hR2, hL1, hL2, hg5, ⟨p5, hr5⟩, ho5, -⟩
 obtain ⟨ra, rc, e⟩ := own_any ho5.r
 subst e
 obtain ⟨la, lc, e⟩ := own_any ho5.l
 subst e
 have HRL : Hid (R.length <= 10 /\ (∀ r ∈ R, r.ids.length <= 9) /\ L.length <= 13 /\ (∀ x ∈ L, -9223372036854775808 <= x /\ x < 9223372036854775808)) := ⟨hR1, hR2, hL1, hL2⟩
 obtain ⟨nr, HNR⟩ : ∃ v, Hid (R.length = v) := ⟨_, rfl⟩
 obtain ⟨m, HM⟩ : ∃ v, Hid (L.length = v) := ⟨_, rfl⟩
 rw [HNR.out, HM.out] at ho5 ⊢
 have hA : Below w5.heap.size w5 (w5.alloc (.cells #[.slice ra nr rc, .slice la m lc] 33)) := (Below.refl _ _).alloc (Nat.le_refl _) _
 have hwq := HQL.out
 obtain ⟨b3, HB3⟩ : ∃ v, Hid (W3.heap.size = v) := ⟨_, rfl⟩
 have HQ3 : Hid (q < b3 /\ w.heap.size + 2 <= b3) := ⟨by rw [<- HB3.out]; exact row_lt R3.out.1, by have := row_lt K3.out; have := HKQ.out.1; have := HB3.out; omega⟩
 have b5 : Below w.heap.size w w5 := grown_below B3.out (by omega) hg5
 have g5 := grown_row hg5 G3.out (fun e => by injection e with e; omega)
 have g6 := grown_row hg5 G4.out (fun e => by injection e with e; omega)
 have k5 := grown_row hg5 K3.out (fun e => HKQ.out.2 (by injection e))
 have B5 : Hid (Below w.heap.size w (w5.alloc (.cells #[.slice ra nr rc, .slice la m lc] 33))) := b5.trans (hA.mono b5.size)
 have G5 : Hid ((w5.alloc (.cells #[.slice ra nr rc, .slice la m lc] 33)).heap[w.heap.size]? = some (.cells #[.int .i64 0, .slice none 0 0, .slice none 0 0, .slice none 0 0, .int .i64 0] 30 (0, 0))) := below_row hA (row_lt g5) g5
 have G6 : Hid ((w5.alloc (.cells #[.slice ra nr rc, .slice la m lc] 33)).heap[w.heap.size + 1]? = some (.cells #[.slice none 0 0, .slice none 0 0] 33 (0, 0))) := below_row hA (row_lt g6) g6
 have K5 : Hid ((w5.alloc (.cells #[.slice ra nr rc, .slice la m lc] 33)).heap[kc]? = some (.cells #[.int .i64 n, .slice (some ⟨g, 0, none⟩) zl cg, .slice (some ⟨go, 0, none⟩) ko co, .slice (some ⟨gv, 0, none⟩) kv cv, .int .i64 fi] 30 (0, 0))) := below_row hA (row_lt k5) k5
 have P5 : Hid ((w5.alloc (.cells #[.slice ra nr rc, .slice la m lc] 33)).heap[w5.heap.size]? = some (.cells #[.slice ra nr rc, .slice la m lc] 33 (0, 0))) := heap_alloc_new _ _
 have HPQ : Hid (w.heap.size + 1 < w5.heap.size /\ w5.heap.size ≠ q /\ w5.heap.size ≠ kc) := ⟨row_lt g6, by have := row_lt hr5.1; omega, by have := row_lt k5; omega⟩
 have J5 : Hid (IntsAt (w5.alloc (.cells #[.slice ra nr rc, .slice la m lc] 33)) (some ⟨g, 0, none⟩) zs /\ IntsAt (w5.alloc (.cells #[.slice ra nr rc, .slice la m lc] 33)) (some ⟨go, 0, none⟩) O /\ IntsAt (w5.alloc (.cells #[.slice ra nr rc, .slice la m lc] 33)) (some ⟨gv, 0, none⟩) V) := ⟨(ints_other IZ.out.1 hg5 IZ.out.2.1).below hA, (ints_other IO.out.1 hg5 IO.out.2.1).below hA, (ints_other IV.out.1 hg5 IV.out.2.1).below hA⟩
 have O5 : Hid (PO (w5.alloc (.cells #[.slice ra nr rc, .slice la m lc] 33)) b3 (.slice ra nr rc) R (.slice la m lc) L) := by have h9 := ho5.below hA; rw [HB3.out] at h9; exact h9
 have R5 : Hid (RD (w5.alloc (.cells #[.slice ra nr rc, .slice la m lc] 33)) q a bs c p5) := hr5.below hA
 clear hR1 hR2 hL1 hL2 hg5 hr5 ho5 hA b5 g5 g6 k5 B3 G3 G4 K3 R3
 go_wp2_with fail
 obtain ⟨kp, HKP⟩ : ∃ v, Hid (w5.heap.size = v) := ⟨_, rfl⟩
 rw [HKP.out] at P5 HPQ ⊢
 generalize (w5.alloc (.cells #[.slice ra nr rc, .slice la m lc] 33)) = W5 at *
 refine (seed_any q p5 c a bs W5 R5.out).mono ?_
 rintro e w6 ⟨sd, p6, rfl, -, -, hr6, hg6⟩
 have B6 : Hid (Below w.heap.size w w6) := grown_below B5.out (by omega) hg6
 have G7 : Hid (w6.heap[w.heap.size]? = some (.cells #[.int .i64 0, .slice none 0 0, .slice none 0 0, .slice none 0 0, .int .i64 0] 30 (0, 0))) := grown_row hg6 G5.out (fun e => by injection e with e; omega)
 have G8 : Hid (w6.heap[w.heap.size + 1]? = some (.cells #[.slice none 0 0, .slice none 0 0] 33 (0, 0))) := grown_row hg6 G6.out (fun e => by injection e with e; omega)
 have K6 : Hid (w6.heap[kc]? = some (.cells #[.int .i64 n, .slice (some ⟨g, 0, none⟩) zl cg, .slice (some ⟨go, 0, none⟩) ko co, .slice (some ⟨gv, 0, none⟩) kv cv, .int .i64 fi] 30 (0, 0))) := grown_row hg6 K5.out (fun e => HKQ.out.2 (by injection e))
 have P6 : Hid (w6.heap[kp]? = some (.cells #[.slice ra nr rc, .slice la m lc] 33 (0, 0))) := grown_row hg6 P5.out (fun e => HPQ.out.2.1 (by injection e))
 have J6 : Hid (IntsAt w6 (some ⟨g, 0, none⟩) zs /\ IntsAt w6 (some ⟨go, 0, none⟩) O /\ IntsAt w6 (some ⟨gv, 0, none⟩) V) := ⟨ints_other J5.out.1 hg6 IZ.out.2.1, ints_other J5.out.2.1 hg6 IO.out.2.1, ints_other J5.out.2.2 hg6 IV.out.2.1⟩
 have O6 : Hid (PO w6 b3 (.slice ra nr rc) R (.slice la m lc) L) := O5.out.other hg6 (.inl HQ3.out.1)
 have R6 : Hid (RD w6 q a bs c p6) := hr6
 clear hr6 hg6 B5 G5 G6 K5 P5 J5 O5 R5
 go_wp2_with fail
 have kS := fun (W : World) (hk : W.heap[kc]? = some (.cells #[.int .i64 n, .slice (some ⟨g, 0, none⟩) zl cg, .slice (some ⟨go, 0, none⟩) ko co, .slice (some ⟨gv, 0, none⟩) kv cv, .int .i64 fi] 30 (0, 0))) (hp : W.heap[kp]? = some (.cells #[.slice ra nr rc, .slice la m lc] 33 (0, 0))) => And.intro (cells5z hk) (cells2 hp)
 have hkS : Hid _ := kS
 clear kS
 refine wp_region_held_drew (S := (fun W => (W.cell? ⟨kc, 0, none⟩ = some (.int .i64 n) /\ W.cell? ⟨kc, 1, none⟩ = some (.slice (some ⟨g, 0, none⟩) zl cg) /\ W.cell? ⟨kc, 2, none⟩ = some (.slice (some ⟨go, 0, none⟩) ko co) /\ W.cell? ⟨kc, 3, none⟩ = some (.slice (some ⟨gv, 0, none⟩) kv cv) /\ W.cell? ⟨kc, 4, none⟩ = some (.int .i64 fi)) /\ W.cell? ⟨kp, 0, none⟩ = some (.slice ra nr rc) /\ W.cell? ⟨kp, 1, none⟩ = some (.slice la m lc))) (by kernel_rfl) ?_ (fun hHeld => ?_)
 · exact hkS.out _ (below_row (Below.refl _ _).drew (row_lt K6.out) K6.out) (below_row (Below.refl _ _).drew (row_lt P6.out) P6.out)
 have hD : Below w6.heap.size w6 w6.drew := (Below.refl _ _).drew
 have RD6 : Hid (RD w6.drew q a bs c p6) := R6.out.below hD
 have BD6 : Hid (Below w.heap.size w w6.drew) := B6.out.trans (hD.mono B6.out.size)
 have GX : Hid (w6.drew.heap[w.heap.size]? = some (.cells #[.int .i64 0, .slice none 0 0, .slice none 0 0, .slice none 0 0, .int .i64 0] 30 (0, 0))) := below_row hD (row_lt G7.out) G7.out
 have GY : Hid (w6.drew.heap[w.heap.size + 1]? = some (.cells #[.slice none 0 0, .slice none 0 0] 33 (0, 0))) := below_row hD (row_lt G8.out) G8.out
 have KX : Hid (w6.drew.heap[kc]? = some (.cells #[.int .i64 n, .slice (some ⟨g, 0, none⟩) zl cg, .slice (some ⟨go, 0, none⟩) ko co, .slice (some ⟨gv, 0, none⟩) kv cv, .int .i64 fi] 30 (0, 0))) := below_row hD (row_lt K6.out) K6.out
 have PX : Hid (w6.drew.heap[kp]? = some (.cells #[.slice ra nr rc, .slice la m lc] 33 (0, 0))) := below_row hD (row_lt P6.out) P6.out
 have JX : Hid (IntsAt w6.drew (some ⟨g, 0, none⟩) zs /\ IntsAt w6.drew (some ⟨go, 0, none⟩) O /\ IntsAt w6.drew (some ⟨gv, 0, none⟩) V) := ⟨J6.out.1.below hD, J6.out.2.1.below hD, J6.out.2.2.below hD⟩
 have OX : Hid (PO w6.drew b3 (.slice ra nr rc) R (.slice la m lc) L) := O6.out.below hD
 clear hD B6 G7 G8 K6 P6 J6 O6 R6
 generalize w6.drew = wd at *
 refine tkH 0 hHeld ?_
 refine tkH 1 hHeld ?_
 refine tkH 2 hHeld ?_
 refine tkH 3 hHeld ?_
 refine wpAnyH_ready (rs := [4]) (by kernel_rfl) (by simp) ?_
 refine AllReadyH.cons rfl (fun K hK => ?_) AllReadyH.nil
 go_simp
 refine (below_any q p6 c 4 a bs wd RD6.out (by omega)).mono ?_
 rintro e w7 ⟨kk, p7, rfl, -, -, hr7, hg7⟩
 have B7 : Hid (Below w.heap.size w w7) := grown_below BD6.out (by have := HQL.out; omega) hg7
 have G9 : Hid (w7.heap[w.heap.size]? = some (.cells #[.int .i64 0, .slice none 0 0, .slice none 0 0, .slice none 0 0, .int .i64 0] 30 (0, 0))) := grown_row hg7 GX.out (fun e => by injection e with e; have := HQL.out; omega)
 have GA : Hid (w7.heap[w.heap.size + 1]? = some (.cells #[.slice none 0 0, .slice none 0 0] 33 (0, 0))) := grown_row hg7 GY.out (fun e => by injection e with e; have := HQL.out; omega)
 have K7 : Hid (w7.heap[kc]? = some (.cells #[.int .i64 n, .slice (some ⟨g, 0, none⟩) zl cg, .slice (some ⟨go, 0, none⟩) ko co, .slice (some ⟨gv, 0, none⟩) kv cv, .int .i64 fi] 30 (0, 0))) := grown_row hg7 KX.out (fun e => HKQ.out.2 (by injection e))
 have P7 : Hid (w7.heap[kp]? = some (.cells #[.slice ra nr rc, .slice la m lc] 33 (0, 0))) := grown_row hg7 PX.out (fun e => HPQ.out.2.1 (by injection e))
 have J7 : Hid (IntsAt w7 (some ⟨g, 0, none⟩) zs /\ IntsAt w7 (some ⟨go, 0, none⟩) O /\ IntsAt w7 (some ⟨gv, 0, none⟩) V) := ⟨ints_other JX.out.1 hg7 IZ.out.2.1, ints_other JX.out.2.1 hg7 IO.out.2.1, ints_other JX.out.2.2 hg7 IV.out.2.1⟩
 have O7 : Hid (PO w7 (w.heap.size + 2) (.slice ra nr rc) R (.slice la m lc) L) := (OX.out.other hg7 (.inl HQ3.out.1)).base HQ3.out.2
 clear hr7 hg7 BD6 GX GY KX PX JX OX RD6
 (try go_wp2_with fail)
 refine hK.out _ _ ?_ (fun hHeld => ?_)
 · exact hkS.out _ K7.out P7.out
 clear hK K
 (try simp only [Act.put, List.setIfInBounds_toArray, List.set_cons_zero, List.set_cons_succ])
 refine wpAnyH_ready (rs := [5]) (by kernel_rfl) (by simp) ?_
 refine AllReadyH.cons rfl (fun K hK => ?_) AllReadyH.nil
 obtain ⟨y0, y1, y2, y3, y4⟩ := cells5z G9.out
 have yf := fun i => frozen_of_row _ _ i _ _ G9.out
 have s5 : w7.grownBy (((((w7.setCell ⟨w.heap.size, 0, none⟩ (.int .i64 n)).setCell ⟨w.heap.size, 1, none⟩ (.slice (some ⟨g, 0, none⟩) zl cg)).setCell ⟨w.heap.size, 2, none⟩ (.slice (some ⟨go, 0, none⟩) ko co)).setCell ⟨w.heap.size, 3, none⟩ (.slice (some ⟨gv, 0, none⟩) kv cv)).setCell ⟨w.heap.size, 4, none⟩ (.int .i64 fi)) (some w.heap.size) := grown_trans (grown_trans (grown_trans (grown_trans (grown_set _ _ _ _) (grown_set _ _ _ _)) (grown_set _ _ _ _)) (grown_set _ _ _ _)) (grown_set _ _ _ _)
 have T0 : Hid ((((((w7.setCell ⟨w.heap.size, 0, none⟩ (.int .i64 n)).setCell ⟨w.heap.size, 1, none⟩ (.slice (some ⟨g, 0, none⟩) zl cg)).setCell ⟨w.heap.size, 2, none⟩ (.slice (some ⟨go, 0, none⟩) ko co)).setCell ⟨w.heap.size, 3, none⟩ (.slice (some ⟨gv, 0, none⟩) kv cv)).setCell ⟨w.heap.size, 4, none⟩ (.int .i64 fi)).heap[w.heap.size]? = some (.cells #[.int .i64 n, .slice (some ⟨g, 0, none⟩) zl cg, .slice (some ⟨go, 0, none⟩) ko co, .slice (some ⟨gv, 0, none⟩) kv cv, .int .i64 fi] 30 (0, 0))) := by
   have := row_put (i := 4) (.int .i64 fi) (row_put (i := 3) (.slice (some ⟨gv, 0, none⟩) kv cv) (row_put (i := 2) (.slice (some ⟨go, 0, none⟩) ko co) (row_put (i := 1) (.slice (some ⟨g, 0, none⟩) zl cg) (row_put (i := 0) (.int .i64 n) G9.out))))
   show _ = _
   simpa using this
 have T1 : Hid ((((((w7.setCell ⟨w.heap.size, 0, none⟩ (.int .i64 n)).setCell ⟨w.heap.size, 1, none⟩ (.slice (some ⟨g, 0, none⟩) zl cg)).setCell ⟨w.heap.size, 2, none⟩ (.slice (some ⟨go, 0, none⟩) ko co)).setCell ⟨w.heap.size, 3, none⟩ (.slice (some ⟨gv, 0, none⟩) kv cv)).setCell ⟨w.heap.size, 4, none⟩ (.int .i64 fi)).heap[w.heap.size + 1]? = some (.cells #[.slice none 0 0, .slice none 0 0] 33 (0, 0))) := grown_row s5 GA.out (fun e => by injection e with e; omega)
 have TK : Hid ((((((w7.setCell ⟨w.heap.size, 0, none⟩ (.int .i64 n)).setCell ⟨w.heap.size, 1, none⟩ (.slice (some ⟨g, 0, none⟩) zl cg)).setCell ⟨w.heap.size, 2, none⟩ (.slice (some ⟨go, 0, none⟩) ko co)).setCell ⟨w.heap.size, 3, none⟩ (.slice (some ⟨gv, 0, none⟩) kv cv)).setCell ⟨w.heap.size, 4, none⟩ (.int .i64 fi)).heap[kc]? = some (.cells #[.int .i64 n, .slice (some ⟨g, 0, none⟩) zl cg, .slice (some ⟨go, 0, none⟩) ko co, .slice (some ⟨gv, 0, none⟩) kv cv, .int .i64 fi] 30 (0, 0))) := grown_row s5 K7.out (fun e => by injection e with e; have := HKQ.out.1; omega)
 have TQ : Hid ((((((w7.setCell ⟨w.heap.size, 0, none⟩ (.int .i64 n)).setCell ⟨w.heap.size, 1, none⟩ (.slice (some ⟨g, 0, none⟩) zl cg)).setCell ⟨w.heap.size, 2, none⟩ (.slice (some ⟨go, 0, none⟩) ko co)).setCell ⟨w.heap.size, 3, none⟩ (.slice (some ⟨gv, 0, none⟩) kv cv)).setCell ⟨w.heap.size, 4, none⟩ (.int .i64 fi)).heap[kp]? = some (.cells #[.slice ra nr rc, .slice la m lc] 33 (0, 0))) := grown_row s5 P7.out (fun e => by injection e with e; have := HPQ.out.1; omega)
 have TB : Hid (Below w.heap.size w (((((w7.setCell ⟨w.heap.size, 0, none⟩ (.int .i64 n)).setCell ⟨w.heap.size, 1, none⟩ (.slice (some ⟨g, 0, none⟩) zl cg)).setCell ⟨w.heap.size, 2, none⟩ (.slice (some ⟨go, 0, none⟩) ko co)).setCell ⟨w.heap.size, 3, none⟩ (.slice (some ⟨gv, 0, none⟩) kv cv)).setCell ⟨w.heap.size, 4, none⟩ (.int .i64 fi))) := grown_below B7.out (Nat.le_refl _) s5
 have TP : Hid (PO (((((w7.setCell ⟨w.heap.size, 0, none⟩ (.int .i64 n)).setCell ⟨w.heap.size, 1, none⟩ (.slice (some ⟨g, 0, none⟩) zl cg)).setCell ⟨w.heap.size, 2, none⟩ (.slice (some ⟨go, 0, none⟩) ko co)).setCell ⟨w.heap.size, 3, none⟩ (.slice (some ⟨gv, 0, none⟩) kv cv)).setCell ⟨w.heap.size, 4, none⟩ (.int .i64 fi)) (w.heap.size + 2) (.slice ra nr rc) R (.slice la m lc) L) := O7.out.other s5 (.inl (by omega))
 have TI : Hid (IntsAt (((((w7.setCell ⟨w.heap.size, 0, none⟩ (.int .i64 n)).setCell ⟨w.heap.size, 1, none⟩ (.slice (some ⟨g, 0, none⟩) zl cg)).setCell ⟨w.heap.size, 2, none⟩ (.slice (some ⟨go, 0, none⟩) ko co)).setCell ⟨w.heap.size, 3, none⟩ (.slice (some ⟨gv, 0, none⟩) kv cv)).setCell ⟨w.heap.size, 4, none⟩ (.int .i64 fi)) (some ⟨g, 0, none⟩) zs /\ IntsAt (((((w7.setCell ⟨w.heap.size, 0, none⟩ (.int .i64 n)).setCell ⟨w.heap.size, 1, none⟩ (.slice (some ⟨g, 0, none⟩) zl cg)).setCell ⟨w.heap.size, 2, none⟩ (.slice (some ⟨go, 0, none⟩) ko co)).setCell ⟨w.heap.size, 3, none⟩ (.slice (some ⟨gv, 0, none⟩) kv cv)).setCell ⟨w.heap.size, 4, none⟩ (.int .i64 fi)) (some ⟨go, 0, none⟩) O /\ IntsAt (((((w7.setCell ⟨w.heap.size, 0, none⟩ (.int .i64 n)).setCell ⟨w.heap.size, 1, none⟩ (.slice (some ⟨g, 0, none⟩) zl cg)).setCell ⟨w.heap.size, 2, none⟩ (.slice (some ⟨go, 0, none⟩) ko co)).setCell ⟨w.heap.size, 3, none⟩ (.slice (some ⟨gv, 0, none⟩) kv cv)).setCell ⟨w.heap.size, 4, none⟩ (.int .i64 fi)) (some ⟨gv, 0, none⟩) V) := ⟨ints_other J7.out.1 s5 (by have := IZ.out.2.2; omega), ints_other J7.out.2.1 s5 (by have := IO.out.2.2; omega), ints_other J7.out.2.2 s5 (by have := IV.out.2.2; omega)⟩
 clear s5
 go_simp
 refine hK.out _ _ ?_ (fun hHeld => ?_)
 · exact hkS.out _ TK.out TQ.out
 clear hK K
 generalize (((((w7.setCell ⟨w.heap.size, 0, none⟩ (.int .i64 n)).setCell ⟨w.heap.size, 1, none⟩ (.slice (some ⟨g, 0, none⟩) zl cg)).setCell ⟨w.heap.size, 2, none⟩ (.slice (some ⟨go, 0, none⟩) ko co)).setCell ⟨w.heap.size, 3, none⟩ (.slice (some ⟨gv, 0, none⟩) kv cv)).setCell ⟨w.heap.size, 4, none⟩ (.int .i64 fi)) = Wt at *
 clear y0 y1 y2 y3 y4 yf B7 G9 GA K7 P7 J7 O7
 refine wpAnyH_ready (rs := [6]) (by kernel_rfl) (by simp) ?_
 refine AllReadyH.cons rfl (fun K hK => ?_) AllReadyH.nil
 obtain ⟨y0, y1⟩ := cells2 T1.out
 have yf := fun i => frozen_of_row _ _ i _ _ T1.out
 have s7 : Wt.grownBy ((Wt.setCell ⟨w.heap.size + 1, 0, none⟩ (.slice ra nr rc)).setCell ⟨w.heap.size + 1, 1, none⟩ (.slice la m lc)) (some (w.heap.size + 1)) := grown_trans (grown_set _ _ _ _) (grown_set _ _ _ _)
 have U0 : Hid (((Wt.setCell ⟨w.heap.size + 1, 0, none⟩ (.slice ra nr rc)).setCell ⟨w.heap.size + 1, 1, none⟩ (.slice la m lc)).heap[w.heap.size]? = some (.cells #[.int .i64 n, .slice (some ⟨g, 0, none⟩) zl cg, .slice (some ⟨go, 0, none⟩) ko co, .slice (some ⟨gv, 0, none⟩) kv cv, .int .i64 fi] 30 (0, 0))) := grown_row s7 T0.out (fun e => by injection e with e; omega)
 have U1 : Hid (((Wt.setCell ⟨w.heap.size + 1, 0, none⟩ (.slice ra nr rc)).setCell ⟨w.heap.size + 1, 1, none⟩ (.slice la m lc)).heap[w.heap.size + 1]? = some (.cells #[.slice ra nr rc, .slice la m lc] 33 (0, 0))) := by
   have := row_put (i := 1) (.slice la m lc) (row_put (i := 0) (.slice ra nr rc) T1.out)
   show _ = _
   simpa using this
 have UK : Hid (((Wt.setCell ⟨w.heap.size + 1, 0, none⟩ (.slice ra nr rc)).setCell ⟨w.heap.size + 1, 1, none⟩ (.slice la m lc)).heap[kc]? = some (.cells #[.int .i64 n, .slice (some ⟨g, 0, none⟩) zl cg, .slice (some ⟨go, 0, none⟩) ko co, .slice (some ⟨gv, 0, none⟩) kv cv, .int .i64 fi] 30 (0, 0))) := grown_row s7 TK.out (fun e => by injection e with e; have := HKQ.out.1; omega)
 have UP : Hid (((Wt.setCell ⟨w.heap.size + 1, 0, none⟩ (.slice ra nr rc)).setCell ⟨w.heap.size + 1, 1, none⟩ (.slice la m lc)).heap[kp]? = some (.cells #[.slice ra nr rc, .slice la m lc] 33 (0, 0))) := grown_row s7 TQ.out (fun e => by injection e with e; have := HPQ.out.1; omega)
 have TOLD : Hid (DestTold w (.returned (.tuple #[.agg #[.int .i64 n, .slice (some ⟨g, 0, none⟩) zl cg, .slice (some ⟨go, 0, none⟩) ko co, .slice (some ⟨gv, 0, none⟩) kv cv, .int .i64 fi], .agg #[.slice ra nr rc, .slice la m lc], .int .i64 sd, .int .i64 kk])) ((Wt.setCell ⟨w.heap.size + 1, 0, none⟩ (.slice ra nr rc)).setCell ⟨w.heap.size + 1, 1, none⟩ (.slice la m lc))) := ⟨n, g, zl, cg, go, ko, co, gv, kv, cv, zs, O, V, fi, _, _, R, L, sd, kk, rfl, HLS.out, HRL.out, grown_below TB.out (by omega) s7, ints_other TI.out.1 s7 (by have := IZ.out.2.2; omega), ints_other TI.out.2.1 s7 (by have := IO.out.2.2; omega), ints_other TI.out.2.2 s7 (by have := IV.out.2.2; omega), (TP.out.other s7 (.inl (by omega))).base (by omega)⟩
 clear s7
 go_simp
 refine hK.out _ _ ?_ (fun hHeld => ?_)
 · exact hkS.out _ UK.out UP.out
 clear hK K
 generalize ((Wt.setCell ⟨w.heap.size + 1, 0, none⟩ (.slice ra nr rc)).setCell ⟨w.heap.size + 1, 1, none⟩ (.slice la m lc)) = Wu at *
 refine tkH 7 hHeld ?_
 refine tkH 8 hHeld ?_
 refine wpAnyH_done (by kernel_rfl) ?_ _
 clear hHeld y0 y1 yf
 go_wp2
 refine bodyPost_ret (v := .tuple #[.agg #[.int .i64 n, .slice (some ⟨g, 0, none⟩) zl cg, .slice (some ⟨go, 0, none⟩) ko co, .slice (some ⟨gv, 0, none⟩) kv cv, .int .i64 fi], .agg #[.slice ra nr rc, .slice la m lc], .int .i64 sd, .int .i64 kk]) ?_ rfl TOLD.out
 have r1 := run_loadVar_row (P := Tryz.prog) _ w.heap.size 30 30 #[.int .i64 n, .slice (some ⟨g, 0, none⟩) zl cg, .slice (some ⟨go, 0, none⟩) ko co, .slice (some ⟨gv, 0, none⟩) kv cv, .int .i64 fi] (0, 0) _ U0.out Tryz.underlying30 rfl sizeCase5
 have r2 := run_loadVar_row (P := Tryz.prog) _ (w.heap.size + 1) 33 33 #[.slice ra nr rc, .slice la m lc] (0, 0) _ U1.out Tryz.underlying33 rfl sizePlan2
 simp [results, Tryz.results5, asAddr, r1, r2]
end Go.Proofs.YtdbdmlabfbmjfaaGreat
