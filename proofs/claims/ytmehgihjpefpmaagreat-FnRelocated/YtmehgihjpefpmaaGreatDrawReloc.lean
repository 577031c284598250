import Derived.Test.YtmehgihjpefpmaaGreatPack1
import Derived.Test.YtmehgihjpefpmaaGreatPack2
import Derived.Test.YtmehgihjpefpmaaGreatPack14
import Derived.Test.YtmehgihjpefpmaaGreatDrawCP
import Derived.Test.YtmehgihjpefpmaaGreatPack21
import Derived.Test.YtmehgihjpefpmaaGreatPack23
import Derived.Test.YtmehgihjpefpmaaGreatPack26
namespace Go.Proofs.YtmehgihjpefpmaaGreat
open Go.RowKit
def RelocTold (w : World) (e : Ending) (w' : World) : Prop := ∃ (n : Int) (g zl cg go ko co gv kv cv : Nat) (zs O V : List Int) (fi : Int) (rs ls : Value) (R : List RT) (L : List Int) (id tv pl : Int),
 e = .returned (.tuple #[.agg #[.int .i64 n, .slice (some ⟨g, 0, none⟩) zl cg, .slice (some ⟨go, 0, none⟩) ko co, .slice (some ⟨gv, 0, none⟩) kv cv, .int .i64 fi], .agg #[rs, ls], .int .i64 id, .int .i64 tv, .int .i64 pl]) /\ (zs.length = zl /\ O.length = ko * 6 /\ V.length = kv * 5 /\ 1 <= ko /\ ko <= 5 /\ 1 <= kv /\ kv <= 3) /\ (R.length <= 10 /\ (∀ r ∈ R, r.ids.length <= 9) /\ L.length <= 13 /\ (∀ x ∈ L, -9223372036854775808 <= x /\ x < 9223372036854775808)) /\ LN (caseB n zs O V ko kv fi) ls ∧
 Below w.heap.size w w' /\ IntsAt w' (some ⟨g, 0, none⟩) zs /\ IntsAt w' (some ⟨go, 0, none⟩) O /\ IntsAt w' (some ⟨gv, 0, none⟩) V /\ PO w' w.heap.size rs R ls L
set_option maxRecDepth 10000 in
set_option maxHeartbeats 4000000 in
theorem drawReloc_any (a : Option Addr) (c : Nat) (bs : List Int) (w : World) (h : CodeAt w a bs) (hl : bs.length <= 1048576) :
 Calls Tryz.prog 6 #[.slice a bs.length c] w (RelocTold w) := by
 have H : Hid (CodeAt w a bs) := h
 clear h
 have BA : Hid (Below w.heap.size w ((w.alloc (.cells #[.int .i64 0, .slice none 0 0, .slice none 0 0, .slice none 0 0, .int .i64 0] 30)).alloc (.cells #[.slice none 0 0, .slice none 0 0] 33))) := ((Below.refl _ _).alloc (Nat.le_refl _) _).alloc (by simp) _
 have GA : Hid (((w.alloc (.cells #[.int .i64 0, .slice none 0 0, .slice none 0 0, .slice none 0 0, .int .i64 0] 30)).alloc (.cells #[.slice none 0 0, .slice none 0 0] 33)).heap[w.heap.size]? = some (.cells #[.int .i64 0, .slice none 0 0, .slice none 0 0, .slice none 0 0, .int .i64 0] 30 (0, 0))) := heap_alloc2_old _ _ _
 have GB : Hid (((w.alloc (.cells #[.int .i64 0, .slice none 0 0, .slice none 0 0, .slice none 0 0, .int .i64 0] 30)).alloc (.cells #[.slice none 0 0, .slice none 0 0] 33)).heap[w.heap.size + 1]? = some (.cells #[.slice none 0 0, .slice none 0 0] 33 (0, 0))) := heap_alloc2_new _ _ _
 have CA : Hid (CodeAt ((w.alloc (.cells #[.int .i64 0, .slice none 0 0, .slice none 0 0, .slice none 0 0, .int .i64 0] 30)).alloc (.cells #[.slice none 0 0, .slice none 0 0] 33)) a bs) := by
  intro j hj
  obtain ⟨b, off, e, hc, hv⟩ := H.out j hj
  exact ⟨b, off, e, (BA.out.cell (p := ⟨b, off + j, none⟩) (block_lt_of_cell hc)).trans hc, hv⟩
 go_enter Tryz.func6, Tryz.ntmps6
 go_wp2_with fail
 generalize (w.alloc (.cells #[.int .i64 0, .slice none 0 0, .slice none 0 0, .slice none 0 0, .int .i64 0] 30)).alloc (.cells #[.slice none 0 0, .slice none 0 0] 33) = W0 at *
 refine (l1Open_any a c bs W0 CA.out hl).mono ?_
 rintro e w1 ⟨rfl, hb, hr⟩
 obtain ⟨q, HQ⟩ := nmd W0.heap.size
 have hw0 : w.heap.size + 1 < W0.heap.size := row_lt GB.out
 have HQL : Hid (w.heap.size + 1 < q) := by show _ < _; rw [<- HQ.out]; exact hw0
 have B1 : Hid (Below w.heap.size w w1) := BA.out.trans (hb.mono BA.out.size)
 have G1 : Hid (w1.heap[w.heap.size]? = some (.cells #[.int .i64 0, .slice none 0 0, .slice none 0 0, .slice none 0 0, .int .i64 0] 30 (0, 0))) := below_row hb (row_lt GA.out) GA.out
 have G2 : Hid (w1.heap[w.heap.size + 1]? = some (.cells #[.slice none 0 0, .slice none 0 0] 33 (0, 0))) := below_row hb (row_lt GB.out) GB.out
 have R1 : Hid (RD w1 q a bs c 0) := by have := hr; rw [HQ.out] at this; exact this
 clear hb hr hw0
 rw [HQ.out]
 go_wp2_with fail
 refine (case1_any q 0 c 5 a bs w1 R1.out (by omega) (by omega)).mono ?_
 rintro e w3 ⟨n, g, zl, cg, go, ko, co, gv, kv, cv, zs, O, V, fi, rfl, hls, hg, ⟨p3, hr⟩, iz, io, iv, hgs⟩
 have HLS : Hid (zs.length = zl /\ O.length = ko * 6 /\ V.length = kv * 5 /\ 1 <= ko /\ ko <= 5 /\ 1 <= kv /\ kv <= 3) := hls
 obtain ⟨-, -, -, hk1, hk5, hv1, hv3⟩ := hls
 have hA : Below w3.heap.size w3 (w3.alloc (.cells #[.int .i64 n, .slice (some ⟨g, 0, none⟩) zl cg, .slice (some ⟨go, 0, none⟩) ko co, .slice (some ⟨gv, 0, none⟩) kv cv, .int .i64 fi] 30)) := (Below.refl _ _).alloc (Nat.le_refl _) _
 have hwq := HQL.out
 have hq1 : q < w1.heap.size := row_lt R1.out.1
 have b3 : Below w.heap.size w w3 := grown_below B1.out (by omega) hg
 have B3 : Hid (Below w.heap.size w (w3.alloc (.cells #[.int .i64 n, .slice (some ⟨g, 0, none⟩) zl cg, .slice (some ⟨go, 0, none⟩) ko co, .slice (some ⟨gv, 0, none⟩) kv cv, .int .i64 fi] 30))) := b3.trans (hA.mono b3.size)
 have g3 := grown_row hg G1.out (fun e => by injection e with e; omega)
 have g4 := grown_row hg G2.out (fun e => by injection e with e; omega)
 have G3 : Hid ((w3.alloc (.cells #[.int .i64 n, .slice (some ⟨g, 0, none⟩) zl cg, .slice (some ⟨go, 0, none⟩) ko co, .slice (some ⟨gv, 0, none⟩) kv cv, .int .i64 fi] 30)).heap[w.heap.size]? = some (.cells #[.int .i64 0, .slice none 0 0, .slice none 0 0, .slice none 0 0, .int .i64 0] 30 (0, 0))) := below_row hA (row_lt g3) g3
 have G4 : Hid ((w3.alloc (.cells #[.int .i64 n, .slice (some ⟨g, 0, none⟩) zl cg, .slice (some ⟨go, 0, none⟩) ko co, .slice (some ⟨gv, 0, none⟩) kv cv, .int .i64 fi] 30)).heap[w.heap.size + 1]? = some (.cells #[.slice none 0 0, .slice none 0 0] 33 (0, 0))) := below_row hA (row_lt g4) g4
 have K3 : Hid ((w3.alloc (.cells #[.int .i64 n, .slice (some ⟨g, 0, none⟩) zl cg, .slice (some ⟨go, 0, none⟩) ko co, .slice (some ⟨gv, 0, none⟩) kv cv, .int .i64 fi] 30)).heap[w3.heap.size]? = some (.cells #[.int .i64 n, .slice (some ⟨g, 0, none⟩) zl cg, .slice (some ⟨go, 0, none⟩) ko co, .slice (some ⟨gv, 0, none⟩) kv cv, .int .i64 fi] 30 (0, 0))) := heap_alloc_new _ _
 have HKQ : Hid (w.heap.size + 1 < w3.heap.size /\ w3.heap.size ≠ q) := ⟨row_lt g4, by have := row_lt hr.1; omega⟩
 have R3 : Hid (RD (w3.alloc (.cells #[.int .i64 n, .slice (some ⟨g, 0, none⟩) zl cg, .slice (some ⟨go, 0, none⟩) ko co, .slice (some ⟨gv, 0, none⟩) kv cv, .int .i64 fi] 30)) q a bs c p3) := hr.below hA
 have IZ : Hid (IntsAt (w3.alloc (.cells #[.int .i64 n, .slice (some ⟨g, 0, none⟩) zl cg, .slice (some ⟨go, 0, none⟩) ko co, .slice (some ⟨gv, 0, none⟩) kv cv, .int .i64 fi] 30)) (some ⟨g, 0, none⟩) zs /\ g ≠ q /\ w.heap.size + 1 < g) := ⟨iz.below hA, by have := hgs.1; omega, by have := hgs.1; omega⟩
 have IO : Hid (IntsAt (w3.alloc (.cells #[.int .i64 n, .slice (some ⟨g, 0, none⟩) zl cg, .slice (some ⟨go, 0, none⟩) ko co, .slice (some ⟨gv, 0, none⟩) kv cv, .int .i64 fi] 30)) (some ⟨go, 0, none⟩) O /\ go ≠ q /\ w.heap.size + 1 < go) := ⟨io.below hA, by have := hgs.2.1; omega, by have := hgs.2.1; omega⟩
 have IV : Hid (IntsAt (w3.alloc (.cells #[.int .i64 n, .slice (some ⟨g, 0, none⟩) zl cg, .slice (some ⟨go, 0, none⟩) ko co, .slice (some ⟨gv, 0, none⟩) kv cv, .int .i64 fi] 30)) (some ⟨gv, 0, none⟩) V /\ gv ≠ q /\ w.heap.size + 1 < gv) := ⟨iv.below hA, by have := hgs.2.2.1; omega, by have := hgs.2.2.1; omega⟩
 clear hr hg iz io iv hgs B1 G1 G2 R1 BA GA GB CA hA hwq hq1 b3 g3 g4
 obtain ⟨d0, d1, d2, d3, d4⟩ := cells5z K3.out
 go_wp2_with fail
 clear d0 d1 d2 d3 d4
 obtain ⟨kc, HKC⟩ := nmd w3.heap.size
 rw [HKC.out] at K3 HKQ ⊢
 generalize (w3.alloc (.cells #[.int .i64 n, .slice (some ⟨g, 0, none⟩) zl cg, .slice (some ⟨go, 0, none⟩) ko co, .slice (some ⟨gv, 0, none⟩) kv cv, .int .i64 fi] 30)) = W3 at *
 refine (plan_any (fun _ => True) q p3 c n fi g zl cg go ko co gv kv cv zs O V a bs W3 R3.out IZ.out.1 IO.out.1 IV.out.1 IZ.out.2.1 IO.out.2.1 IV.out.2.1 HLS.out.1 HLS.out.2.1 HLS.out.2.2.1 (by omega) (by omega) (by omega) (by omega) ids_range (fun _ _ => trivial) (fun _ _ _ => trivial)).mono ?_
 rintro e w5 ⟨rs, ls, R, L, rfl, hR1, hR2, hL1, hL2, hg5, ⟨p5, hr5⟩, ho5, -, hln⟩
 obtain ⟨ra, rc, e⟩ := own_any ho5.r
 subst e
 obtain ⟨la, lc, e⟩ := own_any ho5.l
 subst e
 have HRL : Hid (R.length <= 10 /\ (∀ r ∈ R, r.ids.length <= 9) /\ L.length <= 13 /\ (∀ x ∈ L, -9223372036854775808 <= x /\ x < 9223372036854775808)) := ⟨hR1, hR2, hL1, hL2⟩
 obtain ⟨nr, HNR⟩ := nmd R.length
 obtain ⟨m, HM⟩ := nmd L.length
 rw [HNR.out, HM.out] at ho5 ⊢
 have HLN : Hid (LN (caseB n zs O V ko kv fi) (.slice la m lc)) := by rw [HM.out] at hln; exact hln
 have X5 : Hid _ := CPX.new B3.out G3.out G4.out K3.out IZ.out IO.out IV.out ⟨HQL.out, row_lt R3.out.1⟩ ⟨HKQ.out.1, HKQ.out.2⟩ hg5 ho5
 have R5 := hdn (hr5.below ((Below.refl w5.heap.size w5).alloc (Nat.le_refl _) (.cells #[.slice ra nr rc, .slice la m lc] 33)))
 clear hR1 hR2 hL1 hL2 hg5 hr5 ho5 B3 G3 G4 K3 R3 IZ IO IV HKQ hln
 obtain ⟨d0, d1, d2, d3, d4⟩ := cells5z X5.out.k1
 go_wp2_with fail
 obtain ⟨kp, HKP⟩ := nmd w5.heap.size
 rw [HKP.out] at X5 ⊢
 generalize (w5.alloc (.cells #[.slice ra nr rc, .slice la m lc] 33)) = W5 at *
 have HX : Hid (∀ v : Int, 0 <= v -> v < max (ko : Int) 1 -> IntKind.i64.wrap (1 + v) = 1 + v) := fun v h1 h2 => IntWalk.i64_in _ (by omega)
 refine (below_any q _ c ko a bs _ R5.out (by omega)).mono ?_
 rintro e w6 ⟨y6, p6, rfl, hy0, hy1, hr6, hg6⟩
 have X6 : Hid _ := X5.out.read hg6
 have hw6 := HX.out y6 hy0 hy1
 clear hg6 R5
 obtain ⟨id0, HID⟩ := nmd (1 + y6)
 rw [HID.out] at hw6
 clear X5 d0 d1 d2 d3 d4 hy0 hy1 HX
 have R6 := hdn (hr6)
 clear hr6
 obtain ⟨d0, d1, d2, d3, d4⟩ := cells5z X6.out.k1
 obtain ⟨p0, p1⟩ := cells2 X6.out.k2
 obtain ⟨b3, hb3, hb4, ho6⟩ := X6.out.po
 have HRA : Hid (RoutesAt w6 ra R) := po_at ho6 HNR.out
 have HRC : Hid (∀ r ∈ R, r.ids.length <= r.c) := fun r hr => (ho6.ints r hr).2
 have HLA : Hid (IntsAt w6 la L) := po_l ho6 HM.out
 have HRI : Hid (∀ r ∈ R, r.ids.length <= 9) := HRL.out.2.1
 have SS := specServed_opt n fi (some ⟨g, 0, none⟩) (some ⟨go, 0, none⟩) (some ⟨gv, 0, none⟩) ra la cg ko co kv cv rc lc zs O V L R w6 HRA.out (by have := HRL.out.1; omega) HRC.out _ rfl (fun W hb => by
  have h9 := allTo_bd HRI.out R.length (Nat.le_refl _)
  have hR9 := HRL.out
  exact specPlan_any n fi _ _ _ ra la cg ko co kv cv rc lc zs O V L R W (X6.out.i1.below hb) (X6.out.i2.below hb) (X6.out.i3.below hb) (HRA.out.below hb) (HLA.out.below hb) HLS.out.2.1 HLS.out.2.2.1 (by omega) (by omega) (by omega) (fun r hr => by have := HRI.out r hr; omega) HRC.out (by omega) (by omega))
 rw [HLS.out.1, HNR.out, HM.out] at SS
 obtain ⟨SV, HSV⟩ := nmd (servV n zs O V ko kv fi R L)
 rw [HSV.out] at SS
 obtain ⟨sn, HSN⟩ := nmd SV.length
 have hsn : sn <= 12 := by rw [<- HSN.out, <- HSV.out]; exact servV_len ..
 rw [HSN.out] at SS
 clear ho6 hb3 hb4 HRA HRC HLA HRI
 go_wp2_with fail
 clear hw6
 refine SS.mono ?_
 rintro e w7 ⟨sl, rfl, hb7, ho7⟩
 obtain ⟨sa, sc, e⟩ := own_any ho7
 subst e
 have S7 : Hid (IntsAt w7 sa SV) := ints_ownL ho7
 have HSA : Hid (∀ k, sa.map (·.block) = some k -> w6.heap.size <= k) := by
  rcases own_kinds ho7 with ⟨e, _⟩ | ⟨g9, c9, e, h9, -⟩
  · injection e with e; subst e; intro k h; cases h
  · injection e with e; subst e; intro k h; simp at h; omega
 have HQ6 : Hid (q < w6.heap.size) := row_lt R6.out.1
 have X7 : Hid _ := X6.out.below hb7
 have R7 := hdn (R6.out.below hb7)
 clear hb7 ho7 SS X6 R6 d0 d1 d2 d3 d4 p0 p1
 go_upto_region 6 with fail
 go_cut [36] from 29 to 36 (fun s36 wx => ∃ (vb : Bool) (p : Nat), s36 = .bool vb /\ (vb = true -> 0 < sn) /\ RD wx q a bs c p /\ IntsAt wx sa SV /\ CPX w wx q #[.int .i64 0, .slice none 0 0, .slice none 0 0, .slice none 0 0, .int .i64 0] #[.slice none 0 0, .slice none 0 0] #[.int .i64 n, .slice (some ⟨g, 0, none⟩) zl cg, .slice (some ⟨go, 0, none⟩) ko co, .slice (some ⟨gv, 0, none⟩) kv cv, .int .i64 fi] #[.slice ra nr rc, .slice la m lc] kc kp g go gv zs O V (.slice ra nr rc) (.slice la m lc) R L)
 case first =>
  by_cases h0 : 0 < sn
  · have hI : (0 : Int) < (sn : Int) := by omega
    go_wp2_with (first
     | (go_at_call 23
        refine (once_any q _ c 8 a bs _ R7.out (by omega) (by omega)).mono ?_
        rintro e w8 ⟨vb, p8, rfl, hr8, hg8⟩
        have X8 : Hid _ := X7.out.read hg8
        have S8 : Hid (IntsAt w8 sa SV) := fun j hj => by
         obtain ⟨b, off, e, hc⟩ := S7.out j hj
         have hk := HSA.out b (by rw [e]; rfl)
         exact ⟨b, off, e, hg8.cell hc (fun e2 => absurd (show b = q by injection e2) (by have := HQ6.out; omega))⟩
        clear hg8))
    go_meet
    exact ⟨_, _, rfl, fun _ => h0, hr8, S8.out, X8.out⟩
  · have hz : sn = 0 := by omega
    subst hz
    go_wp2_with fail
    go_meet
    exact ⟨_, _, rfl, (fun h => by cases h), R7.out, S7.out, X7.out⟩
 case rest =>
  obtain ⟨vb, p8, rfl, hvb, hr8, hs8, hx8⟩ := hcut
  have X8 : Hid _ := hx8
  have R8 := hdn hr8
  have S8 := hdn hs8
  clear hx8 hr8 hs8 X7 R7 S7
  go_upto_if 36 with fail
  go_cut [10] from 37 to 43 (fun s10 wx => ∃ (x : Int) (p : Nat), s10 = .int .i64 x /\ RD wx q a bs c p /\ CPX w wx q #[.int .i64 0, .slice none 0 0, .slice none 0 0, .slice none 0 0, .int .i64 0] #[.slice none 0 0, .slice none 0 0] #[.int .i64 n, .slice (some ⟨g, 0, none⟩) zl cg, .slice (some ⟨go, 0, none⟩) ko co, .slice (some ⟨gv, 0, none⟩) kv cv, .int .i64 fi] #[.slice ra nr rc, .slice la m lc] kc kp g go gv zs O V (.slice ra nr rc) (.slice la m lc) R L)
  case first =>
   cases vb
   · go_wp2_with fail
     go_meet
     exact ⟨_, _, rfl, R8.out, X8.out⟩
   · have h0 := hvb rfl
     go_wp2_with (first
      | (go_at_call 21
         refine (below_any q _ c sn a bs _ R8.out (by omega)).mono ?_
         rintro e w9 ⟨y9, p9, rfl, hy0, hy1, hr9, hg9⟩
         have X9 : Hid _ := X8.out.read hg9
         obtain ⟨y9, rfl⟩ := Int.eq_ofNat_of_zero_le hy0
         have hy9 : y9 < sn := by omega
         have hyI : (y9 : Int) < (sn : Int) := by omega
         obtain ⟨sb, so, es, hc9⟩ := S8.out y9 (by rw [HSN.out]; exact hy9)
         subst es
         have hk := HSA.out sb rfl
         have hc := hg9.cell hc9 (fun e2 => absurd (show sb = q by injection e2) (by have := HQ6.out; omega))
         generalize SV.getD y9 0 = xx at *
         clear hg9 hc9 hy0 hy1))
     go_meet
     exact ⟨_, _, rfl, hr9, X9.out⟩
  case rest =>
   obtain ⟨id, p8, rfl, hr8, hx8⟩ := hcut
   clear X8 R8
   have X8 : Hid _ := hx8
   have R8 := hdn (hr8)
   clear hx8 hr8 S8 HSA HQ6 HSV HSN hvb
   obtain ⟨fv, HFV⟩ : ∃ f : Nat -> Int, Hid (∀ y, V.getD (y * 5) 0 = f y) := ⟨fun y => V.getD (y * 5) 0, fun _ => rfl⟩
   go_wp2_with fail
   have hD : Below wc.heap.size wc wc.drew := (Below.refl _ _).drew
   refine wp_region_held_drew (S := (fun W => W.cell? ⟨kc, 3, none⟩ = some (.slice (some ⟨gv, 0, none⟩) kv cv) /\ ∀ y : Nat, y < kv -> W.cell? ⟨gv, y * 5, none⟩ = some (.int .i64 (fv y)))) (by kernel_rfl) ?_ (fun hHeld => ?_)
   · exact (X8.out.below hD).keepV HLS.out.2.2.1 HFV.out
   have X9 : Hid _ := X8.out.below hD
   have R9 := hdn (R8.out.below hD)
   clear hD X8 R8
   generalize wc.drew = wd at *
   refine tkH 0 hHeld ?_
   refine tkH 1 hHeld ?_
   refine tkH 2 hHeld ?_
   refine tkH 3 hHeld ?_
   refine tkH 4 hHeld ?_
   refine tkH 5 hHeld ?_
   refine wpAnyH_ready (rs := [6]) (by kernel_rfl) (by simp) ?_
   refine AllReadyH.cons rfl (fun K hK => ?_) AllReadyH.nil
   go_simp
   refine (below_any q _ c kv a bs _ R9.out (by omega)).mono ?_
   rintro e wb ⟨y, py, rfl, hy0, hy1, hr, hg⟩
   obtain ⟨y, rfl⟩ := Int.eq_ofNat_of_zero_le hy0
   have hyv : y < kv := by omega
   have hyI : (y : Int) < (kv : Int) := by omega
   have XB : Hid _ := X9.out.read hg
   have RB := hdn (hr)
   clear hr hg hy0 hy1 X9 R9
   (try go_wp2_with fail)
   refine hK.out _ _ ?_ (fun hHeld => ?_)
   · exact XB.out.keepV HLS.out.2.2.1 HFV.out
   clear hK K
   (try simp only [Act.put, List.setIfInBounds_toArray, List.set_cons_zero, List.set_cons_succ])
   refine tkH 7 hHeld ?_
   refine tkH 8 hHeld ?_
   refine tkH 9 hHeld ?_
   refine tkH 10 hHeld ?_
   refine wpAnyH_done (by kernel_rfl) ?_ _
   clear hHeld
   obtain ⟨tv, HTV⟩ := nmd (fv y)
   rw [HTV.out]
   clear hyv hyI
   go_wp2_with fail
   refine wp_region_held_drew (S := (fun W => (W.cell? ⟨kc, 0, none⟩ = some (.int .i64 n) /\ W.cell? ⟨kc, 1, none⟩ = some (.slice (some ⟨g, 0, none⟩) zl cg) /\ W.cell? ⟨kc, 2, none⟩ = some (.slice (some ⟨go, 0, none⟩) ko co) /\ W.cell? ⟨kc, 3, none⟩ = some (.slice (some ⟨gv, 0, none⟩) kv cv) /\ W.cell? ⟨kc, 4, none⟩ = some (.int .i64 fi)) /\ W.cell? ⟨kp, 0, none⟩ = some (.slice ra nr rc) /\ W.cell? ⟨kp, 1, none⟩ = some (.slice la m lc))) (by kernel_rfl) ?_ (fun hHeld => ?_)
   · exact (XB.out.below (Below.refl _ _).drew).keep2
   have hD : Below wb.heap.size wb wb.drew := (Below.refl _ _).drew
   have XD : Hid _ := XB.out.below hD
   have RDD := hdn (RB.out.below hD)
   clear hD XB RB
   generalize wb.drew = we at *
   refine tkH 0 hHeld ?_
   refine tkH 1 hHeld ?_
   refine tkH 2 hHeld ?_
   refine tkH 3 hHeld ?_
   refine tkH 4 hHeld ?_
   refine wpAnyH_ready (rs := [5]) (by kernel_rfl) (by simp) ?_
   refine AllReadyH.cons rfl (fun K hK => ?_) AllReadyH.nil
   go_simp
   refine (below_any q _ c 3 a bs _ RDD.out (by omega)).mono ?_
   rintro e w9 ⟨pl, p9, rfl, -, -, hr9, hg9⟩
   have XE : Hid _ := XD.out.read hg9
   clear hr9 hg9 XD RDD
   (try go_wp2_with fail)
   refine hK.out _ _ ?_ (fun hHeld => ?_)
   · exact XE.out.keep2
   clear hK K
   (try simp only [Act.put, List.setIfInBounds_toArray, List.set_cons_zero, List.set_cons_succ])
   refine wpAnyH_ready (rs := [6]) (by kernel_rfl) (by simp) ?_
   refine AllReadyH.cons rfl (fun K hK => ?_) AllReadyH.nil
   obtain ⟨y0, y1, y2, y3, y4⟩ := cells5z XE.out.z1
   have yf := fun i => frozen_of_row _ _ i _ _ XE.out.z1
   have XF : Hid _ := XE.out.putC (.int .i64 n) (.slice (some ⟨g, 0, none⟩) zl cg) (.slice (some ⟨go, 0, none⟩) ko co) (.slice (some ⟨gv, 0, none⟩) kv cv) (.int .i64 fi)
   go_simp
   refine hK.out _ _ ?_ (fun hHeld => ?_)
   · exact XF.out.keep2
   clear hK K
   generalize (((((w9.setCell ⟨w.heap.size, 0, none⟩ (.int .i64 n)).setCell ⟨w.heap.size, 1, none⟩ (.slice (some ⟨g, 0, none⟩) zl cg)).setCell ⟨w.heap.size, 2, none⟩ (.slice (some ⟨go, 0, none⟩) ko co)).setCell ⟨w.heap.size, 3, none⟩ (.slice (some ⟨gv, 0, none⟩) kv cv)).setCell ⟨w.heap.size, 4, none⟩ (.int .i64 fi)) = Wt at *
   clear y0 y1 y2 y3 y4 yf XE
   refine wpAnyH_ready (rs := [7]) (by kernel_rfl) (by simp) ?_
   refine AllReadyH.cons rfl (fun K hK => ?_) AllReadyH.nil
   obtain ⟨y0, y1⟩ := cells2 XF.out.z2
   have yf := fun i => frozen_of_row _ _ i _ _ XF.out.z2
   have XG : Hid _ := XF.out.putP (.slice ra nr rc) (.slice la m lc)
   go_simp
   refine hK.out _ _ ?_ (fun hHeld => ?_)
   · exact XG.out.keep2
   clear hK K
   generalize ((Wt.setCell ⟨w.heap.size + 1, 0, none⟩ (.slice ra nr rc)).setCell ⟨w.heap.size + 1, 1, none⟩ (.slice la m lc)) = Wu at *
   clear XF
   refine tkH 8 hHeld ?_
   refine tkH 9 hHeld ?_
   refine tkH 10 hHeld ?_
   refine wpAnyH_done (by kernel_rfl) ?_ _
   clear hHeld y0 y1 yf
   obtain ⟨b3, -, hb4, ho⟩ := XG.out.po
   go_wp2
   refine bodyPost_ret (v := .tuple #[.agg #[.int .i64 n, .slice (some ⟨g, 0, none⟩) zl cg, .slice (some ⟨go, 0, none⟩) ko co, .slice (some ⟨gv, 0, none⟩) kv cv, .int .i64 fi], .agg #[.slice ra nr rc, .slice la m lc], .int .i64 id, .int .i64 tv, .int .i64 pl]) ?_ rfl ⟨n, g, zl, cg, go, ko, co, gv, kv, cv, zs, O, V, fi, _, _, R, L, id, tv, pl, rfl, HLS.out, HRL.out, HLN.out, XG.out.b, XG.out.i1, XG.out.i2, XG.out.i3, ho.base (by omega)⟩
   have r1 := run_loadVar_row (P := Tryz.prog) _ w.heap.size 30 30 #[.int .i64 n, .slice (some ⟨g, 0, none⟩) zl cg, .slice (some ⟨go, 0, none⟩) ko co, .slice (some ⟨gv, 0, none⟩) kv cv, .int .i64 fi] (0, 0) _ XG.out.z1 Tryz.underlying30 rfl sizeCase5
   have r2 := run_loadVar_row (P := Tryz.prog) _ (w.heap.size + 1) 33 33 #[.slice ra nr rc, .slice la m lc] (0, 0) _ XG.out.z2 Tryz.underlying33 rfl sizePlan2
   simp [results, Tryz.results6, asAddr, r1, r2]
end Go.Proofs.YtmehgihjpefpmaaGreat
