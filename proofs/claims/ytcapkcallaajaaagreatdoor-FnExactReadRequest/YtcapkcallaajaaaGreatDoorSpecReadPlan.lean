import Derived.Test.YtcapkcallaajaaaGreatDoorPack12
import Derived.Test.YtcapkcallaajaaaGreatDoorPack16
import Derived.Test.YtcapkcallaajaaaGreatDoorSpecPlanText
import Derived.Deep.RegionHeld3
namespace Go.Proofs.YtcapkcallaajaaaGreatDoor
open Go.RowKit
theorem tail_cells {W : World} {g : Nat} {zs : List Int} (h : IntsAt W (some ⟨g, 1, none⟩) zs) : ∀ (j : Nat) (u : Value), (zs.map (Value.int .i64))[j]? = some u -> W.cell? ⟨g, 1 + j, none⟩ = some u := fun j u hu => by
 rw [List.getElem?_map] at hu
 cases hz : zs[j]? with
 | none => rw [hz] at hu; simp at hu
 | some z =>
   rw [hz] at hu
   simp at hu
   subst hu
   have hl := (List.getElem?_eq_some_iff.1 hz).1
   obtain ⟨b, off, e, hc⟩ := h j hl
   simp at e
   obtain ⟨rfl, rfl⟩ := e
   rw [hc, List.getD_eq_getElem?_getD, hz]
   rfl
theorem tail_none {W : World} {g : Nat} {zs : List Int} (h : zs = []) : ∀ (j : Nat) (u : Value), (zs.map (Value.int .i64))[j]? = some u -> W.cell? ⟨g, 0 + j, none⟩ = some u := fun j u hu => by
 subst h
 simp at hu
theorem own_cap9 {w : World} {base size n g c k : Nat} {e : TypeId} {xs : List Value} (h : w.ownsRow base e size (.slice (some ⟨g, 0, none⟩) k c) n xs) : n <= c := by
 obtain ⟨_, ⟨h1, _⟩ | ⟨g', c', cur, h1, _, _, h2, _⟩⟩ := h
 · cases h1
 · injection h1
   omega
def SReadOk (w : World) (s : List UInt8) (e : Ending) (w' : World) : Prop :=
 (∃ S rs ls L, specRead s = some (S.map bare, L) /\ e = .returned (.tuple #[.agg #[rs, ls], .bool true]) /\ Below w.heap.size w w' /\ PO w' (w.heap.size + 1) rs S ls L) ∨ (specRead s = none /\ e = .returned (.tuple #[.agg #[.slice none 0 0, .slice none 0 0], .bool false]) /\ Below w.heap.size w w')
set_option maxHeartbeats 8000000 in
set_option maxRecDepth 20000 in
theorem specReadPlan_any (s : List UInt8) (w : World) (hs : s.length <= 1048576) :
 Calls Tryz.prog 13 #[.string (txt s)] w (SReadOk w s) := by
 have HS : Hid ((txt s).size = s.length) := txt_size s
 obtain ⟨a, HA⟩ : ∃ a, Hid (txt s = a) := ⟨_, rfl⟩
 obtain ⟨sn, HSN⟩ : ∃ n, Hid (s.length = n) := ⟨_, rfl⟩
 have CL := l2Lines_any s (w.alloc (.cells #[.slice none 0 0, .slice none 0 0] 31)) hs
 rw [HA.out] at CL ⊢
 rw [HA.out, HSN.out] at HS
 have hn : a.size = sn := HS.out
 have HSUM : Hid (lnSum (sepF 10 s).1 <= sn) := HSN.out ▸ lines_sum s
 have HLEN : Hid ((sepF 10 s).1.length <= sn) := by
  have := (sep_len (p := 10) s [] []).1
  show _ <= _
  rw [<- HSN.out]
  simpa [sepF] using this
 have HSP : Hid (specF s = if (sepF 10 s).2 = [] /\ sn <= 2000 then linesF (sepF 10 s).1 else none) := by show _ = _; unfold specF; rw [HSN.out]
 have HSR : Hid (specRead s = match specF s with | none => none | some (R, L) => if ptxt R L = s then some (R, L) else none) := rfl
 have HWD : Hid (∀ x ∈ (sepF 10 s).1, x.length <= sn) := fun x hx => by
  have := sep_word (p := 10) s [] [] s.length (fun x hx => by simp at hx) (by simp) x hx
  rw [HSN.out] at this
  exact this
 rw [HSN.out] at hs
 obtain ⟨q2, HQ2⟩ : ∃ q, Hid ((sepF 10 s).2 = q) := ⟨_, rfl⟩
 obtain ⟨lines, HLN⟩ : ∃ q, Hid ((sepF 10 s).1 = q) := ⟨_, rfl⟩
 rw [HLN.out] at CL HSUM HLEN HSP HWD
 rw [HQ2.out] at CL HSP
 have B0 : Hid (Below w.heap.size w (w.alloc (.cells #[.slice none 0 0, .slice none 0 0] 31))) := (Below.refl _ _).alloc (Nat.le_refl _) _
 have Z0 : Hid ((w.alloc (.cells #[.slice none 0 0, .slice none 0 0] 31)).heap[w.heap.size]? = some (.cells #[.slice none 0 0, .slice none 0 0] 31 (0, 0))) := heap_alloc_new _ _
 have S0 : Hid ((w.alloc (.cells #[.slice none 0 0, .slice none 0 0] 31)).heap.size = w.heap.size + 1) := by show _ = _; simp
 go_enter Tryz.func13, Tryz.ntmps13
 go_wp2_with fail
 generalize w.alloc (.cells #[.slice none 0 0, .slice none 0 0] 31) = W0 at *
 refine CL.mono ?_
 rintro e w1 ⟨ll, rfl, hb, ho⟩
 have B1 : Hid (Below w.heap.size w w1) := B0.out.trans (hb.mono B0.out.size)
 have Z1 : Hid (w1.heap[w.heap.size]? = some (.cells #[.slice none 0 0, .slice none 0 0] 31 (0, 0))) := below_row hb (row_lt Z0.out) Z0.out
 rw [S0.out] at ho
 obtain ⟨la, lc, e, -⟩ := own_sl9 ho
 subst e
 have N1 : Hid (w1.ownsRow (w.heap.size + 1) 9 1 (.slice la lines.length lc) lines.length (strs lines)) := ho
 clear hb ho CL B0 Z0
 obtain ⟨N, HNN⟩ : ∃ n, Hid (lines.length = n) := ⟨_, rfl⟩
 rw [HNN.out] at HLEN ⊢
 have hN := HLEN.out
 obtain ⟨c0, c1⟩ := cells2 Z1.out
 have zf := fun i => frozen_of_row _ _ i _ _ Z1.out
 have hcase : (¬ (q2 = []) /\ decide (q2 = []) = false) ∨ (q2 = [] /\ decide (q2 = []) = true /\ (2000 : Int) < sn) ∨ (q2 = [] /\ decide (q2 = []) = true /\ ¬ ((2000 : Int) < sn)) := by
  by_cases h : q2 = []
  · by_cases h2 : (2000 : Int) < sn
    · exact .inr (.inl ⟨h, decide_eq_true h, h2⟩)
    · exact .inr (.inr ⟨h, decide_eq_true h, h2⟩)
  · exact .inl ⟨h, decide_eq_false h⟩
 have HNOT : Hid ((¬ (q2 = []) ∨ (2000 : Int) < sn) -> specRead s = none) := fun h => by rw [HSR.out, HSP.out, if_neg (fun h2 => by rcases h with h | h; exact h h2.1; omega)]
 rcases hcase with ⟨hq, hqd⟩ | ⟨hq, hqd, hbig⟩ | ⟨hq, hqd, hbig⟩
 · have HR : Hid (specRead s = none) := HNOT.out (.inl hq)
   rw [hqd]
   go_wp2
   refine bodyPost_ret (v := .tuple #[.agg #[.slice none 0 0, .slice none 0 0], .bool false]) (by simp [results, Tryz.results13, go_sem, c0, c1]) rfl ?_
   refine .inr ⟨HR.out, rfl, ?_⟩
   exact Below.setCell (Below.setCell B1.out (by simp) _) (by simp) _
 · have HR : Hid (specRead s = none) := HNOT.out (.inr hbig)
   rw [hqd]
   go_wp2
   refine bodyPost_ret (v := .tuple #[.agg #[.slice none 0 0, .slice none 0 0], .bool false]) (by simp [results, Tryz.results13, go_sem, c0, c1]) rfl ?_
   refine .inr ⟨HR.out, rfl, ?_⟩
   exact Below.setCell (Below.setCell B1.out (by simp) _) (by simp) _
 have HSP2 : Hid (specF s = linesF lines) := by show _ = _; rw [HSP.out, if_pos ⟨hq, by omega⟩]
 have hsn : sn <= 2000 := by omega
 clear HNOT HSP hq c0 c1 zf
 rw [hqd]
 clear hqd
 have K0 : Hid (SK w (w1.alloc (.cells #[.slice none 0 0, .slice none 0 0] 31)) w1.heap.size (.slice none 0 0) (.slice none 0 0) [] [] (.slice la N lc) lines) := by
  have := SK.new B1.out Z1.out N1.out
  rw [HNN.out] at this
  exact this
 go_wp2_with fail
 generalize w1.alloc (.cells #[.slice none 0 0, .slice none 0 0] 31) = V9 at *
 generalize w1.heap.size = bp at *
 clear Z1 B1 N1
 go_loopw [7] (fun ti wr => ∃ (j : Nat) (S : List RT) (L : List Int) (rs ls : Value), j <= N /\ ti = .int .i64 j /\ linesF (lines.take j) = some (S.map bare, L) /\ S.length <= j /\ L.length <= lnSum (lines.take j) /\ (∀ r ∈ S, r.ids.length <= 2000) /\ SK w wr bp rs ls S L (.slice la N lc) lines) (fun ti _ => N - (intOf ti).toNat)
 case atStart => exact ⟨0, [], [], _, _, Nat.zero_le _, rfl, rfl, Nat.le_refl _, Nat.zero_le _, fun r hr => by simp at hr, K0.out⟩
 case round =>
  clear K0
  obtain ⟨j, S, L, rs, ls, hj, rfl, hlf, hsl, hll, hri, hk⟩ := hrel
  have HLF : Hid (linesF (lines.take j) = some (S.map bare, L)) := hlf
  have HLL : Hid (L.length <= lnSum (lines.take j)) := hll
  have HI : Hid (∀ r ∈ S, r.ids.length <= 2000) := hri
  have KW : Hid (SK w wr bp rs ls S L (.slice la N lc) lines) := hk
  clear hlf hll hri hk
  obtain ⟨n, HN⟩ : ∃ n, Hid (S.length = n) := ⟨_, rfl⟩
  rw [HN.out] at hsl
  obtain ⟨ra, rc, e, -⟩ := own_sl9 KW.out.o.r
  rw [HN.out] at e
  subst e
  by_cases hlt : j < N
  · have hltI : (j : Int) < (N : Int) := by omega
    have hjl : j < lines.length := by rw [HNN.out]; exact hlt
    rcases own_kinds KW.out.n with ⟨_, h0⟩ | ⟨gl, cl, e, -, -⟩
    · rw [HNN.out] at h0
      omega
    rw [HNN.out] at e
    simp only [Value.slice.injEq, true_and] at e
    obtain ⟨rfl, rfl⟩ := e
    have hcx := (own_cellV (k := j) (by have := KW.out.n; rw [HNN.out] at this; exact this) (strs_at lines j hjl)).1
    have hxm : lines.getD j [] ∈ lines := by rw [List.getD_eq_getElem?_getD, List.getElem?_eq_getElem hjl]; simp
    have hxl := HWD.out _ hxm
    have HT : Hid (lines.take (j + 1) = lines.take j ++ [lines.getD j []]) := getD_snoc_take lines j hjl
    have HBAD : Hid (cutF (lines.getD j []) = none -> specRead s = none) := fun h => by
     have h1 : linesF (lines.take (j + 1)) = none := by rw [HT.out, linesF_snoc, HLF.out]; unfold lineS; simp only; rw [h]
     have h2 := linesF_bad _ (lines.drop (j + 1)) h1
     rw [List.take_append_drop] at h2
     rw [HSR.out, HSP2.out, h2]
    have HLS : Hid (linesF (lines.take (j + 1)) = lineS (some (S.map bare, L)) (lines.getD j [])) := by show _ = _; rw [HT.out, linesF_snoc, HLF.out]
    have HS1 : Hid (lnSum (lines.take (j + 1)) = lnSum (lines.take j) + (lines.getD j []).length) := by show _ = _; rw [HT.out, lnSum_snoc]
    have C := l2Cut_any (lines.getD j []) wr (by omega)
    have HCL : Hid (∀ wd l, cutF (lines.getD j []) = some (wd, l) -> l.length <= (lines.getD j []).length /\ wd.length <= (lines.getD j []).length) := fun wd l h => cutF_len h
    generalize lines.getD j [] = xl at *
    clear hxm hjl
    go_wp2_with fail
    clear hcx
    refine C.mono ?_
    rintro e w2 (⟨wd, l, sl, hc, rfl, hb, ho, hnn⟩ | ⟨hc, rfl, hb⟩)
    · have K2 : Hid (SK w w2 bp (.slice ra n rc) ls S L (.slice (some ⟨gl, 0, none⟩) N lc) lines) := KW.out.below hb
      obtain ⟨hcl1, hcl2⟩ := HCL.out wd l hc
      obtain ⟨lsa, lsc, e, -⟩ := own_sl9 ho
      subst e
      have HNI : Hid ((.slice lsa l.length lsc : Value) ≠ .slice none 0 0) := hnn
      clear hnn
      obtain ⟨k, HK⟩ : ∃ k, Hid (l.length = k) := ⟨_, rfl⟩
      rw [HK.out] at ho hcl1 HNI ⊢
      have Q2 : Hid (w2.ownsRow (w.heap.size + 1) 2 1 (.slice lsa k lsc) k (l.map (Value.int .i64))) := owns_base ho (by have := row_lt KW.out.p; have := KW.out.hp; omega)
      have HLS2 : Hid (linesF (lines.take (j + 1)) = if wd = wRoute /\ l ≠ [] then some (S.map bare ++ [⟨l.headD 0, none, l.tail, 0⟩], L) else if wd = wLeft then some (S.map bare, L ++ l) else some (S.map bare, L)) := by show _ = _; rw [HLS.out]; unfold lineS; simp only; rw [hc]
      clear hb ho hc C HBAD HCL HLS KW
      have etl : (txt wd).toList = wd := by rw [ByteArray.toList_eq]; rfl
      by_cases hA : wd = wRoute /\ l ≠ []
      · have HL2 : Hid (linesF (lines.take (j + 1)) = some (S.map bare ++ [⟨l.headD 0, none, l.tail, 0⟩], L)) := by show _ = _; rw [HLS2.out, if_pos hA]
        have hR : ((txt wd).toList == [114, 111, 117, 116, 101]) = true := by rw [etl, hA.1]; rfl
        have hk1 : 1 <= k := by
         rw [<- HK.out]
         cases l with
         | nil => exact absurd rfl hA.2
         | cons x l => simp
        have hk1I : (1 : Int) <= k := by omega
        have hk0I : (0 : Int) < k := by omega
        have HTL : Hid (l.tail.length = k - 1) := by show _ = _; rw [List.length_tail, HK.out]
        obtain ⟨v0, HV0⟩ : ∃ v, Hid (l.headD 0 = v) := ⟨_, rfl⟩
        have hl0 : (l.map (Value.int .i64))[0]? = some (.int .i64 v0) := by
         rw [<- HV0.out]
         cases l with
         | nil => exact absurd rfl hA.2
         | cons x l => rfl
        rw [HV0.out] at HL2
        rcases own_kinds Q2.out with ⟨_, h0⟩ | ⟨lg, c, e, -, -⟩
        · omega
        simp only [Value.slice.injEq, true_and] at e
        obtain ⟨rfl, rfl⟩ := e
        clear hA etl HLS2
        have hkc : k <= lsc := own_cap9 Q2.out
        obtain ⟨c, HCC⟩ : ∃ c, Hid (lsc = c) := ⟨_, rfl⟩
        rw [HCC.out] at Q2 hkc ⊢
        generalize (txt wd) = twd at *
        have hkcI : (k : Int) <= c := by omega
        by_cases hc1 : c = 1
        · have HTN : Hid (l.tail = []) := List.length_eq_zero_iff.1 (by rw [HTL.out]; omega)
          go_wp2_with fail
          refine wp_region_held_drew (S := (fun W => W.cell? ⟨lg, 0, none⟩ = some (.int .i64 v0))) (by kernel_rfl) ?_ (fun hHeld => ?_)
          · exact (own_cellV Q2.out hl0).1
          have K0 : Hid (SK w w2.drew bp (.slice ra n rc) ls S L (.slice (some ⟨gl, 0, none⟩) N lc) lines) := K2.out.below (Below.refl _ _).drew
          have Q0 : Hid (World.ownsRow w2.drew (w.heap.size + 1) 2 1 (.slice (some ⟨lg, 0, none⟩) k c) k (l.map (Value.int .i64))) := owns_below Q2.out (Below.refl _ _).drew
          clear K2 Q2
          generalize w2.drew = V0 at *
          refine tkH 0 hHeld ?_
          refine tkH 2 hHeld ?_
          refine tkH 3 hHeld ?_
          refine tkH 4 hHeld ?_
          refine tkH 6 hHeld ?_
          refine tkH 7 hHeld ?_
          refine wpAnyH_ready (rs := [1, 5]) (by kernel_rfl) (by simp) ?_
          refine AllReadyH.cons rfl (fun K hK => ?_) ?_
          · skip
            obtain ⟨z0, z1⟩ := cells2 K0.out.p
            go_simp
            refine hK.out _ _ ?_ (fun hHeld => ?_)
            · exact (own_cellV Q0.out hl0).1
            clear hK K
            clear z0 z1
            (try simp only [Act.put, List.setIfInBounds_toArray, List.set_cons_zero, List.set_cons_succ])
            refine wpAnyH_ready (rs := [5]) (by kernel_rfl) (by simp) ?_
            refine AllReadyH.cons rfl (fun K hK => ?_) AllReadyH.nil
            have K1 : Hid (SK w (V0.alloc (.cells #[] 2)) bp (.slice ra n rc) ls S L (.slice (some ⟨gl, 0, none⟩) N lc) lines) := K0.out.below ((Below.refl _ _).alloc (Nat.le_refl _) _)
            have Q1 : Hid (World.ownsRow (V0.alloc (.cells #[] 2)) (w.heap.size + 1) 2 1 (.slice (some ⟨lg, 0, none⟩) k c) k (l.map (Value.int .i64))) := Q0.out.alloc _
            have E1 : Hid (World.ownsRow (V0.alloc (.cells #[] 2)) V0.heap.size 2 1 (.slice (some ⟨V0.heap.size, 0, none⟩) 0 0) 0 []) := World.ownsRow_made V0 #[] 0 (Nat.le_refl _) (by unfold maxLen; omega) (by simp)
            have LT : Hid (∀ g, ls.ownBlock = some g -> g < V0.heap.size) := fun g e => (K0.out.o.l.lt g e).2
            have SZ : Hid (w.heap.size + 1 <= V0.heap.size) := by have := row_lt K0.out.p; have := K0.out.hp; show _ <= _; omega
            have S1 : Hid (Array.size (World.heap (V0.alloc (.cells #[] 2))) = V0.heap.size + 1) := by show _ = _; simp
            have BV : Hid (Below V0.heap.size V0 (V0.alloc (.cells #[] 2))) := (Below.refl _ _).alloc (Nat.le_refl _) _
            go_simp
            refine hK.out _ _ ?_ (fun hHeld => ?_)
            · exact (own_cellV Q1.out hl0).1
            clear hK K
            generalize (V0.alloc (.cells #[] 2)) = V1 at *
            (try simp only [Act.put, List.setIfInBounds_toArray, List.set_cons_zero, List.set_cons_succ])
            refine wpAnyH_ready (rs := [8]) (by kernel_rfl) (by simp) ?_
            refine AllReadyH.cons rfl (fun K hK => ?_) AllReadyH.nil
            refine step_append_vals Tryz.underlying22 Tryz.info2 (by rfl) (by omega) rfl (.tmp 57) (.tmp 59) rfl V0.heap.size (.slice (some ⟨V0.heap.size, 0, none⟩) 0 0) 0 [] rfl E1.out lg 0 (k - 1) 0 (l.tail.map (Value.int .i64)) rfl (by rw [List.length_map, HTL.out, Nat.mul_one]) (tail_none HTN.out) (by intro u hu; obtain ⟨z, _, rfl⟩ := List.mem_map.1 hu; rfl) (by omega) (by omega) (by rw [S1.out]; omega) ?_
            intro v' w3 ho hg hbk hz
            rcases own_kinds ho with ⟨e0, _⟩ | ⟨g3, c3, e3, -, -⟩
            · exact absurd (hz.1 e0).1 (by simp)
            rw [Nat.zero_add] at e3
            subst e3
            have BX : Below V0.heap.size V0 w3 := BV.out.grown hg (by rw [S1.out]; omega) (fun g e => by simp [Value.ownBlock] at e; omega)
            have K3 : Hid (SK w w3 bp (.slice ra n rc) ls S L (.slice (some ⟨gl, 0, none⟩) N lc) lines) := K0.out.below BX
            have Q3 : Hid (World.ownsRow w3 (w.heap.size + 1) 2 1 (.slice (some ⟨lg, 0, none⟩) k c) k (l.map (Value.int .i64))) := owns_below Q0.out BX
            have E3 : Hid (w3.ownsRow (w.heap.size + 1) 2 1 (.slice (some ⟨g3, 0, none⟩) (k - 1) c3) (k - 1) (l.tail.map (Value.int .i64))) := by
             rw [Nat.zero_add, List.nil_append] at ho
             exact owns_base ho SZ.out
            have D3 : Hid (∀ g, (some ⟨g3, 0, none⟩ : Option Addr) = some ⟨g, 0, none⟩ -> ls.ownBlock ≠ some g) := fun g e e2 => by
             have := LT.out g e2
             simp at e
             rcases hbk with hbk | hbk <;> (simp [Value.ownBlock] at hbk; (try rw [S1.out] at hbk); omega)
            clear ho hg hbk hz BX
            refine hK.out _ _ ?_ (fun hHeld => ?_)
            · exact (own_cellV Q3.out hl0).1
            clear hK K
            change wpAnyH _ _ _ _ _ _ _ (Act.put _ (some 60) _) _
            (try simp only [Act.put, List.setIfInBounds_toArray, List.set_cons_zero, List.set_cons_succ])
            refine tkH 9 hHeld ?_
            refine wpAnyH_ready (rs := [10]) (by kernel_rfl) (by simp) ?_
            refine AllReadyH.cons rfl (fun K hK => ?_) AllReadyH.nil
            have K4 : Hid (SK w (w3.alloc (.cells #[.int .i64 v0, .slice (some ⟨g3, 0, none⟩) (k - 1) c3] 65)) bp (.slice ra n rc) ls S L (.slice (some ⟨gl, 0, none⟩) N lc) lines) := K3.out.below ((Below.refl _ _).alloc (Nat.le_refl _) _)
            have Q4 : Hid (World.ownsRow (w3.alloc (.cells #[.int .i64 v0, .slice (some ⟨g3, 0, none⟩) (k - 1) c3] 65)) (w.heap.size + 1) 2 1 (.slice (some ⟨lg, 0, none⟩) k c) k (l.map (Value.int .i64))) := Q3.out.alloc _
            have E4 : Hid (World.ownsRow (w3.alloc (.cells #[.int .i64 v0, .slice (some ⟨g3, 0, none⟩) (k - 1) c3] 65)) (w.heap.size + 1) 2 1 (.slice (some ⟨g3, 0, none⟩) (k - 1) c3) (k - 1) (l.tail.map (Value.int .i64))) := E3.out.alloc _
            have V4 : Hid ((w3.alloc (.cells #[.int .i64 v0, .slice (some ⟨g3, 0, none⟩) (k - 1) c3] 65)).heap[w3.heap.size]? = some (.cells #[.int .i64 v0, .slice (some ⟨g3, 0, none⟩) (k - 1) c3] 65 (0, 0))) := heap_alloc_new _ _
            go_simp
            refine hK.out _ _ ?_ (fun hHeld => ?_)
            · exact (own_cellV Q4.out hl0).1
            clear hK K
            generalize (w3.alloc (.cells #[.int .i64 v0, .slice (some ⟨g3, 0, none⟩) (k - 1) c3] 65)) = V4w at *
            generalize w3.heap.size = b4 at *
            (try simp only [Act.put, List.setIfInBounds_toArray, List.set_cons_zero, List.set_cons_succ])
            refine wpAnyH_ready (rs := [11]) (by kernel_rfl) (by simp) ?_
            refine AllReadyH.cons rfl (fun K hK => ?_) AllReadyH.nil
            refine step_append_vals Tryz.underlying29 infoRt9 (by rfl) (by omega) rfl (.tmp 53) (.tmp 62) rfl (w.heap.size + 1) (.slice ra n rc) n (rowR S) rfl (by have := K4.out.o.r; rw [HN.out] at this; exact this) b4 0 1 1 [.int .i64 v0, .slice (some ⟨g3, 0, none⟩) (k - 1) c3] rfl rfl (cells2_a9 _ _ _ _ _ V4.out) (by simp [Value.oneCell']) (by omega) (by omega) (by have := row_lt K4.out.p; have := K4.out.hp; omega) ?_
            intro v' w6 ho hg hbk hz
            rcases own_kinds ho with ⟨_, e0⟩ | ⟨g6, c6, e6, -, -⟩
            · omega
            subst e6
            have P6 := grown_row hg K4.out.p (fun e => own_oth9 K4.out.o.r K4.out.p (by decide) e.symm)
            have f6 := fun i => frozen_of_row _ _ i _ _ P6
            obtain ⟨x6, y6⟩ := cells2 P6
            have K6 : Hid (SK w (w6.setCell ⟨bp, 0, none⟩ (.slice (some ⟨g6, 0, none⟩) (n + 1) c6)) bp (.slice (some ⟨g6, 0, none⟩) (n + 1) c6) ls (S ++ [⟨v0, some ⟨g3, 0, none⟩, l.tail, c3⟩]) L (.slice (some ⟨gl, 0, none⟩) N lc) lines) := K4.out.route (by simp only; rw [HTL.out]; exact E4.out) D3.out hg (by
             rw [HN.out, rowR_app]
             have e9 : rowR [⟨v0, some ⟨g3, 0, none⟩, l.tail, c3⟩] = [.int .i64 v0, .slice (some ⟨g3, 0, none⟩) (k - 1) c3] := by simp only [rowR, rtCells, List.flatMap_cons, List.flatMap_nil, List.append_nil]; rw [HTL.out]
             rw [e9]
             exact ho)
            have Q6a : Hid (World.ownsRow w6 (w.heap.size + 1) 2 1 (.slice (some ⟨lg, 0, none⟩) k c) k (l.map (Value.int .i64))) := own_two Q4.out K4.out.o.r hg (by decide)
            have Q6 : Hid (World.ownsRow (w6.setCell ⟨bp, 0, none⟩ (.slice (some ⟨g6, 0, none⟩) (n + 1) c6)) (w.heap.size + 1) 2 1 (.slice (some ⟨lg, 0, none⟩) k c) k (l.map (Value.int .i64))) := own_box9 Q6a.out P6 (by decide)
            clear ho hg hbk hz
            refine hK.out _ _ ?_ (fun hHeld => ?_)
            · exact (own_cellV Q6a.out hl0).1
            clear hK K
            change wpAnyH _ _ _ _ _ _ _ (Act.put _ (some 63) _) _
            (try simp only [Act.put, List.setIfInBounds_toArray, List.set_cons_zero, List.set_cons_succ])
            refine tkH 12 hHeld ?_
            refine wpAnyH_ready (rs := [13]) (by kernel_rfl) (by simp) ?_
            refine AllReadyH.cons rfl (fun K hK => ?_) AllReadyH.nil
            go_simp
            refine hK.out _ _ ?_ (fun hHeld => ?_)
            · exact (own_cellV Q6.out hl0).1
            clear hK K
            (try simp only [Act.put, List.setIfInBounds_toArray, List.set_cons_zero, List.set_cons_succ])
            refine wpAnyH_done (by kernel_rfl) ?_ _
            generalize w6.setCell ⟨bp, 0, none⟩ (.slice (some ⟨g6, 0, none⟩) (n + 1) c6) = W6 at *
            go_wp2_with fail
            go_roundw
            case rel => exact ⟨j + 1, S ++ [⟨v0, some ⟨g3, 0, none⟩, l.tail, c3⟩], L, _, ls, by omega, by go_num, by rw [List.map_append]; exact HL2.out, by rw [List.length_append, HN.out]; simp; omega, by have h1 := HLL.out; have h2 := HS1.out; omega, fun r hr => by
             rcases List.mem_append.1 hr with hr | hr
             · exact HI.out r hr
             · rw [List.mem_singleton] at hr; subst hr; simp only; rw [HTL.out]; omega, K6.out⟩
            case measure => simp [intOf]; omega
          refine AllReadyH.cons rfl (fun K hK => ?_) AllReadyH.nil
          have K1 : Hid (SK w (V0.alloc (.cells #[] 2)) bp (.slice ra n rc) ls S L (.slice (some ⟨gl, 0, none⟩) N lc) lines) := K0.out.below ((Below.refl _ _).alloc (Nat.le_refl _) _)
          have Q1 : Hid (World.ownsRow (V0.alloc (.cells #[] 2)) (w.heap.size + 1) 2 1 (.slice (some ⟨lg, 0, none⟩) k c) k (l.map (Value.int .i64))) := Q0.out.alloc _
          have E1 : Hid (World.ownsRow (V0.alloc (.cells #[] 2)) V0.heap.size 2 1 (.slice (some ⟨V0.heap.size, 0, none⟩) 0 0) 0 []) := World.ownsRow_made V0 #[] 0 (Nat.le_refl _) (by unfold maxLen; omega) (by simp)
          have LT : Hid (∀ g, ls.ownBlock = some g -> g < V0.heap.size) := fun g e => (K0.out.o.l.lt g e).2
          have SZ : Hid (w.heap.size + 1 <= V0.heap.size) := by have := row_lt K0.out.p; have := K0.out.hp; show _ <= _; omega
          have S1 : Hid (Array.size (World.heap (V0.alloc (.cells #[] 2))) = V0.heap.size + 1) := by show _ = _; simp
          have BV : Hid (Below V0.heap.size V0 (V0.alloc (.cells #[] 2))) := (Below.refl _ _).alloc (Nat.le_refl _) _
          go_simp
          refine hK.out _ _ ?_ (fun hHeld => ?_)
          · exact (own_cellV Q1.out hl0).1
          clear hK K
          generalize (V0.alloc (.cells #[] 2)) = V1 at *
          (try simp only [Act.put, List.setIfInBounds_toArray, List.set_cons_zero, List.set_cons_succ])
          refine wpAnyH_ready (rs := [1, 8]) (by kernel_rfl) (by simp) ?_
          refine AllReadyH.cons rfl (fun K hK => ?_) ?_
          · skip
            obtain ⟨z0, z1⟩ := cells2 K1.out.p
            go_simp
            refine hK.out _ _ ?_ (fun hHeld => ?_)
            · exact (own_cellV Q1.out hl0).1
            clear hK K
            clear z0 z1
            (try simp only [Act.put, List.setIfInBounds_toArray, List.set_cons_zero, List.set_cons_succ])
            refine wpAnyH_ready (rs := [8]) (by kernel_rfl) (by simp) ?_
            refine AllReadyH.cons rfl (fun K hK => ?_) AllReadyH.nil
            refine step_append_vals Tryz.underlying22 Tryz.info2 (by rfl) (by omega) rfl (.tmp 57) (.tmp 59) rfl V0.heap.size (.slice (some ⟨V0.heap.size, 0, none⟩) 0 0) 0 [] rfl E1.out lg 0 (k - 1) 0 (l.tail.map (Value.int .i64)) rfl (by rw [List.length_map, HTL.out, Nat.mul_one]) (tail_none HTN.out) (by intro u hu; obtain ⟨z, _, rfl⟩ := List.mem_map.1 hu; rfl) (by omega) (by omega) (by rw [S1.out]; omega) ?_
            intro v' w3 ho hg hbk hz
            rcases own_kinds ho with ⟨e0, _⟩ | ⟨g3, c3, e3, -, -⟩
            · exact absurd (hz.1 e0).1 (by simp)
            rw [Nat.zero_add] at e3
            subst e3
            have BX : Below V0.heap.size V0 w3 := BV.out.grown hg (by rw [S1.out]; omega) (fun g e => by simp [Value.ownBlock] at e; omega)
            have K3 : Hid (SK w w3 bp (.slice ra n rc) ls S L (.slice (some ⟨gl, 0, none⟩) N lc) lines) := K0.out.below BX
            have Q3 : Hid (World.ownsRow w3 (w.heap.size + 1) 2 1 (.slice (some ⟨lg, 0, none⟩) k c) k (l.map (Value.int .i64))) := owns_below Q0.out BX
            have E3 : Hid (w3.ownsRow (w.heap.size + 1) 2 1 (.slice (some ⟨g3, 0, none⟩) (k - 1) c3) (k - 1) (l.tail.map (Value.int .i64))) := by
             rw [Nat.zero_add, List.nil_append] at ho
             exact owns_base ho SZ.out
            have D3 : Hid (∀ g, (some ⟨g3, 0, none⟩ : Option Addr) = some ⟨g, 0, none⟩ -> ls.ownBlock ≠ some g) := fun g e e2 => by
             have := LT.out g e2
             simp at e
             rcases hbk with hbk | hbk <;> (simp [Value.ownBlock] at hbk; (try rw [S1.out] at hbk); omega)
            clear ho hg hbk hz BX
            refine hK.out _ _ ?_ (fun hHeld => ?_)
            · exact (own_cellV Q3.out hl0).1
            clear hK K
            change wpAnyH _ _ _ _ _ _ _ (Act.put _ (some 60) _) _
            (try simp only [Act.put, List.setIfInBounds_toArray, List.set_cons_zero, List.set_cons_succ])
            refine tkH 9 hHeld ?_
            refine wpAnyH_ready (rs := [10]) (by kernel_rfl) (by simp) ?_
            refine AllReadyH.cons rfl (fun K hK => ?_) AllReadyH.nil
            have K4 : Hid (SK w (w3.alloc (.cells #[.int .i64 v0, .slice (some ⟨g3, 0, none⟩) (k - 1) c3] 65)) bp (.slice ra n rc) ls S L (.slice (some ⟨gl, 0, none⟩) N lc) lines) := K3.out.below ((Below.refl _ _).alloc (Nat.le_refl _) _)
            have Q4 : Hid (World.ownsRow (w3.alloc (.cells #[.int .i64 v0, .slice (some ⟨g3, 0, none⟩) (k - 1) c3] 65)) (w.heap.size + 1) 2 1 (.slice (some ⟨lg, 0, none⟩) k c) k (l.map (Value.int .i64))) := Q3.out.alloc _
            have E4 : Hid (World.ownsRow (w3.alloc (.cells #[.int .i64 v0, .slice (some ⟨g3, 0, none⟩) (k - 1) c3] 65)) (w.heap.size + 1) 2 1 (.slice (some ⟨g3, 0, none⟩) (k - 1) c3) (k - 1) (l.tail.map (Value.int .i64))) := E3.out.alloc _
            have V4 : Hid ((w3.alloc (.cells #[.int .i64 v0, .slice (some ⟨g3, 0, none⟩) (k - 1) c3] 65)).heap[w3.heap.size]? = some (.cells #[.int .i64 v0, .slice (some ⟨g3, 0, none⟩) (k - 1) c3] 65 (0, 0))) := heap_alloc_new _ _
            go_simp
            refine hK.out _ _ ?_ (fun hHeld => ?_)
            · exact (own_cellV Q4.out hl0).1
            clear hK K
            generalize (w3.alloc (.cells #[.int .i64 v0, .slice (some ⟨g3, 0, none⟩) (k - 1) c3] 65)) = V4w at *
            generalize w3.heap.size = b4 at *
            (try simp only [Act.put, List.setIfInBounds_toArray, List.set_cons_zero, List.set_cons_succ])
            refine wpAnyH_ready (rs := [11]) (by kernel_rfl) (by simp) ?_
            refine AllReadyH.cons rfl (fun K hK => ?_) AllReadyH.nil
            refine step_append_vals Tryz.underlying29 infoRt9 (by rfl) (by omega) rfl (.tmp 53) (.tmp 62) rfl (w.heap.size + 1) (.slice ra n rc) n (rowR S) rfl (by have := K4.out.o.r; rw [HN.out] at this; exact this) b4 0 1 1 [.int .i64 v0, .slice (some ⟨g3, 0, none⟩) (k - 1) c3] rfl rfl (cells2_a9 _ _ _ _ _ V4.out) (by simp [Value.oneCell']) (by omega) (by omega) (by have := row_lt K4.out.p; have := K4.out.hp; omega) ?_
            intro v' w6 ho hg hbk hz
            rcases own_kinds ho with ⟨_, e0⟩ | ⟨g6, c6, e6, -, -⟩
            · omega
            subst e6
            have P6 := grown_row hg K4.out.p (fun e => own_oth9 K4.out.o.r K4.out.p (by decide) e.symm)
            have f6 := fun i => frozen_of_row _ _ i _ _ P6
            obtain ⟨x6, y6⟩ := cells2 P6
            have K6 : Hid (SK w (w6.setCell ⟨bp, 0, none⟩ (.slice (some ⟨g6, 0, none⟩) (n + 1) c6)) bp (.slice (some ⟨g6, 0, none⟩) (n + 1) c6) ls (S ++ [⟨v0, some ⟨g3, 0, none⟩, l.tail, c3⟩]) L (.slice (some ⟨gl, 0, none⟩) N lc) lines) := K4.out.route (by simp only; rw [HTL.out]; exact E4.out) D3.out hg (by
             rw [HN.out, rowR_app]
             have e9 : rowR [⟨v0, some ⟨g3, 0, none⟩, l.tail, c3⟩] = [.int .i64 v0, .slice (some ⟨g3, 0, none⟩) (k - 1) c3] := by simp only [rowR, rtCells, List.flatMap_cons, List.flatMap_nil, List.append_nil]; rw [HTL.out]
             rw [e9]
             exact ho)
            have Q6a : Hid (World.ownsRow w6 (w.heap.size + 1) 2 1 (.slice (some ⟨lg, 0, none⟩) k c) k (l.map (Value.int .i64))) := own_two Q4.out K4.out.o.r hg (by decide)
            have Q6 : Hid (World.ownsRow (w6.setCell ⟨bp, 0, none⟩ (.slice (some ⟨g6, 0, none⟩) (n + 1) c6)) (w.heap.size + 1) 2 1 (.slice (some ⟨lg, 0, none⟩) k c) k (l.map (Value.int .i64))) := own_box9 Q6a.out P6 (by decide)
            clear ho hg hbk hz
            refine hK.out _ _ ?_ (fun hHeld => ?_)
            · exact (own_cellV Q6a.out hl0).1
            clear hK K
            change wpAnyH _ _ _ _ _ _ _ (Act.put _ (some 63) _) _
            (try simp only [Act.put, List.setIfInBounds_toArray, List.set_cons_zero, List.set_cons_succ])
            refine tkH 12 hHeld ?_
            refine wpAnyH_ready (rs := [13]) (by kernel_rfl) (by simp) ?_
            refine AllReadyH.cons rfl (fun K hK => ?_) AllReadyH.nil
            go_simp
            refine hK.out _ _ ?_ (fun hHeld => ?_)
            · exact (own_cellV Q6.out hl0).1
            clear hK K
            (try simp only [Act.put, List.setIfInBounds_toArray, List.set_cons_zero, List.set_cons_succ])
            refine wpAnyH_done (by kernel_rfl) ?_ _
            generalize w6.setCell ⟨bp, 0, none⟩ (.slice (some ⟨g6, 0, none⟩) (n + 1) c6) = W6 at *
            go_wp2_with fail
            go_roundw
            case rel => exact ⟨j + 1, S ++ [⟨v0, some ⟨g3, 0, none⟩, l.tail, c3⟩], L, _, ls, by omega, by go_num, by rw [List.map_append]; exact HL2.out, by rw [List.length_append, HN.out]; simp; omega, by have h1 := HLL.out; have h2 := HS1.out; omega, fun r hr => by
             rcases List.mem_append.1 hr with hr | hr
             · exact HI.out r hr
             · rw [List.mem_singleton] at hr; subst hr; simp only; rw [HTL.out]; omega, K6.out⟩
            case measure => simp [intOf]; omega
          refine AllReadyH.cons rfl (fun K hK => ?_) AllReadyH.nil
          refine step_append_vals Tryz.underlying22 Tryz.info2 (by rfl) (by omega) rfl (.tmp 57) (.tmp 59) rfl V0.heap.size (.slice (some ⟨V0.heap.size, 0, none⟩) 0 0) 0 [] rfl E1.out lg 0 (k - 1) 0 (l.tail.map (Value.int .i64)) rfl (by rw [List.length_map, HTL.out, Nat.mul_one]) (tail_none HTN.out) (by intro u hu; obtain ⟨z, _, rfl⟩ := List.mem_map.1 hu; rfl) (by omega) (by omega) (by rw [S1.out]; omega) ?_
          intro v' w3 ho hg hbk hz
          rcases own_kinds ho with ⟨e0, _⟩ | ⟨g3, c3, e3, -, -⟩
          · exact absurd (hz.1 e0).1 (by simp)
          rw [Nat.zero_add] at e3
          subst e3
          have BX : Below V0.heap.size V0 w3 := BV.out.grown hg (by rw [S1.out]; omega) (fun g e => by simp [Value.ownBlock] at e; omega)
          have K3 : Hid (SK w w3 bp (.slice ra n rc) ls S L (.slice (some ⟨gl, 0, none⟩) N lc) lines) := K0.out.below BX
          have Q3 : Hid (World.ownsRow w3 (w.heap.size + 1) 2 1 (.slice (some ⟨lg, 0, none⟩) k c) k (l.map (Value.int .i64))) := owns_below Q0.out BX
          have E3 : Hid (w3.ownsRow (w.heap.size + 1) 2 1 (.slice (some ⟨g3, 0, none⟩) (k - 1) c3) (k - 1) (l.tail.map (Value.int .i64))) := by
           rw [Nat.zero_add, List.nil_append] at ho
           exact owns_base ho SZ.out
          have D3 : Hid (∀ g, (some ⟨g3, 0, none⟩ : Option Addr) = some ⟨g, 0, none⟩ -> ls.ownBlock ≠ some g) := fun g e e2 => by
           have := LT.out g e2
           simp at e
           rcases hbk with hbk | hbk <;> (simp [Value.ownBlock] at hbk; (try rw [S1.out] at hbk); omega)
          clear ho hg hbk hz BX
          refine hK.out _ _ ?_ (fun hHeld => ?_)
          · exact (own_cellV Q3.out hl0).1
          clear hK K
          change wpAnyH _ _ _ _ _ _ _ (Act.put _ (some 60) _) _
          (try simp only [Act.put, List.setIfInBounds_toArray, List.set_cons_zero, List.set_cons_succ])
          refine tkH 9 hHeld ?_
          refine wpAnyH_ready (rs := [1, 10]) (by kernel_rfl) (by simp) ?_
          refine AllReadyH.cons rfl (fun K hK => ?_) ?_
          · skip
            obtain ⟨z0, z1⟩ := cells2 K3.out.p
            go_simp
            refine hK.out _ _ ?_ (fun hHeld => ?_)
            · exact (own_cellV Q3.out hl0).1
            clear hK K
            clear z0 z1
            (try simp only [Act.put, List.setIfInBounds_toArray, List.set_cons_zero, List.set_cons_succ])
            refine wpAnyH_ready (rs := [10]) (by kernel_rfl) (by simp) ?_
            refine AllReadyH.cons rfl (fun K hK => ?_) AllReadyH.nil
            have K4 : Hid (SK w (w3.alloc (.cells #[.int .i64 v0, .slice (some ⟨g3, 0, none⟩) (k - 1) c3] 65)) bp (.slice ra n rc) ls S L (.slice (some ⟨gl, 0, none⟩) N lc) lines) := K3.out.below ((Below.refl _ _).alloc (Nat.le_refl _) _)
            have Q4 : Hid (World.ownsRow (w3.alloc (.cells #[.int .i64 v0, .slice (some ⟨g3, 0, none⟩) (k - 1) c3] 65)) (w.heap.size + 1) 2 1 (.slice (some ⟨lg, 0, none⟩) k c) k (l.map (Value.int .i64))) := Q3.out.alloc _
            have E4 : Hid (World.ownsRow (w3.alloc (.cells #[.int .i64 v0, .slice (some ⟨g3, 0, none⟩) (k - 1) c3] 65)) (w.heap.size + 1) 2 1 (.slice (some ⟨g3, 0, none⟩) (k - 1) c3) (k - 1) (l.tail.map (Value.int .i64))) := E3.out.alloc _
            have V4 : Hid ((w3.alloc (.cells #[.int .i64 v0, .slice (some ⟨g3, 0, none⟩) (k - 1) c3] 65)).heap[w3.heap.size]? = some (.cells #[.int .i64 v0, .slice (some ⟨g3, 0, none⟩) (k - 1) c3] 65 (0, 0))) := heap_alloc_new _ _
            go_simp
            refine hK.out _ _ ?_ (fun hHeld => ?_)
            · exact (own_cellV Q4.out hl0).1
            clear hK K
            generalize (w3.alloc (.cells #[.int .i64 v0, .slice (some ⟨g3, 0, none⟩) (k - 1) c3] 65)) = V4w at *
            generalize w3.heap.size = b4 at *
            (try simp only [Act.put, List.setIfInBounds_toArray, List.set_cons_zero, List.set_cons_succ])
            refine wpAnyH_ready (rs := [11]) (by kernel_rfl) (by simp) ?_
            refine AllReadyH.cons rfl (fun K hK => ?_) AllReadyH.nil
            refine step_append_vals Tryz.underlying29 infoRt9 (by rfl) (by omega) rfl (.tmp 53) (.tmp 62) rfl (w.heap.size + 1) (.slice ra n rc) n (rowR S) rfl (by have := K4.out.o.r; rw [HN.out] at this; exact this) b4 0 1 1 [.int .i64 v0, .slice (some ⟨g3, 0, none⟩) (k - 1) c3] rfl rfl (cells2_a9 _ _ _ _ _ V4.out) (by simp [Value.oneCell']) (by omega) (by omega) (by have := row_lt K4.out.p; have := K4.out.hp; omega) ?_
            intro v' w6 ho hg hbk hz
            rcases own_kinds ho with ⟨_, e0⟩ | ⟨g6, c6, e6, -, -⟩
            · omega
            subst e6
            have P6 := grown_row hg K4.out.p (fun e => own_oth9 K4.out.o.r K4.out.p (by decide) e.symm)
            have f6 := fun i => frozen_of_row _ _ i _ _ P6
            obtain ⟨x6, y6⟩ := cells2 P6
            have K6 : Hid (SK w (w6.setCell ⟨bp, 0, none⟩ (.slice (some ⟨g6, 0, none⟩) (n + 1) c6)) bp (.slice (some ⟨g6, 0, none⟩) (n + 1) c6) ls (S ++ [⟨v0, some ⟨g3, 0, none⟩, l.tail, c3⟩]) L (.slice (some ⟨gl, 0, none⟩) N lc) lines) := K4.out.route (by simp only; rw [HTL.out]; exact E4.out) D3.out hg (by
             rw [HN.out, rowR_app]
             have e9 : rowR [⟨v0, some ⟨g3, 0, none⟩, l.tail, c3⟩] = [.int .i64 v0, .slice (some ⟨g3, 0, none⟩) (k - 1) c3] := by simp only [rowR, rtCells, List.flatMap_cons, List.flatMap_nil, List.append_nil]; rw [HTL.out]
             rw [e9]
             exact ho)
            have Q6a : Hid (World.ownsRow w6 (w.heap.size + 1) 2 1 (.slice (some ⟨lg, 0, none⟩) k c) k (l.map (Value.int .i64))) := own_two Q4.out K4.out.o.r hg (by decide)
            have Q6 : Hid (World.ownsRow (w6.setCell ⟨bp, 0, none⟩ (.slice (some ⟨g6, 0, none⟩) (n + 1) c6)) (w.heap.size + 1) 2 1 (.slice (some ⟨lg, 0, none⟩) k c) k (l.map (Value.int .i64))) := own_box9 Q6a.out P6 (by decide)
            clear ho hg hbk hz
            refine hK.out _ _ ?_ (fun hHeld => ?_)
            · exact (own_cellV Q6a.out hl0).1
            clear hK K
            change wpAnyH _ _ _ _ _ _ _ (Act.put _ (some 63) _) _
            (try simp only [Act.put, List.setIfInBounds_toArray, List.set_cons_zero, List.set_cons_succ])
            refine tkH 12 hHeld ?_
            refine wpAnyH_ready (rs := [13]) (by kernel_rfl) (by simp) ?_
            refine AllReadyH.cons rfl (fun K hK => ?_) AllReadyH.nil
            go_simp
            refine hK.out _ _ ?_ (fun hHeld => ?_)
            · exact (own_cellV Q6.out hl0).1
            clear hK K
            (try simp only [Act.put, List.setIfInBounds_toArray, List.set_cons_zero, List.set_cons_succ])
            refine wpAnyH_done (by kernel_rfl) ?_ _
            generalize w6.setCell ⟨bp, 0, none⟩ (.slice (some ⟨g6, 0, none⟩) (n + 1) c6) = W6 at *
            go_wp2_with fail
            go_roundw
            case rel => exact ⟨j + 1, S ++ [⟨v0, some ⟨g3, 0, none⟩, l.tail, c3⟩], L, _, ls, by omega, by go_num, by rw [List.map_append]; exact HL2.out, by rw [List.length_append, HN.out]; simp; omega, by have h1 := HLL.out; have h2 := HS1.out; omega, fun r hr => by
             rcases List.mem_append.1 hr with hr | hr
             · exact HI.out r hr
             · rw [List.mem_singleton] at hr; subst hr; simp only; rw [HTL.out]; omega, K6.out⟩
            case measure => simp [intOf]; omega
          refine AllReadyH.cons rfl (fun K hK => ?_) AllReadyH.nil
          have K4 : Hid (SK w (w3.alloc (.cells #[.int .i64 v0, .slice (some ⟨g3, 0, none⟩) (k - 1) c3] 65)) bp (.slice ra n rc) ls S L (.slice (some ⟨gl, 0, none⟩) N lc) lines) := K3.out.below ((Below.refl _ _).alloc (Nat.le_refl _) _)
          have Q4 : Hid (World.ownsRow (w3.alloc (.cells #[.int .i64 v0, .slice (some ⟨g3, 0, none⟩) (k - 1) c3] 65)) (w.heap.size + 1) 2 1 (.slice (some ⟨lg, 0, none⟩) k c) k (l.map (Value.int .i64))) := Q3.out.alloc _
          have E4 : Hid (World.ownsRow (w3.alloc (.cells #[.int .i64 v0, .slice (some ⟨g3, 0, none⟩) (k - 1) c3] 65)) (w.heap.size + 1) 2 1 (.slice (some ⟨g3, 0, none⟩) (k - 1) c3) (k - 1) (l.tail.map (Value.int .i64))) := E3.out.alloc _
          have V4 : Hid ((w3.alloc (.cells #[.int .i64 v0, .slice (some ⟨g3, 0, none⟩) (k - 1) c3] 65)).heap[w3.heap.size]? = some (.cells #[.int .i64 v0, .slice (some ⟨g3, 0, none⟩) (k - 1) c3] 65 (0, 0))) := heap_alloc_new _ _
          go_simp
          refine hK.out _ _ ?_ (fun hHeld => ?_)
          · exact (own_cellV Q4.out hl0).1
          clear hK K
          generalize (w3.alloc (.cells #[.int .i64 v0, .slice (some ⟨g3, 0, none⟩) (k - 1) c3] 65)) = V4w at *
          generalize w3.heap.size = b4 at *
          (try simp only [Act.put, List.setIfInBounds_toArray, List.set_cons_zero, List.set_cons_succ])
          refine wpAnyH_ready (rs := [1]) (by kernel_rfl) (by simp) ?_
          refine AllReadyH.cons rfl (fun K hK => ?_) AllReadyH.nil
          obtain ⟨z0, z1⟩ := cells2 K4.out.p
          go_simp
          refine hK.out _ _ ?_ (fun hHeld => ?_)
          · exact (own_cellV Q4.out hl0).1
          clear hK K
          clear z0 z1
          (try simp only [Act.put, List.setIfInBounds_toArray, List.set_cons_zero, List.set_cons_succ])
          refine wpAnyH_ready (rs := [11]) (by kernel_rfl) (by simp) ?_
          refine AllReadyH.cons rfl (fun K hK => ?_) AllReadyH.nil
          refine step_append_vals Tryz.underlying29 infoRt9 (by rfl) (by omega) rfl (.tmp 53) (.tmp 62) rfl (w.heap.size + 1) (.slice ra n rc) n (rowR S) rfl (by have := K4.out.o.r; rw [HN.out] at this; exact this) b4 0 1 1 [.int .i64 v0, .slice (some ⟨g3, 0, none⟩) (k - 1) c3] rfl rfl (cells2_a9 _ _ _ _ _ V4.out) (by simp [Value.oneCell']) (by omega) (by omega) (by have := row_lt K4.out.p; have := K4.out.hp; omega) ?_
          intro v' w6 ho hg hbk hz
          rcases own_kinds ho with ⟨_, e0⟩ | ⟨g6, c6, e6, -, -⟩
          · omega
          subst e6
          have P6 := grown_row hg K4.out.p (fun e => own_oth9 K4.out.o.r K4.out.p (by decide) e.symm)
          have f6 := fun i => frozen_of_row _ _ i _ _ P6
          obtain ⟨x6, y6⟩ := cells2 P6
          have K6 : Hid (SK w (w6.setCell ⟨bp, 0, none⟩ (.slice (some ⟨g6, 0, none⟩) (n + 1) c6)) bp (.slice (some ⟨g6, 0, none⟩) (n + 1) c6) ls (S ++ [⟨v0, some ⟨g3, 0, none⟩, l.tail, c3⟩]) L (.slice (some ⟨gl, 0, none⟩) N lc) lines) := K4.out.route (by simp only; rw [HTL.out]; exact E4.out) D3.out hg (by
           rw [HN.out, rowR_app]
           have e9 : rowR [⟨v0, some ⟨g3, 0, none⟩, l.tail, c3⟩] = [.int .i64 v0, .slice (some ⟨g3, 0, none⟩) (k - 1) c3] := by simp only [rowR, rtCells, List.flatMap_cons, List.flatMap_nil, List.append_nil]; rw [HTL.out]
           rw [e9]
           exact ho)
          have Q6a : Hid (World.ownsRow w6 (w.heap.size + 1) 2 1 (.slice (some ⟨lg, 0, none⟩) k c) k (l.map (Value.int .i64))) := own_two Q4.out K4.out.o.r hg (by decide)
          have Q6 : Hid (World.ownsRow (w6.setCell ⟨bp, 0, none⟩ (.slice (some ⟨g6, 0, none⟩) (n + 1) c6)) (w.heap.size + 1) 2 1 (.slice (some ⟨lg, 0, none⟩) k c) k (l.map (Value.int .i64))) := own_box9 Q6a.out P6 (by decide)
          clear ho hg hbk hz
          refine hK.out _ _ ?_ (fun hHeld => ?_)
          · exact (own_cellV Q6a.out hl0).1
          clear hK K
          change wpAnyH _ _ _ _ _ _ _ (Act.put _ (some 63) _) _
          (try simp only [Act.put, List.setIfInBounds_toArray, List.set_cons_zero, List.set_cons_succ])
          refine tkH 12 hHeld ?_
          refine wpAnyH_ready (rs := [13]) (by kernel_rfl) (by simp) ?_
          refine AllReadyH.cons rfl (fun K hK => ?_) AllReadyH.nil
          go_simp
          refine hK.out _ _ ?_ (fun hHeld => ?_)
          · exact (own_cellV Q6.out hl0).1
          clear hK K
          (try simp only [Act.put, List.setIfInBounds_toArray, List.set_cons_zero, List.set_cons_succ])
          refine wpAnyH_done (by kernel_rfl) ?_ _
          generalize w6.setCell ⟨bp, 0, none⟩ (.slice (some ⟨g6, 0, none⟩) (n + 1) c6) = W6 at *
          go_wp2_with fail
          go_roundw
          case rel => exact ⟨j + 1, S ++ [⟨v0, some ⟨g3, 0, none⟩, l.tail, c3⟩], L, _, ls, by omega, by go_num, by rw [List.map_append]; exact HL2.out, by rw [List.length_append, HN.out]; simp; omega, by have h1 := HLL.out; have h2 := HS1.out; omega, fun r hr => by
           rcases List.mem_append.1 hr with hr | hr
           · exact HI.out r hr
           · rw [List.mem_singleton] at hr; subst hr; simp only; rw [HTL.out]; omega, K6.out⟩
          case measure => simp [intOf]; omega
        · go_wp2_with fail
          refine wp_region_held_drew (S := (fun W => W.cell? ⟨lg, 0, none⟩ = some (.int .i64 v0))) (by kernel_rfl) ?_ (fun hHeld => ?_)
          · exact (own_cellV Q2.out hl0).1
          have K0 : Hid (SK w w2.drew bp (.slice ra n rc) ls S L (.slice (some ⟨gl, 0, none⟩) N lc) lines) := K2.out.below (Below.refl _ _).drew
          have Q0 : Hid (World.ownsRow w2.drew (w.heap.size + 1) 2 1 (.slice (some ⟨lg, 0, none⟩) k c) k (l.map (Value.int .i64))) := owns_below Q2.out (Below.refl _ _).drew
          clear K2 Q2
          generalize w2.drew = V0 at *
          refine tkH 0 hHeld ?_
          refine tkH 2 hHeld ?_
          refine tkH 3 hHeld ?_
          refine tkH 4 hHeld ?_
          refine tkH 6 hHeld ?_
          refine tkH 7 hHeld ?_
          refine wpAnyH_ready (rs := [1, 5]) (by kernel_rfl) (by simp) ?_
          refine AllReadyH.cons rfl (fun K hK => ?_) ?_
          · skip
            obtain ⟨z0, z1⟩ := cells2 K0.out.p
            go_simp
            refine hK.out _ _ ?_ (fun hHeld => ?_)
            · exact (own_cellV Q0.out hl0).1
            clear hK K
            clear z0 z1
            (try simp only [Act.put, List.setIfInBounds_toArray, List.set_cons_zero, List.set_cons_succ])
            refine wpAnyH_ready (rs := [5]) (by kernel_rfl) (by simp) ?_
            refine AllReadyH.cons rfl (fun K hK => ?_) AllReadyH.nil
            have K1 : Hid (SK w (V0.alloc (.cells #[] 2)) bp (.slice ra n rc) ls S L (.slice (some ⟨gl, 0, none⟩) N lc) lines) := K0.out.below ((Below.refl _ _).alloc (Nat.le_refl _) _)
            have Q1 : Hid (World.ownsRow (V0.alloc (.cells #[] 2)) (w.heap.size + 1) 2 1 (.slice (some ⟨lg, 0, none⟩) k c) k (l.map (Value.int .i64))) := Q0.out.alloc _
            have E1 : Hid (World.ownsRow (V0.alloc (.cells #[] 2)) V0.heap.size 2 1 (.slice (some ⟨V0.heap.size, 0, none⟩) 0 0) 0 []) := World.ownsRow_made V0 #[] 0 (Nat.le_refl _) (by unfold maxLen; omega) (by simp)
            have LT : Hid (∀ g, ls.ownBlock = some g -> g < V0.heap.size) := fun g e => (K0.out.o.l.lt g e).2
            have SZ : Hid (w.heap.size + 1 <= V0.heap.size) := by have := row_lt K0.out.p; have := K0.out.hp; show _ <= _; omega
            have S1 : Hid (Array.size (World.heap (V0.alloc (.cells #[] 2))) = V0.heap.size + 1) := by show _ = _; simp
            have BV : Hid (Below V0.heap.size V0 (V0.alloc (.cells #[] 2))) := (Below.refl _ _).alloc (Nat.le_refl _) _
            go_simp
            refine hK.out _ _ ?_ (fun hHeld => ?_)
            · exact (own_cellV Q1.out hl0).1
            clear hK K
            generalize (V0.alloc (.cells #[] 2)) = V1 at *
            (try simp only [Act.put, List.setIfInBounds_toArray, List.set_cons_zero, List.set_cons_succ])
            refine wpAnyH_ready (rs := [8]) (by kernel_rfl) (by simp) ?_
            refine AllReadyH.cons rfl (fun K hK => ?_) AllReadyH.nil
            refine step_append_vals Tryz.underlying22 Tryz.info2 (by rfl) (by omega) rfl (.tmp 57) (.tmp 59) rfl V0.heap.size (.slice (some ⟨V0.heap.size, 0, none⟩) 0 0) 0 [] rfl E1.out lg 1 (k - 1) (c - 1) (l.tail.map (Value.int .i64)) rfl (by rw [List.length_map, HTL.out, Nat.mul_one]) (tail_cells (cut_one (owns_ints Q1.out))) (by intro u hu; obtain ⟨z, _, rfl⟩ := List.mem_map.1 hu; rfl) (by omega) (by omega) (by rw [S1.out]; omega) ?_
            intro v' w3 ho hg hbk hz
            rcases own_kinds ho with ⟨e0, _⟩ | ⟨g3, c3, e3, -, -⟩
            · exact absurd (hz.1 e0).1 (by simp)
            rw [Nat.zero_add] at e3
            subst e3
            have BX : Below V0.heap.size V0 w3 := BV.out.grown hg (by rw [S1.out]; omega) (fun g e => by simp [Value.ownBlock] at e; omega)
            have K3 : Hid (SK w w3 bp (.slice ra n rc) ls S L (.slice (some ⟨gl, 0, none⟩) N lc) lines) := K0.out.below BX
            have Q3 : Hid (World.ownsRow w3 (w.heap.size + 1) 2 1 (.slice (some ⟨lg, 0, none⟩) k c) k (l.map (Value.int .i64))) := owns_below Q0.out BX
            have E3 : Hid (w3.ownsRow (w.heap.size + 1) 2 1 (.slice (some ⟨g3, 0, none⟩) (k - 1) c3) (k - 1) (l.tail.map (Value.int .i64))) := by
             rw [Nat.zero_add, List.nil_append] at ho
             exact owns_base ho SZ.out
            have D3 : Hid (∀ g, (some ⟨g3, 0, none⟩ : Option Addr) = some ⟨g, 0, none⟩ -> ls.ownBlock ≠ some g) := fun g e e2 => by
             have := LT.out g e2
             simp at e
             rcases hbk with hbk | hbk <;> (simp [Value.ownBlock] at hbk; (try rw [S1.out] at hbk); omega)
            clear ho hg hbk hz BX
            refine hK.out _ _ ?_ (fun hHeld => ?_)
            · exact (own_cellV Q3.out hl0).1
            clear hK K
            change wpAnyH _ _ _ _ _ _ _ (Act.put _ (some 60) _) _
            (try simp only [Act.put, List.setIfInBounds_toArray, List.set_cons_zero, List.set_cons_succ])
            refine tkH 9 hHeld ?_
            refine wpAnyH_ready (rs := [10]) (by kernel_rfl) (by simp) ?_
            refine AllReadyH.cons rfl (fun K hK => ?_) AllReadyH.nil
            have K4 : Hid (SK w (w3.alloc (.cells #[.int .i64 v0, .slice (some ⟨g3, 0, none⟩) (k - 1) c3] 65)) bp (.slice ra n rc) ls S L (.slice (some ⟨gl, 0, none⟩) N lc) lines) := K3.out.below ((Below.refl _ _).alloc (Nat.le_refl _) _)
            have Q4 : Hid (World.ownsRow (w3.alloc (.cells #[.int .i64 v0, .slice (some ⟨g3, 0, none⟩) (k - 1) c3] 65)) (w.heap.size + 1) 2 1 (.slice (some ⟨lg, 0, none⟩) k c) k (l.map (Value.int .i64))) := Q3.out.alloc _
            have E4 : Hid (World.ownsRow (w3.alloc (.cells #[.int .i64 v0, .slice (some ⟨g3, 0, none⟩) (k - 1) c3] 65)) (w.heap.size + 1) 2 1 (.slice (some ⟨g3, 0, none⟩) (k - 1) c3) (k - 1) (l.tail.map (Value.int .i64))) := E3.out.alloc _
            have V4 : Hid ((w3.alloc (.cells #[.int .i64 v0, .slice (some ⟨g3, 0, none⟩) (k - 1) c3] 65)).heap[w3.heap.size]? = some (.cells #[.int .i64 v0, .slice (some ⟨g3, 0, none⟩) (k - 1) c3] 65 (0, 0))) := heap_alloc_new _ _
            go_simp
            refine hK.out _ _ ?_ (fun hHeld => ?_)
            · exact (own_cellV Q4.out hl0).1
            clear hK K
            generalize (w3.alloc (.cells #[.int .i64 v0, .slice (some ⟨g3, 0, none⟩) (k - 1) c3] 65)) = V4w at *
            generalize w3.heap.size = b4 at *
            (try simp only [Act.put, List.setIfInBounds_toArray, List.set_cons_zero, List.set_cons_succ])
            refine wpAnyH_ready (rs := [11]) (by kernel_rfl) (by simp) ?_
            refine AllReadyH.cons rfl (fun K hK => ?_) AllReadyH.nil
            refine step_append_vals Tryz.underlying29 infoRt9 (by rfl) (by omega) rfl (.tmp 53) (.tmp 62) rfl (w.heap.size + 1) (.slice ra n rc) n (rowR S) rfl (by have := K4.out.o.r; rw [HN.out] at this; exact this) b4 0 1 1 [.int .i64 v0, .slice (some ⟨g3, 0, none⟩) (k - 1) c3] rfl rfl (cells2_a9 _ _ _ _ _ V4.out) (by simp [Value.oneCell']) (by omega) (by omega) (by have := row_lt K4.out.p; have := K4.out.hp; omega) ?_
            intro v' w6 ho hg hbk hz
            rcases own_kinds ho with ⟨_, e0⟩ | ⟨g6, c6, e6, -, -⟩
            · omega
            subst e6
            have P6 := grown_row hg K4.out.p (fun e => own_oth9 K4.out.o.r K4.out.p (by decide) e.symm)
            have f6 := fun i => frozen_of_row _ _ i _ _ P6
            obtain ⟨x6, y6⟩ := cells2 P6
            have K6 : Hid (SK w (w6.setCell ⟨bp, 0, none⟩ (.slice (some ⟨g6, 0, none⟩) (n + 1) c6)) bp (.slice (some ⟨g6, 0, none⟩) (n + 1) c6) ls (S ++ [⟨v0, some ⟨g3, 0, none⟩, l.tail, c3⟩]) L (.slice (some ⟨gl, 0, none⟩) N lc) lines) := K4.out.route (by simp only; rw [HTL.out]; exact E4.out) D3.out hg (by
             rw [HN.out, rowR_app]
             have e9 : rowR [⟨v0, some ⟨g3, 0, none⟩, l.tail, c3⟩] = [.int .i64 v0, .slice (some ⟨g3, 0, none⟩) (k - 1) c3] := by simp only [rowR, rtCells, List.flatMap_cons, List.flatMap_nil, List.append_nil]; rw [HTL.out]
             rw [e9]
             exact ho)
            have Q6a : Hid (World.ownsRow w6 (w.heap.size + 1) 2 1 (.slice (some ⟨lg, 0, none⟩) k c) k (l.map (Value.int .i64))) := own_two Q4.out K4.out.o.r hg (by decide)
            have Q6 : Hid (World.ownsRow (w6.setCell ⟨bp, 0, none⟩ (.slice (some ⟨g6, 0, none⟩) (n + 1) c6)) (w.heap.size + 1) 2 1 (.slice (some ⟨lg, 0, none⟩) k c) k (l.map (Value.int .i64))) := own_box9 Q6a.out P6 (by decide)
            clear ho hg hbk hz
            refine hK.out _ _ ?_ (fun hHeld => ?_)
            · exact (own_cellV Q6a.out hl0).1
            clear hK K
            change wpAnyH _ _ _ _ _ _ _ (Act.put _ (some 63) _) _
            (try simp only [Act.put, List.setIfInBounds_toArray, List.set_cons_zero, List.set_cons_succ])
            refine tkH 12 hHeld ?_
            refine wpAnyH_ready (rs := [13]) (by kernel_rfl) (by simp) ?_
            refine AllReadyH.cons rfl (fun K hK => ?_) AllReadyH.nil
            go_simp
            refine hK.out _ _ ?_ (fun hHeld => ?_)
            · exact (own_cellV Q6.out hl0).1
            clear hK K
            (try simp only [Act.put, List.setIfInBounds_toArray, List.set_cons_zero, List.set_cons_succ])
            refine wpAnyH_done (by kernel_rfl) ?_ _
            generalize w6.setCell ⟨bp, 0, none⟩ (.slice (some ⟨g6, 0, none⟩) (n + 1) c6) = W6 at *
            go_wp2_with fail
            go_roundw
            case rel => exact ⟨j + 1, S ++ [⟨v0, some ⟨g3, 0, none⟩, l.tail, c3⟩], L, _, ls, by omega, by go_num, by rw [List.map_append]; exact HL2.out, by rw [List.length_append, HN.out]; simp; omega, by have h1 := HLL.out; have h2 := HS1.out; omega, fun r hr => by
             rcases List.mem_append.1 hr with hr | hr
             · exact HI.out r hr
             · rw [List.mem_singleton] at hr; subst hr; simp only; rw [HTL.out]; omega, K6.out⟩
            case measure => simp [intOf]; omega
          refine AllReadyH.cons rfl (fun K hK => ?_) AllReadyH.nil
          have K1 : Hid (SK w (V0.alloc (.cells #[] 2)) bp (.slice ra n rc) ls S L (.slice (some ⟨gl, 0, none⟩) N lc) lines) := K0.out.below ((Below.refl _ _).alloc (Nat.le_refl _) _)
          have Q1 : Hid (World.ownsRow (V0.alloc (.cells #[] 2)) (w.heap.size + 1) 2 1 (.slice (some ⟨lg, 0, none⟩) k c) k (l.map (Value.int .i64))) := Q0.out.alloc _
          have E1 : Hid (World.ownsRow (V0.alloc (.cells #[] 2)) V0.heap.size 2 1 (.slice (some ⟨V0.heap.size, 0, none⟩) 0 0) 0 []) := World.ownsRow_made V0 #[] 0 (Nat.le_refl _) (by unfold maxLen; omega) (by simp)
          have LT : Hid (∀ g, ls.ownBlock = some g -> g < V0.heap.size) := fun g e => (K0.out.o.l.lt g e).2
          have SZ : Hid (w.heap.size + 1 <= V0.heap.size) := by have := row_lt K0.out.p; have := K0.out.hp; show _ <= _; omega
          have S1 : Hid (Array.size (World.heap (V0.alloc (.cells #[] 2))) = V0.heap.size + 1) := by show _ = _; simp
          have BV : Hid (Below V0.heap.size V0 (V0.alloc (.cells #[] 2))) := (Below.refl _ _).alloc (Nat.le_refl _) _
          go_simp
          refine hK.out _ _ ?_ (fun hHeld => ?_)
          · exact (own_cellV Q1.out hl0).1
          clear hK K
          generalize (V0.alloc (.cells #[] 2)) = V1 at *
          (try simp only [Act.put, List.setIfInBounds_toArray, List.set_cons_zero, List.set_cons_succ])
          refine wpAnyH_ready (rs := [1, 8]) (by kernel_rfl) (by simp) ?_
          refine AllReadyH.cons rfl (fun K hK => ?_) ?_
          · skip
            obtain ⟨z0, z1⟩ := cells2 K1.out.p
            go_simp
            refine hK.out _ _ ?_ (fun hHeld => ?_)
            · exact (own_cellV Q1.out hl0).1
            clear hK K
            clear z0 z1
            (try simp only [Act.put, List.setIfInBounds_toArray, List.set_cons_zero, List.set_cons_succ])
            refine wpAnyH_ready (rs := [8]) (by kernel_rfl) (by simp) ?_
            refine AllReadyH.cons rfl (fun K hK => ?_) AllReadyH.nil
            refine step_append_vals Tryz.underlying22 Tryz.info2 (by rfl) (by omega) rfl (.tmp 57) (.tmp 59) rfl V0.heap.size (.slice (some ⟨V0.heap.size, 0, none⟩) 0 0) 0 [] rfl E1.out lg 1 (k - 1) (c - 1) (l.tail.map (Value.int .i64)) rfl (by rw [List.length_map, HTL.out, Nat.mul_one]) (tail_cells (cut_one (owns_ints Q1.out))) (by intro u hu; obtain ⟨z, _, rfl⟩ := List.mem_map.1 hu; rfl) (by omega) (by omega) (by rw [S1.out]; omega) ?_
            intro v' w3 ho hg hbk hz
            rcases own_kinds ho with ⟨e0, _⟩ | ⟨g3, c3, e3, -, -⟩
            · exact absurd (hz.1 e0).1 (by simp)
            rw [Nat.zero_add] at e3
            subst e3
            have BX : Below V0.heap.size V0 w3 := BV.out.grown hg (by rw [S1.out]; omega) (fun g e => by simp [Value.ownBlock] at e; omega)
            have K3 : Hid (SK w w3 bp (.slice ra n rc) ls S L (.slice (some ⟨gl, 0, none⟩) N lc) lines) := K0.out.below BX
            have Q3 : Hid (World.ownsRow w3 (w.heap.size + 1) 2 1 (.slice (some ⟨lg, 0, none⟩) k c) k (l.map (Value.int .i64))) := owns_below Q0.out BX
            have E3 : Hid (w3.ownsRow (w.heap.size + 1) 2 1 (.slice (some ⟨g3, 0, none⟩) (k - 1) c3) (k - 1) (l.tail.map (Value.int .i64))) := by
             rw [Nat.zero_add, List.nil_append] at ho
             exact owns_base ho SZ.out
            have D3 : Hid (∀ g, (some ⟨g3, 0, none⟩ : Option Addr) = some ⟨g, 0, none⟩ -> ls.ownBlock ≠ some g) := fun g e e2 => by
             have := LT.out g e2
             simp at e
             rcases hbk with hbk | hbk <;> (simp [Value.ownBlock] at hbk; (try rw [S1.out] at hbk); omega)
            clear ho hg hbk hz BX
            refine hK.out _ _ ?_ (fun hHeld => ?_)
            · exact (own_cellV Q3.out hl0).1
            clear hK K
            change wpAnyH _ _ _ _ _ _ _ (Act.put _ (some 60) _) _
            (try simp only [Act.put, List.setIfInBounds_toArray, List.set_cons_zero, List.set_cons_succ])
            refine tkH 9 hHeld ?_
            refine wpAnyH_ready (rs := [10]) (by kernel_rfl) (by simp) ?_
            refine AllReadyH.cons rfl (fun K hK => ?_) AllReadyH.nil
            have K4 : Hid (SK w (w3.alloc (.cells #[.int .i64 v0, .slice (some ⟨g3, 0, none⟩) (k - 1) c3] 65)) bp (.slice ra n rc) ls S L (.slice (some ⟨gl, 0, none⟩) N lc) lines) := K3.out.below ((Below.refl _ _).alloc (Nat.le_refl _) _)
            have Q4 : Hid (World.ownsRow (w3.alloc (.cells #[.int .i64 v0, .slice (some ⟨g3, 0, none⟩) (k - 1) c3] 65)) (w.heap.size + 1) 2 1 (.slice (some ⟨lg, 0, none⟩) k c) k (l.map (Value.int .i64))) := Q3.out.alloc _
            have E4 : Hid (World.ownsRow (w3.alloc (.cells #[.int .i64 v0, .slice (some ⟨g3, 0, none⟩) (k - 1) c3] 65)) (w.heap.size + 1) 2 1 (.slice (some ⟨g3, 0, none⟩) (k - 1) c3) (k - 1) (l.tail.map (Value.int .i64))) := E3.out.alloc _
            have V4 : Hid ((w3.alloc (.cells #[.int .i64 v0, .slice (some ⟨g3, 0, none⟩) (k - 1) c3] 65)).heap[w3.heap.size]? = some (.cells #[.int .i64 v0, .slice (some ⟨g3, 0, none⟩) (k - 1) c3] 65 (0, 0))) := heap_alloc_new _ _
            go_simp
            refine hK.out _ _ ?_ (fun hHeld => ?_)
            · exact (own_cellV Q4.out hl0).1
            clear hK K
            generalize (w3.alloc (.cells #[.int .i64 v0, .slice (some ⟨g3, 0, none⟩) (k - 1) c3] 65)) = V4w at *
            generalize w3.heap.size = b4 at *
            (try simp only [Act.put, List.setIfInBounds_toArray, List.set_cons_zero, List.set_cons_succ])
            refine wpAnyH_ready (rs := [11]) (by kernel_rfl) (by simp) ?_
            refine AllReadyH.cons rfl (fun K hK => ?_) AllReadyH.nil
            refine step_append_vals Tryz.underlying29 infoRt9 (by rfl) (by omega) rfl (.tmp 53) (.tmp 62) rfl (w.heap.size + 1) (.slice ra n rc) n (rowR S) rfl (by have := K4.out.o.r; rw [HN.out] at this; exact this) b4 0 1 1 [.int .i64 v0, .slice (some ⟨g3, 0, none⟩) (k - 1) c3] rfl rfl (cells2_a9 _ _ _ _ _ V4.out) (by simp [Value.oneCell']) (by omega) (by omega) (by have := row_lt K4.out.p; have := K4.out.hp; omega) ?_
            intro v' w6 ho hg hbk hz
            rcases own_kinds ho with ⟨_, e0⟩ | ⟨g6, c6, e6, -, -⟩
            · omega
            subst e6
            have P6 := grown_row hg K4.out.p (fun e => own_oth9 K4.out.o.r K4.out.p (by decide) e.symm)
            have f6 := fun i => frozen_of_row _ _ i _ _ P6
            obtain ⟨x6, y6⟩ := cells2 P6
            have K6 : Hid (SK w (w6.setCell ⟨bp, 0, none⟩ (.slice (some ⟨g6, 0, none⟩) (n + 1) c6)) bp (.slice (some ⟨g6, 0, none⟩) (n + 1) c6) ls (S ++ [⟨v0, some ⟨g3, 0, none⟩, l.tail, c3⟩]) L (.slice (some ⟨gl, 0, none⟩) N lc) lines) := K4.out.route (by simp only; rw [HTL.out]; exact E4.out) D3.out hg (by
             rw [HN.out, rowR_app]
             have e9 : rowR [⟨v0, some ⟨g3, 0, none⟩, l.tail, c3⟩] = [.int .i64 v0, .slice (some ⟨g3, 0, none⟩) (k - 1) c3] := by simp only [rowR, rtCells, List.flatMap_cons, List.flatMap_nil, List.append_nil]; rw [HTL.out]
             rw [e9]
             exact ho)
            have Q6a : Hid (World.ownsRow w6 (w.heap.size + 1) 2 1 (.slice (some ⟨lg, 0, none⟩) k c) k (l.map (Value.int .i64))) := own_two Q4.out K4.out.o.r hg (by decide)
            have Q6 : Hid (World.ownsRow (w6.setCell ⟨bp, 0, none⟩ (.slice (some ⟨g6, 0, none⟩) (n + 1) c6)) (w.heap.size + 1) 2 1 (.slice (some ⟨lg, 0, none⟩) k c) k (l.map (Value.int .i64))) := own_box9 Q6a.out P6 (by decide)
            clear ho hg hbk hz
            refine hK.out _ _ ?_ (fun hHeld => ?_)
            · exact (own_cellV Q6a.out hl0).1
            clear hK K
            change wpAnyH _ _ _ _ _ _ _ (Act.put _ (some 63) _) _
            (try simp only [Act.put, List.setIfInBounds_toArray, List.set_cons_zero, List.set_cons_succ])
            refine tkH 12 hHeld ?_
            refine wpAnyH_ready (rs := [13]) (by kernel_rfl) (by simp) ?_
            refine AllReadyH.cons rfl (fun K hK => ?_) AllReadyH.nil
            go_simp
            refine hK.out _ _ ?_ (fun hHeld => ?_)
            · exact (own_cellV Q6.out hl0).1
            clear hK K
            (try simp only [Act.put, List.setIfInBounds_toArray, List.set_cons_zero, List.set_cons_succ])
            refine wpAnyH_done (by kernel_rfl) ?_ _
            generalize w6.setCell ⟨bp, 0, none⟩ (.slice (some ⟨g6, 0, none⟩) (n + 1) c6) = W6 at *
            go_wp2_with fail
            go_roundw
            case rel => exact ⟨j + 1, S ++ [⟨v0, some ⟨g3, 0, none⟩, l.tail, c3⟩], L, _, ls, by omega, by go_num, by rw [List.map_append]; exact HL2.out, by rw [List.length_append, HN.out]; simp; omega, by have h1 := HLL.out; have h2 := HS1.out; omega, fun r hr => by
             rcases List.mem_append.1 hr with hr | hr
             · exact HI.out r hr
             · rw [List.mem_singleton] at hr; subst hr; simp only; rw [HTL.out]; omega, K6.out⟩
            case measure => simp [intOf]; omega
          refine AllReadyH.cons rfl (fun K hK => ?_) AllReadyH.nil
          refine step_append_vals Tryz.underlying22 Tryz.info2 (by rfl) (by omega) rfl (.tmp 57) (.tmp 59) rfl V0.heap.size (.slice (some ⟨V0.heap.size, 0, none⟩) 0 0) 0 [] rfl E1.out lg 1 (k - 1) (c - 1) (l.tail.map (Value.int .i64)) rfl (by rw [List.length_map, HTL.out, Nat.mul_one]) (tail_cells (cut_one (owns_ints Q1.out))) (by intro u hu; obtain ⟨z, _, rfl⟩ := List.mem_map.1 hu; rfl) (by omega) (by omega) (by rw [S1.out]; omega) ?_
          intro v' w3 ho hg hbk hz
          rcases own_kinds ho with ⟨e0, _⟩ | ⟨g3, c3, e3, -, -⟩
          · exact absurd (hz.1 e0).1 (by simp)
          rw [Nat.zero_add] at e3
          subst e3
          have BX : Below V0.heap.size V0 w3 := BV.out.grown hg (by rw [S1.out]; omega) (fun g e => by simp [Value.ownBlock] at e; omega)
          have K3 : Hid (SK w w3 bp (.slice ra n rc) ls S L (.slice (some ⟨gl, 0, none⟩) N lc) lines) := K0.out.below BX
          have Q3 : Hid (World.ownsRow w3 (w.heap.size + 1) 2 1 (.slice (some ⟨lg, 0, none⟩) k c) k (l.map (Value.int .i64))) := owns_below Q0.out BX
          have E3 : Hid (w3.ownsRow (w.heap.size + 1) 2 1 (.slice (some ⟨g3, 0, none⟩) (k - 1) c3) (k - 1) (l.tail.map (Value.int .i64))) := by
           rw [Nat.zero_add, List.nil_append] at ho
           exact owns_base ho SZ.out
          have D3 : Hid (∀ g, (some ⟨g3, 0, none⟩ : Option Addr) = some ⟨g, 0, none⟩ -> ls.ownBlock ≠ some g) := fun g e e2 => by
           have := LT.out g e2
           simp at e
           rcases hbk with hbk | hbk <;> (simp [Value.ownBlock] at hbk; (try rw [S1.out] at hbk); omega)
          clear ho hg hbk hz BX
          refine hK.out _ _ ?_ (fun hHeld => ?_)
          · exact (own_cellV Q3.out hl0).1
          clear hK K
          change wpAnyH _ _ _ _ _ _ _ (Act.put _ (some 60) _) _
          (try simp only [Act.put, List.setIfInBounds_toArray, List.set_cons_zero, List.set_cons_succ])
          refine tkH 9 hHeld ?_
          refine wpAnyH_ready (rs := [1, 10]) (by kernel_rfl) (by simp) ?_
          refine AllReadyH.cons rfl (fun K hK => ?_) ?_
          · skip
            obtain ⟨z0, z1⟩ := cells2 K3.out.p
            go_simp
            refine hK.out _ _ ?_ (fun hHeld => ?_)
            · exact (own_cellV Q3.out hl0).1
            clear hK K
            clear z0 z1
            (try simp only [Act.put, List.setIfInBounds_toArray, List.set_cons_zero, List.set_cons_succ])
            refine wpAnyH_ready (rs := [10]) (by kernel_rfl) (by simp) ?_
            refine AllReadyH.cons rfl (fun K hK => ?_) AllReadyH.nil
            have K4 : Hid (SK w (w3.alloc (.cells #[.int .i64 v0, .slice (some ⟨g3, 0, none⟩) (k - 1) c3] 65)) bp (.slice ra n rc) ls S L (.slice (some ⟨gl, 0, none⟩) N lc) lines) := K3.out.below ((Below.refl _ _).alloc (Nat.le_refl _) _)
            have Q4 : Hid (World.ownsRow (w3.alloc (.cells #[.int .i64 v0, .slice (some ⟨g3, 0, none⟩) (k - 1) c3] 65)) (w.heap.size + 1) 2 1 (.slice (some ⟨lg, 0, none⟩) k c) k (l.map (Value.int .i64))) := Q3.out.alloc _
            have E4 : Hid (World.ownsRow (w3.alloc (.cells #[.int .i64 v0, .slice (some ⟨g3, 0, none⟩) (k - 1) c3] 65)) (w.heap.size + 1) 2 1 (.slice (some ⟨g3, 0, none⟩) (k - 1) c3) (k - 1) (l.tail.map (Value.int .i64))) := E3.out.alloc _
            have V4 : Hid ((w3.alloc (.cells #[.int .i64 v0, .slice (some ⟨g3, 0, none⟩) (k - 1) c3] 65)).heap[w3.heap.size]? = some (.cells #[.int .i64 v0, .slice (some ⟨g3, 0, none⟩) (k - 1) c3] 65 (0, 0))) := heap_alloc_new _ _
            go_simp
            refine hK.out _ _ ?_ (fun hHeld => ?_)
            · exact (own_cellV Q4.out hl0).1
            clear hK K
            generalize (w3.alloc (.cells #[.int .i64 v0, .slice (some ⟨g3, 0, none⟩) (k - 1) c3] 65)) = V4w at *
            generalize w3.heap.size = b4 at *
            (try simp only [Act.put, List.setIfInBounds_toArray, List.set_cons_zero, List.set_cons_succ])
            refine wpAnyH_ready (rs := [11]) (by kernel_rfl) (by simp) ?_
            refine AllReadyH.cons rfl (fun K hK => ?_) AllReadyH.nil
            refine step_append_vals Tryz.underlying29 infoRt9 (by rfl) (by omega) rfl (.tmp 53) (.tmp 62) rfl (w.heap.size + 1) (.slice ra n rc) n (rowR S) rfl (by have := K4.out.o.r; rw [HN.out] at this; exact this) b4 0 1 1 [.int .i64 v0, .slice (some ⟨g3, 0, none⟩) (k - 1) c3] rfl rfl (cells2_a9 _ _ _ _ _ V4.out) (by simp [Value.oneCell']) (by omega) (by omega) (by have := row_lt K4.out.p; have := K4.out.hp; omega) ?_
            intro v' w6 ho hg hbk hz
            rcases own_kinds ho with ⟨_, e0⟩ | ⟨g6, c6, e6, -, -⟩
            · omega
            subst e6
            have P6 := grown_row hg K4.out.p (fun e => own_oth9 K4.out.o.r K4.out.p (by decide) e.symm)
            have f6 := fun i => frozen_of_row _ _ i _ _ P6
            obtain ⟨x6, y6⟩ := cells2 P6
            have K6 : Hid (SK w (w6.setCell ⟨bp, 0, none⟩ (.slice (some ⟨g6, 0, none⟩) (n + 1) c6)) bp (.slice (some ⟨g6, 0, none⟩) (n + 1) c6) ls (S ++ [⟨v0, some ⟨g3, 0, none⟩, l.tail, c3⟩]) L (.slice (some ⟨gl, 0, none⟩) N lc) lines) := K4.out.route (by simp only; rw [HTL.out]; exact E4.out) D3.out hg (by
             rw [HN.out, rowR_app]
             have e9 : rowR [⟨v0, some ⟨g3, 0, none⟩, l.tail, c3⟩] = [.int .i64 v0, .slice (some ⟨g3, 0, none⟩) (k - 1) c3] := by simp only [rowR, rtCells, List.flatMap_cons, List.flatMap_nil, List.append_nil]; rw [HTL.out]
             rw [e9]
             exact ho)
            have Q6a : Hid (World.ownsRow w6 (w.heap.size + 1) 2 1 (.slice (some ⟨lg, 0, none⟩) k c) k (l.map (Value.int .i64))) := own_two Q4.out K4.out.o.r hg (by decide)
            have Q6 : Hid (World.ownsRow (w6.setCell ⟨bp, 0, none⟩ (.slice (some ⟨g6, 0, none⟩) (n + 1) c6)) (w.heap.size + 1) 2 1 (.slice (some ⟨lg, 0, none⟩) k c) k (l.map (Value.int .i64))) := own_box9 Q6a.out P6 (by decide)
            clear ho hg hbk hz
            refine hK.out _ _ ?_ (fun hHeld => ?_)
            · exact (own_cellV Q6a.out hl0).1
            clear hK K
            change wpAnyH _ _ _ _ _ _ _ (Act.put _ (some 63) _) _
            (try simp only [Act.put, List.setIfInBounds_toArray, List.set_cons_zero, List.set_cons_succ])
            refine tkH 12 hHeld ?_
            refine wpAnyH_ready (rs := [13]) (by kernel_rfl) (by simp) ?_
            refine AllReadyH.cons rfl (fun K hK => ?_) AllReadyH.nil
            go_simp
            refine hK.out _ _ ?_ (fun hHeld => ?_)
            · exact (own_cellV Q6.out hl0).1
            clear hK K
            (try simp only [Act.put, List.setIfInBounds_toArray, List.set_cons_zero, List.set_cons_succ])
            refine wpAnyH_done (by kernel_rfl) ?_ _
            generalize w6.setCell ⟨bp, 0, none⟩ (.slice (some ⟨g6, 0, none⟩) (n + 1) c6) = W6 at *
            go_wp2_with fail
            go_roundw
            case rel => exact ⟨j + 1, S ++ [⟨v0, some ⟨g3, 0, none⟩, l.tail, c3⟩], L, _, ls, by omega, by go_num, by rw [List.map_append]; exact HL2.out, by rw [List.length_append, HN.out]; simp; omega, by have h1 := HLL.out; have h2 := HS1.out; omega, fun r hr => by
             rcases List.mem_append.1 hr with hr | hr
             · exact HI.out r hr
             · rw [List.mem_singleton] at hr; subst hr; simp only; rw [HTL.out]; omega, K6.out⟩
            case measure => simp [intOf]; omega
          refine AllReadyH.cons rfl (fun K hK => ?_) AllReadyH.nil
          have K4 : Hid (SK w (w3.alloc (.cells #[.int .i64 v0, .slice (some ⟨g3, 0, none⟩) (k - 1) c3] 65)) bp (.slice ra n rc) ls S L (.slice (some ⟨gl, 0, none⟩) N lc) lines) := K3.out.below ((Below.refl _ _).alloc (Nat.le_refl _) _)
          have Q4 : Hid (World.ownsRow (w3.alloc (.cells #[.int .i64 v0, .slice (some ⟨g3, 0, none⟩) (k - 1) c3] 65)) (w.heap.size + 1) 2 1 (.slice (some ⟨lg, 0, none⟩) k c) k (l.map (Value.int .i64))) := Q3.out.alloc _
          have E4 : Hid (World.ownsRow (w3.alloc (.cells #[.int .i64 v0, .slice (some ⟨g3, 0, none⟩) (k - 1) c3] 65)) (w.heap.size + 1) 2 1 (.slice (some ⟨g3, 0, none⟩) (k - 1) c3) (k - 1) (l.tail.map (Value.int .i64))) := E3.out.alloc _
          have V4 : Hid ((w3.alloc (.cells #[.int .i64 v0, .slice (some ⟨g3, 0, none⟩) (k - 1) c3] 65)).heap[w3.heap.size]? = some (.cells #[.int .i64 v0, .slice (some ⟨g3, 0, none⟩) (k - 1) c3] 65 (0, 0))) := heap_alloc_new _ _
          go_simp
          refine hK.out _ _ ?_ (fun hHeld => ?_)
          · exact (own_cellV Q4.out hl0).1
          clear hK K
          generalize (w3.alloc (.cells #[.int .i64 v0, .slice (some ⟨g3, 0, none⟩) (k - 1) c3] 65)) = V4w at *
          generalize w3.heap.size = b4 at *
          (try simp only [Act.put, List.setIfInBounds_toArray, List.set_cons_zero, List.set_cons_succ])
          refine wpAnyH_ready (rs := [1]) (by kernel_rfl) (by simp) ?_
          refine AllReadyH.cons rfl (fun K hK => ?_) AllReadyH.nil
          obtain ⟨z0, z1⟩ := cells2 K4.out.p
          go_simp
          refine hK.out _ _ ?_ (fun hHeld => ?_)
          · exact (own_cellV Q4.out hl0).1
          clear hK K
          clear z0 z1
          (try simp only [Act.put, List.setIfInBounds_toArray, List.set_cons_zero, List.set_cons_succ])
          refine wpAnyH_ready (rs := [11]) (by kernel_rfl) (by simp) ?_
          refine AllReadyH.cons rfl (fun K hK => ?_) AllReadyH.nil
          refine step_append_vals Tryz.underlying29 infoRt9 (by rfl) (by omega) rfl (.tmp 53) (.tmp 62) rfl (w.heap.size + 1) (.slice ra n rc) n (rowR S) rfl (by have := K4.out.o.r; rw [HN.out] at this; exact this) b4 0 1 1 [.int .i64 v0, .slice (some ⟨g3, 0, none⟩) (k - 1) c3] rfl rfl (cells2_a9 _ _ _ _ _ V4.out) (by simp [Value.oneCell']) (by omega) (by omega) (by have := row_lt K4.out.p; have := K4.out.hp; omega) ?_
          intro v' w6 ho hg hbk hz
          rcases own_kinds ho with ⟨_, e0⟩ | ⟨g6, c6, e6, -, -⟩
          · omega
          subst e6
          have P6 := grown_row hg K4.out.p (fun e => own_oth9 K4.out.o.r K4.out.p (by decide) e.symm)
          have f6 := fun i => frozen_of_row _ _ i _ _ P6
          obtain ⟨x6, y6⟩ := cells2 P6
          have K6 : Hid (SK w (w6.setCell ⟨bp, 0, none⟩ (.slice (some ⟨g6, 0, none⟩) (n + 1) c6)) bp (.slice (some ⟨g6, 0, none⟩) (n + 1) c6) ls (S ++ [⟨v0, some ⟨g3, 0, none⟩, l.tail, c3⟩]) L (.slice (some ⟨gl, 0, none⟩) N lc) lines) := K4.out.route (by simp only; rw [HTL.out]; exact E4.out) D3.out hg (by
           rw [HN.out, rowR_app]
           have e9 : rowR [⟨v0, some ⟨g3, 0, none⟩, l.tail, c3⟩] = [.int .i64 v0, .slice (some ⟨g3, 0, none⟩) (k - 1) c3] := by simp only [rowR, rtCells, List.flatMap_cons, List.flatMap_nil, List.append_nil]; rw [HTL.out]
           rw [e9]
           exact ho)
          have Q6a : Hid (World.ownsRow w6 (w.heap.size + 1) 2 1 (.slice (some ⟨lg, 0, none⟩) k c) k (l.map (Value.int .i64))) := own_two Q4.out K4.out.o.r hg (by decide)
          have Q6 : Hid (World.ownsRow (w6.setCell ⟨bp, 0, none⟩ (.slice (some ⟨g6, 0, none⟩) (n + 1) c6)) (w.heap.size + 1) 2 1 (.slice (some ⟨lg, 0, none⟩) k c) k (l.map (Value.int .i64))) := own_box9 Q6a.out P6 (by decide)
          clear ho hg hbk hz
          refine hK.out _ _ ?_ (fun hHeld => ?_)
          · exact (own_cellV Q6a.out hl0).1
          clear hK K
          change wpAnyH _ _ _ _ _ _ _ (Act.put _ (some 63) _) _
          (try simp only [Act.put, List.setIfInBounds_toArray, List.set_cons_zero, List.set_cons_succ])
          refine tkH 12 hHeld ?_
          refine wpAnyH_ready (rs := [13]) (by kernel_rfl) (by simp) ?_
          refine AllReadyH.cons rfl (fun K hK => ?_) AllReadyH.nil
          go_simp
          refine hK.out _ _ ?_ (fun hHeld => ?_)
          · exact (own_cellV Q6.out hl0).1
          clear hK K
          (try simp only [Act.put, List.setIfInBounds_toArray, List.set_cons_zero, List.set_cons_succ])
          refine wpAnyH_done (by kernel_rfl) ?_ _
          generalize w6.setCell ⟨bp, 0, none⟩ (.slice (some ⟨g6, 0, none⟩) (n + 1) c6) = W6 at *
          go_wp2_with fail
          go_roundw
          case rel => exact ⟨j + 1, S ++ [⟨v0, some ⟨g3, 0, none⟩, l.tail, c3⟩], L, _, ls, by omega, by go_num, by rw [List.map_append]; exact HL2.out, by rw [List.length_append, HN.out]; simp; omega, by have h1 := HLL.out; have h2 := HS1.out; omega, fun r hr => by
           rcases List.mem_append.1 hr with hr | hr
           · exact HI.out r hr
           · rw [List.mem_singleton] at hr; subst hr; simp only; rw [HTL.out]; omega, K6.out⟩
          case measure => simp [intOf]; omega
      by_cases hB : wd = wLeft
      · have HL2 : Hid (linesF (lines.take (j + 1)) = some (S.map bare, L ++ l)) := by show _ = _; rw [HLS2.out, if_neg hA, if_pos hB]
        have hR : ((txt wd).toList == [114, 111, 117, 116, 101]) = false := by rw [etl, hB]; rfl
        have hR2 : ((txt wd).toList == [108, 101, 102, 116]) = true := by rw [etl, hB]; rfl
        obtain ⟨c0, c1⟩ := cells2 K2.out.p
        have pf := fun i => frozen_of_row _ _ i _ _ K2.out.p
        obtain ⟨m, HM⟩ : ∃ m, Hid (L.length = m) := ⟨_, rfl⟩
        have hmb : m <= 2000 := by
         have h1 := HLL.out
         have h2 := take_sum lines j
         have h3 := HSUM.out
         rw [HM.out] at h1
         omega
        obtain ⟨lla, llc, e, -⟩ := own_sl9 K2.out.o.l
        rw [HM.out] at e
        subst e
        clear hA hB etl HLS2
        generalize (txt wd) = twd at *
        have HBB : Hid (w.heap.size + 1 <= w2.heap.size) := by have := row_lt K2.out.p; have := K2.out.hp; show _ <= _; omega
        have OL : Hid (w2.ownsRow (w.heap.size + 1) 2 1 (.slice lla m llc) m (L.map (Value.int .i64))) := by have := K2.out.o.l; rw [HM.out] at this; exact this
        rcases own_kinds Q2.out with ⟨e, h0⟩ | ⟨lg, c, e, -, -⟩
        · exact absurd e HNI.out
        · simp only [Value.slice.injEq, true_and] at e
          obtain ⟨rfl, rfl⟩ := e
          go_wp2_with (
           at_builtin
           refine append_vals Tryz.underlying22 Tryz.info2 rfl (by decide) _ rfl _ _ rfl (w.heap.size + 1) (.slice lla m llc) m (L.map (Value.int .i64)) rfl OL.out lg 0 k lsc (l.map (Value.int .i64)) rfl (by rw [List.length_map, HK.out, Nat.mul_one]) (fun i u hu => by rw [Nat.zero_add]; exact (own_cellV Q2.out hu).1) (by intro u hu; obtain ⟨z, _, rfl⟩ := List.mem_map.1 hu; rfl) (by omega) (by omega) HBB.out ?_
           intro v' w4 ho4 hg4 hb4 hz4
           have hoM : w4.ownsRow (w.heap.size + 1) 2 1 v' (L ++ l).length ((L ++ l).map (Value.int .i64)) := by rw [List.map_append, List.length_append, HM.out, HK.out]; exact ho4
           have K4 : Hid (SK w (w4.setCell ⟨bp, 1, none⟩ v') bp (.slice ra n rc) v' S (L ++ l) (.slice (some ⟨gl, 0, none⟩) N lc) lines) := K2.out.left hg4 hb4 hoM
           have P4 := grown_row hg4 K2.out.p (fun e => own_oth9 K2.out.o.l K2.out.p (by decide) e.symm)
           obtain ⟨x4, y4⟩ := cells2 P4
           have f4 := fun i => frozen_of_row _ _ i _ _ P4
           obtain ⟨va, vc, e4, -⟩ := own_sl9 ho4
           subst e4
           clear ho4 hg4 hb4 hz4 hoM P4)
          generalize w4.setCell ⟨bp, 1, none⟩ (.slice va (m + k) vc) = W4 at *
          go_roundw
          case rel => exact ⟨j + 1, S, L ++ l, _, _, by omega, by go_num, HL2.out, by rw [HN.out]; omega, by have h1 := HLL.out; have h2 := HS1.out; rw [List.length_append, HK.out]; omega, HI.out, K4.out⟩
          case measure => simp [intOf]; omega
      · have HL2 : Hid (linesF (lines.take (j + 1)) = some (S.map bare, L)) := by show _ = _; rw [HLS2.out, if_neg hA, if_neg hB]
        have hR2 : ((txt wd).toList == [108, 101, 102, 116]) = false := by
         rw [etl]
         simpa using (show ¬ wd = [108, 101, 102, 116] from hB)
        have hcs : ((txt wd).toList == [114, 111, 117, 116, 101]) = false ∨ (((txt wd).toList == [114, 111, 117, 116, 101]) = true /\ ¬ ((0 : Int) < (k : Int))) := by
         rw [etl]
         by_cases hw : wd = wRoute
         · right
           refine ⟨by rw [hw]; rfl, ?_⟩
           have : l = [] := Decidable.not_not.1 (fun e => hA ⟨hw, e⟩)
           have : k = 0 := by rw [<- HK.out, this]; rfl
           omega
         · left
           simpa using (show ¬ wd = [114, 111, 117, 116, 101] from hw)
        clear hA hB etl HLS2
        generalize (txt wd) = twd at *
        rcases hcs with hR | ⟨hR, hk0⟩
        all_goals
         go_wp2_with fail
         go_roundw
         case rel => exact ⟨j + 1, S, L, _, _, by omega, by go_num, HL2.out, by rw [HN.out]; omega, by have h1 := HLL.out; have h2 := HS1.out; omega, HI.out, K2.out⟩
         case measure => simp [intOf]; omega
    · have HR : Hid (specRead s = none) := HBAD.out hc
      have K2 : Hid (SK w w2 bp (.slice ra n rc) ls S L (.slice (some ⟨gl, 0, none⟩) N lc) lines) := KW.out.below hb
      clear hc hb C KW
      obtain ⟨c0, c1⟩ := cells2 K2.out.z
      have zf := fun i => frozen_of_row _ _ i _ _ K2.out.z
      go_wp2
      refine bodyPost_ret (v := .tuple #[.agg #[.slice none 0 0, .slice none 0 0], .bool false]) (by simp [results, Tryz.results13, go_sem, c0, c1]) rfl ?_
      refine .inr ⟨HR.out, rfl, ?_⟩
      exact Below.setCell (Below.setCell K2.out.b (by simp) _) (by simp) _
  · have hjn : j = N := by omega
    have HLF2 : Hid (specF s = some (S.map bare, L)) := by
     have := HLF.out
     rw [hjn, <- HNN.out, List.take_length] at this
     show _ = _
     rw [HSP2.out, this]
    have hnl : ¬ ((j : Int) < (N : Int)) := by omega
    obtain ⟨m, HM⟩ : ∃ m, Hid (L.length = m) := ⟨_, rfl⟩
    have hmb : m <= 2000 := by
     have h1 := HLL.out
     have h2 := take_sum lines j
     have h3 := HSUM.out
     rw [HM.out] at h1
     omega
    obtain ⟨lla, llc, e, -⟩ := own_sl9 KW.out.o.l
    rw [HM.out] at e
    subst e
    have HPO : Hid (PO wr (w.heap.size + 1) (.slice ra n rc) S (.slice lla m llc) L) := KW.out.o
    have hRA : RoutesAt wr ra S := by
     have := KW.out.o
     rw [<- HN.out] at this
     exact this.at
    have hLA : IntsAt wr lla L := by
     obtain ⟨la2, lc2, e, h⟩ := KW.out.o.lv
     simp only [Value.slice.injEq] at e
     rw [e.1]
     exact h
    have C := specPlanText_any ra lla rc llc S L wr hRA hLA (by rw [HN.out]; omega) (by rw [HM.out]; omega) (fun r hr => by have := HI.out r hr; omega) (fun r hr => by
     rcases own_kinds (KW.out.o.s r hr) with ⟨e, h0⟩ | ⟨g, c, e, -, -⟩
     · simp only [Value.slice.injEq] at e
       exact .inl ⟨e.1, List.length_eq_zero_iff.1 h0⟩
     · simp only [Value.slice.injEq] at e
       exact .inr ⟨g, 0, e.1⟩)
    rw [HN.out, HM.out] at C
    have HPT : Hid ((if formB S L = true then txt (planL S L) else txt []) = txt (ptxt (S.map bare) L)) := by
     have hkk : (S.map bare).map RT.key = S.map RT.key := by rw [List.map_map]; rfl
     show _ = _
     unfold ptxt
     rw [formB_key L hkk, planL_key L hkk]
     split <;> rfl
    rw [HPT.out] at C
    clear hjn hRA hLA
    obtain ⟨c0, c1⟩ := cells2 KW.out.p
    go_wp2_with fail
    clear c0 c1
    refine C.mono ?_
    rintro e w2 ⟨rfl, hb⟩
    have K2 : Hid (SK w w2 bp (.slice ra n rc) (.slice lla m llc) S L (.slice la N lc) lines) := KW.out.below hb
    clear hb C KW HPO
    obtain ⟨c0, c1⟩ := cells2 K2.out.p
    obtain ⟨z0, z1⟩ := cells2 K2.out.z
    have zf := fun i => frozen_of_row _ _ i _ _ K2.out.z
    have npz : bp ≠ w.heap.size := by have := K2.out.hp; omega
    by_cases hE : ptxt (S.map bare) L = s
    · have HR : Hid (specRead s = some (S.map bare, L)) := by show _ = _; rw [HSR.out, HLF2.out]; simp [hE]
      have hcmp : ((txt (ptxt (S.map bare) L)).toList == a.toList) = true := by rw [hE, HA.out]; exact str_eq rfl
      clear hE
      generalize txt (ptxt (S.map bare) L) = tp at *
      go_wp2
      refine bodyPost_ret (v := .tuple #[.agg #[.slice ra n rc, .slice lla m llc], .bool true]) (by simp [results, Tryz.results13, go_sem, z0, z1]) rfl ?_
      refine .inl ⟨S, _, _, L, HR.out, rfl, ?_, ?_⟩
      · exact Below.setCell (Below.setCell K2.out.b (by simp) _) (by simp) _
      · exact (K2.out.o.set (by omega)).set (by omega)
    · have HR : Hid (specRead s = none) := by show _ = _; rw [HSR.out, HLF2.out]; simp [hE]
      have hcmp : ((txt (ptxt (S.map bare) L)).toList == a.toList) = false := by rw [<- HA.out]; exact str_ne (fun e => hE (txt_inj e))
      clear hE
      generalize txt (ptxt (S.map bare) L) = tp at *
      go_wp2
      refine bodyPost_ret (v := .tuple #[.agg #[.slice none 0 0, .slice none 0 0], .bool false]) (by simp [results, Tryz.results13, go_sem, z0, z1]) rfl ?_
      refine .inr ⟨HR.out, rfl, ?_⟩
      exact Below.setCell (Below.setCell K2.out.b (by simp) _) (by simp) _
end Go.Proofs.YtcapkcallaajaaaGreatDoor
