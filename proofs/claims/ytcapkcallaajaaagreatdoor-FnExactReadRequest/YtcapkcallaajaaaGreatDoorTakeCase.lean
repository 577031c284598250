import Derived.Test.YtcapkcallaajaaaGreatDoorPack12
import Derived.Test.YtcapkcallaajaaaGreatDoorPack13
namespace Go.Proofs.YtcapkcallaajaaaGreatDoor
open Go.RowKit
structure CO (w : World) (base : Nat) (zl ol vl : Value) (c : CV) : Prop where
 z : w.ownsRow base 2 1 zl c.zs.length (c.zs.map (Value.int .i64))
 o : w.ownsRow base 60 6 ol c.ko (c.os.map (Value.int .i64))
 v : w.ownsRow base 62 5 vl c.kv (c.vs.map (Value.int .i64))
def TakeC (w : World) (q : Nat) (s : List UInt8) (e : Ending) (w' : World) : Prop :=
 (∃ c r zl ol vl, caseF s = some (c, r) /\ e = .returned (.agg #[.int .i64 c.n, zl, ol, vl, .int .i64 c.f]) /\ RX w' q r /\ w.grownBy w' (some q) /\ CO w' (w.heap.size + 1) zl ol vl c) ∨ (caseF s = none /\ e = .panicked GV /\ w.grownBy w' (some q))
def restF (n f : Int) (X : List (List Int)) (r2 : List UInt8) : Option (CV × List UInt8) := match whileF wOrder 6 12 r2 with
 | none => none
 | some (Y, r3) => match whileF wVehicle 5 5 r3 with
   | none => none
   | some (Z, r4) => if (mkCV n f X Y Z).ok = true then some (mkCV n f X Y Z, r4) else none
theorem caseF_head (s : List UInt8) : caseF s = match lineF wCase 2 s with
 | none => none
 | some (l, r) => match matF (l.getD 0 0) r with | none => none | some (X, r2) => restF (l.getD 0 0) (l.getD 1 0) X r2 := by
 unfold caseF headF matF restF
 cases lineF wCase 2 s with
 | none => rfl
 | some q =>
   obtain ⟨l, r⟩ := q
   simp only
   split
   · rfl
   · rfl
theorem cells6_at (W : World) (g : Nat) (l : List Int) (T : TypeId) (h : W.heap[g]? = some (.cells (l.map (Value.int .i64)).toArray T (0, 0))) : ∀ (j : Nat) (u : Value), (l.map (Value.int .i64))[j]? = some u -> W.cell? ⟨g, 0 + j, none⟩ = some u := fun j u hj => by
 rw [Nat.zero_add, cell_of_row _ _ _ _ _ _ h]
 simpa using hj
set_option maxHeartbeats 8000000 in
set_option maxRecDepth 20000 in
theorem takeCase_any (q : Nat) (s : List UInt8) (w : World) (h : RX w q s) (hs : s.length <= 1000000000) :
 Calls Tryz.prog 33 #[.pointer (some ⟨q, 0, none⟩)] w (TakeC w q s) := by
 have HQ : Hid (q < w.heap.size) := row_lt h
 have R0 : Hid (RX (w.alloc (.cells #[.int .i64 0, .slice none 0 0, .slice none 0 0, .slice none 0 0, .int .i64 0] 28)) q s) := h.alloc _
 have G0 : Hid (w.grownBy (w.alloc (.cells #[.int .i64 0, .slice none 0 0, .slice none 0 0, .slice none 0 0, .int .i64 0] 28)) (some q)) := grown_allocR (grown_refl _ _) _
 have Z0 : Hid ((w.alloc (.cells #[.int .i64 0, .slice none 0 0, .slice none 0 0, .slice none 0 0, .int .i64 0] 28)).heap[w.heap.size]? = some (.cells #[.int .i64 0, .slice none 0 0, .slice none 0 0, .slice none 0 0, .int .i64 0] 28 (0, 0))) := heap_alloc_new _ _
 have HCF : Hid (caseF s = match lineF wCase 2 s with
  | none => none
  | some (l, r) => match matF (l.getD 0 0) r with | none => none | some (X, r2) => restF (l.getD 0 0) (l.getD 1 0) X r2) := caseF_head s
 clear h
 go_enter Tryz.func33, Tryz.ntmps33
 go_wp2_with fail
 generalize (w.alloc (.cells #[.int .i64 0, .slice none 0 0, .slice none 0 0, .slice none 0 0, .int .i64 0] 28)) = W0 at *
 have C0 : Calls Tryz.prog 63 #[.pointer (some ⟨q, 0, none⟩), .string ⟨#[99, 97, 115, 101]⟩, .int .i64 2] W0 (LineOk W0 q (lineF wCase 2 s)) := line_any q 2 s wCase W0 R0.out hs (by omega)
 refine C0.mono ?_
 rintro e w1 (⟨l, r1, sl, hv, rfl, hr1, hg1, ho1⟩ | ⟨hv, rfl, hg1⟩)
 rotate_left
 · exact ⟨rfl, .inr ⟨by rw [HCF.out, hv], rfl, grown_trans G0.out hg1⟩⟩
 obtain ⟨hl1, hl2, -⟩ := lineF_is hv
 obtain ⟨n, f, rfl⟩ : ∃ n f, l = [n, f] := by
  match l, hl2 with
  | [n, f], _ => exact ⟨n, f, rfl⟩
 have hr1l : r1.length <= s.length := by
  have := congrArg List.length hl1
  rw [List.length_append] at this
  omega
 have HC2 : Hid (caseF s = match matF n r1 with | none => none | some (X, r2) => restF n f X r2) := by show _ = _; rw [HCF.out, hv]; rfl
 have R1 : Hid (RX w1 q r1) := hr1
 have G1 : Hid (w.grownBy w1 (some q)) := grown_trans G0.out hg1
 have hwq := HQ.out
 have Z1 : Hid (w1.heap[w.heap.size]? = some (.cells #[.int .i64 0, .slice none 0 0, .slice none 0 0, .slice none 0 0, .int .i64 0] 28 (0, 0))) := grown_row hg1 Z0.out (by simp; omega)
 rcases own_kinds ho1 with ⟨_, e0⟩ | ⟨gh, ch, e1, hgh, -⟩
 · simp at e0
 subst e1
 have HGH : Hid (q < gh) := by have := row_lt R0.out; show q < gh; omega
 have H1 : Hid (w1.ownsRow W0.heap.size 2 1 (.slice (some ⟨gh, 0, none⟩) 2 ch) 2 ([n, f].map (Value.int .i64))) := ho1
 have D1 : w1.drew.cell? ⟨gh, 0, none⟩ = some (.int .i64 n) /\ w1.drew.cell? ⟨gh, 1, none⟩ = some (.int .i64 f) := ⟨own_src ho1.drew 0 _ rfl, own_src ho1.drew 1 _ rfl⟩
 clear hv hl1 hl2 hr1 hg1 ho1 C0 R0 G0 Z0 HCF hgh
 go_wp2_with fail
 refine wp_region_held_drew (S := (fun W => W.cell? ⟨gh, 0, none⟩ = some (.int .i64 n) /\ W.cell? ⟨gh, 1, none⟩ = some (.int .i64 f))) (by kernel_rfl) ?_ (fun hHeld => ?_)
 · exact D1
 have R2 : Hid (RX w1.drew q r1) := R1.out
 have G2 : Hid (w.grownBy w1.drew (some q)) := ⟨G1.out.os, G1.out.tape, G1.out.output, G1.out.size, G1.out.block⟩
 have Z2 : Hid (w1.drew.heap[w.heap.size]? = some (.cells #[.int .i64 0, .slice none 0 0, .slice none 0 0, .slice none 0 0, .int .i64 0] 28 (0, 0))) := Z1.out
 have H2 : Hid (w1.drew.ownsRow W0.heap.size 2 1 (.slice (some ⟨gh, 0, none⟩) 2 ch) 2 ([n, f].map (Value.int .i64))) := H1.out.drew
 clear R1 G1 Z1 H1 D1
 generalize w1.drew = V0 at *
 refine tkH 0 hHeld ?_
 refine tkH 1 hHeld ?_
 refine tkH 2 hHeld ?_
 refine tkH 3 hHeld ?_
 refine tkH 5 hHeld ?_
 refine tkH 6 hHeld ?_
 refine tkH 7 hHeld ?_
 refine wpAnyH_ready (rs := [4, 9]) (by kernel_rfl) (by simp) ?_
 refine AllReadyH.cons rfl (fun K hK => ?_) ?_
 · skip
   go_simp
   refine (takeMatrix_any q n r1 V0 R2.out (by omega)).mono ?_
   rintro e w3 (⟨X, r4, zl, hv, rfl, hr3, hg3, ho3⟩ | ⟨hv, rfl, hg3⟩)
   rotate_left
   · exact ⟨rfl, .inr ⟨by rw [HC2.out, hv], rfl, grown_trans G2.out hg3⟩⟩
   have HC3 : Hid (caseF s = restF n f X r4) := by show _ = _; rw [HC2.out, hv]
   have hr4l : r4.length <= r1.length := by
    unfold matF at hv
    split at hv
    · have := congrArg List.length (lnsF_is _ _ _ _ _ _ hv).1
      rw [List.length_append] at this
      omega
    · cases hv
   have R3 : Hid (RX w3 q r4) := hr3
   have G3 : Hid (w.grownBy w3 (some q)) := grown_trans G2.out hg3
   have Z3 : Hid (w3.heap[w.heap.size]? = some (.cells #[.int .i64 0, .slice none 0 0, .slice none 0 0, .slice none 0 0, .int .i64 0] 28 (0, 0))) := grown_row hg3 Z2.out (by simp; omega)
   have H3 : Hid (w3.ownsRow W0.heap.size 2 1 (.slice (some ⟨gh, 0, none⟩) 2 ch) 2 ([n, f].map (Value.int .i64))) := own_rowC H2.out hg3 (fun k e => by cases e; have := HGH.out; simp [Value.ownBlock]; omega)
   have M3 : Hid (w3.ownsRow (w.heap.size + 1) 2 1 zl X.flatten.length (X.flatten.map (Value.int .i64))) := owns_base ho3 (by have := row_lt Z2.out; omega)
   obtain ⟨za, zc, ez, -⟩ := own_sl M3.out
   subst ez
   obtain ⟨m, HMM⟩ : ∃ m, Hid (X.flatten.length = m) := ⟨_, rfl⟩
   rw [HMM.out] at M3 ⊢
   clear hv hr3 hg3 ho3
   (try go_wp2_with fail)
   refine hK.out _ _ ?_ (fun hHeld => ?_)
   · exact ⟨own_src H3.out 0 _ rfl, own_src H3.out 1 _ rfl⟩
   clear hK K
   (try simp only [Act.put, List.setIfInBounds_toArray, List.set_cons_zero, List.set_cons_succ])
   refine tkH 8 hHeld ?_
   refine wpAnyH_ready (rs := [9]) (by kernel_rfl) (by simp) ?_
   refine AllReadyH.cons rfl (fun K hK => ?_) AllReadyH.nil
   have RA : Hid (RX (w3.alloc (.cells #[.int .i64 0, .slice none 0 0, .slice none 0 0, .slice none 0 0, .int .i64 0] 28)) q r4) := R3.out.alloc _
   have GA : Hid (w.grownBy (w3.alloc (.cells #[.int .i64 0, .slice none 0 0, .slice none 0 0, .slice none 0 0, .int .i64 0] 28)) (some q)) := grown_allocR G3.out _
   have ZA : Hid ((w3.alloc (.cells #[.int .i64 0, .slice none 0 0, .slice none 0 0, .slice none 0 0, .int .i64 0] 28)).heap[w.heap.size]? = some (.cells #[.int .i64 0, .slice none 0 0, .slice none 0 0, .slice none 0 0, .int .i64 0] 28 (0, 0))) := (heap_alloc_old _ _ (row_lt Z3.out)).trans Z3.out
   have HA : Hid (World.ownsRow (w3.alloc (.cells #[.int .i64 0, .slice none 0 0, .slice none 0 0, .slice none 0 0, .int .i64 0] 28)) W0.heap.size 2 1 (.slice (some ⟨gh, 0, none⟩) 2 ch) 2 ([n, f].map (Value.int .i64))) := H3.out.alloc _
   have PA : Hid ((w3.alloc (.cells #[.int .i64 0, .slice none 0 0, .slice none 0 0, .slice none 0 0, .int .i64 0] 28)).heap[w3.heap.size]? = some (.cells #[.int .i64 0, .slice none 0 0, .slice none 0 0, .slice none 0 0, .int .i64 0] 28 (0, 0))) := heap_alloc_new _ _
   have KA : Hid (w.heap.size < w3.heap.size) := row_lt Z3.out
   have MA : Hid (World.ownsRow (w3.alloc (.cells #[.int .i64 0, .slice none 0 0, .slice none 0 0, .slice none 0 0, .int .i64 0] 28)) (w.heap.size + 1) 2 1 (.slice za m zc) m (X.flatten.map (Value.int .i64))) := M3.out.alloc _
   go_simp
   refine hK.out _ _ ?_ (fun hHeld => ?_)
   · exact ⟨own_src HA.out 0 _ rfl, own_src HA.out 1 _ rfl⟩
   clear hK K
   generalize (w3.alloc (.cells #[.int .i64 0, .slice none 0 0, .slice none 0 0, .slice none 0 0, .int .i64 0] 28)) = wA at *
   generalize w3.heap.size = kb at *
   (try simp only [Act.put, List.setIfInBounds_toArray, List.set_cons_zero, List.set_cons_succ])
   refine wpAnyH_ready (rs := [10]) (by kernel_rfl) (by simp) ?_
   refine AllReadyH.cons rfl (fun K hK => ?_) AllReadyH.nil
   obtain ⟨y0, y1, y2, y3, y4⟩ := cells5 PA.out
   have yf := fun i => frozen_of_row _ _ i _ _ PA.out
   have GS : Hid (World.grownBy wA (((((wA.setCell ⟨kb, 0, none⟩ (.int .i64 n)).setCell ⟨kb, 1, none⟩ (.slice za m zc)).setCell ⟨kb, 2, none⟩ (.slice none 0 0)).setCell ⟨kb, 3, none⟩ (.slice none 0 0)).setCell ⟨kb, 4, none⟩ (.int .i64 f)) (some kb)) := grown_trans (grown_trans (grown_trans (grown_trans (grown_set _ _ _ _) (grown_set _ _ _ _)) (grown_set _ _ _ _)) (grown_set _ _ _ _)) (grown_set _ _ _ _)
   have hkA := KA.out
   have CX0 : Hid (CX w (((((wA.setCell ⟨kb, 0, none⟩ (.int .i64 n)).setCell ⟨kb, 1, none⟩ (.slice za m zc)).setCell ⟨kb, 2, none⟩ (.slice none 0 0)).setCell ⟨kb, 3, none⟩ (.slice none 0 0)).setCell ⟨kb, 4, none⟩ (.int .i64 f)) q r4 kb n f (.slice za m zc) (.slice none 0 0) (.slice none 0 0) X.flatten [] []) := ⟨grown_ownR GA.out GS.out (fun g e => by simp at e; omega), RA.out.grown GS.out (by simp; omega), grown_row GS.out ZA.out (by simp; omega), heap_setCell_same _ _ _ _ _ _ (heap_setCell_same _ _ _ _ _ _ (heap_setCell_same _ _ _ _ _ _ (heap_setCell_same _ _ _ _ _ _ (heap_setCell_same _ _ _ _ _ _ PA.out)))), KA.out, (by rw [HMM.out]; exact own_rowC MA.out GS.out (fun k e => by cases e; exact own_othC MA.out PA.out (by decide))), ⟨by simp, .inl ⟨rfl, rfl⟩⟩, ⟨by simp, .inl ⟨rfl, rfl⟩⟩⟩
   have HS : Hid (World.ownsRow (((((wA.setCell ⟨kb, 0, none⟩ (.int .i64 n)).setCell ⟨kb, 1, none⟩ (.slice za m zc)).setCell ⟨kb, 2, none⟩ (.slice none 0 0)).setCell ⟨kb, 3, none⟩ (.slice none 0 0)).setCell ⟨kb, 4, none⟩ (.int .i64 f)) W0.heap.size 2 1 (.slice (some ⟨gh, 0, none⟩) 2 ch) 2 ([n, f].map (Value.int .i64))) := own_rowC HA.out GS.out (fun k e => by cases e; exact own_othC HA.out PA.out (by decide))
   go_simp
   refine hK.out _ _ ?_ (fun hHeld => ?_)
   · exact ⟨own_src HS.out 0 _ rfl, own_src HS.out 1 _ rfl⟩
   clear hK K
   clear y0 y1 y2 y3 y4 yf GS HS
   generalize (((((wA.setCell ⟨kb, 0, none⟩ (.int .i64 n)).setCell ⟨kb, 1, none⟩ (.slice za m zc)).setCell ⟨kb, 2, none⟩ (.slice none 0 0)).setCell ⟨kb, 3, none⟩ (.slice none 0 0)).setCell ⟨kb, 4, none⟩ (.int .i64 f)) = W4 at *
   (try simp only [Act.put, List.setIfInBounds_toArray, List.set_cons_zero, List.set_cons_succ])
   refine wpAnyH_done (by kernel_rfl) ?_ _
   clear R3 G3 Z3 H3 M3 RA GA ZA HA PA KA hkA MA HGH R2 G2 Z2 H2 HC2 hHeld
   go_wp2_with fail
   go_loopw [5] (fun _ wr => ∃ (Y : List (List Int)) (sv : Value) (rest : List UInt8), Y.length <= 12 /\ rest.length <= r4.length /\ whileF wOrder 6 12 r4 = ppl Y (whileF wOrder 6 (12 - Y.length) rest) /\ CX w wr q rest kb n f (.slice za m zc) sv (.slice none 0 0) X.flatten Y []) (fun _ wr => rdLen wr q)
   case atStart => exact ⟨[], _, r4, by simp, Nat.le_refl _, by rw [ppl_nil]; rfl, CX0.out⟩
   case round =>
    clear CX0
    obtain ⟨Y, sv, rest, hS, hrl, hf, hk⟩ := hrel
    have HFY : Hid (whileF wOrder 6 12 r4 = ppl Y (whileF wOrder 6 (12 - Y.length) rest)) := hf
    have KW : Hid (CX w wr q rest kb n f (.slice za m zc) sv (.slice none 0 0) X.flatten Y []) := hk
    clear hf hk
    obtain ⟨ny, HNY⟩ : ∃ k, Hid (Y.length = k) := ⟨_, rfl⟩
    rw [HNY.out] at hS HFY
    obtain ⟨oa, oc, e, -⟩ := own_sl KW.out.oo
    rw [HNY.out] at e
    subst e
    have C0 : Calls Tryz.prog 31 #[.pointer (some ⟨q, 0, none⟩), .string ⟨#[111, 114, 100, 101, 114]⟩] wr fun e w' => e = .returned (.bool ((wOrder ++ [32]).isPrefixOf rest)) /\ w' = wr := atLine_any q rest wOrder wr KW.out.r (by omega) (by simp [wOrder])
    cases hp : (wOrder ++ [32]).isPrefixOf rest
    · rw [hp] at C0
      have HEO : Hid (whileF wOrder 6 12 r4 = some (Y, rest)) := by
       show _ = _
       rw [HFY.out, whileF_end _ _ _ _ hp]
       simp [ppl]
      clear hp HFY
      go_wp2_with fail
      refine C0.mono ?_
      rintro e w' ⟨rfl, rfl⟩
      clear C0
      have CXV : Hid (CX w w' q rest kb n f (.slice za m zc) (.slice oa ny oc) (.slice none 0 0) X.flatten Y []) := KW.out
      have hro : rest.length <= r1.length := by omega
      clear KW hrl
      generalize rest = ro at *
      go_wp2_with fail
      generalize w' = wv at *
      go_loopw [6] (fun _ wr => ∃ (Z : List (List Int)) (sv : Value) (rest : List UInt8), Z.length <= 5 /\ rest.length <= ro.length /\ whileF wVehicle 5 5 ro = ppl Z (whileF wVehicle 5 (5 - Z.length) rest) /\ CX w wr q rest kb n f (.slice za m zc) (.slice oa ny oc) sv X.flatten Y Z) (fun _ wr => rdLen wr q)
      case atStart => exact ⟨[], _, ro, by simp, Nat.le_refl _, by rw [ppl_nil]; rfl, CXV.out⟩
      case round =>
       clear CXV
       obtain ⟨Z, sv, rest, hS, hrl, hf, hk⟩ := hrel
       have HFV : Hid (whileF wVehicle 5 5 ro = ppl Z (whileF wVehicle 5 (5 - Z.length) rest)) := hf
       have KW : Hid (CX w wr q rest kb n f (.slice za m zc) (.slice oa ny oc) sv X.flatten Y Z) := hk
       clear hf hk
       obtain ⟨nv, HNV⟩ : ∃ k, Hid (Z.length = k) := ⟨_, rfl⟩
       rw [HNV.out] at hS HFV
       obtain ⟨va, vc, e, -⟩ := own_sl KW.out.ov
       rw [HNV.out] at e
       subst e
       have C0 : Calls Tryz.prog 31 #[.pointer (some ⟨q, 0, none⟩), .string ⟨#[118, 101, 104, 105, 99, 108, 101]⟩] wr fun e w' => e = .returned (.bool ((wVehicle ++ [32]).isPrefixOf rest)) /\ w' = wr := atLine_any q rest wVehicle wr KW.out.r (by omega) (by simp [wVehicle])
       cases hp : (wVehicle ++ [32]).isPrefixOf rest
       · rw [hp] at C0
         have HEV : Hid (whileF wVehicle 5 5 ro = some (Z, rest)) := by
          show _ = _
          rw [HFV.out, whileF_end _ _ _ _ hp]
          simp [ppl]
         clear hp HFV
         go_wp2_with fail
         refine C0.mono ?_
         rintro e w' ⟨rfl, rfl⟩
         clear C0
         have HCE : Hid (caseF s = if (mkCV n f X Y Z).ok = true then some (mkCV n f X Y Z, rest) else none) := by
          show _ = _
          rw [HC3.out]
          unfold restF
          rw [HEO.out]
          simp only
          rw [HEV.out]
         have HOK : Hid ((mkCV n f X Y Z).ok = caseB n X.flatten Y.flatten Z.flatten ny nv f) := by show _ = _; unfold CV.ok mkCV; simp only; rw [HNY.out, HNV.out]
         have lo : Y.flatten.length = ny * 6 := by have := KW.out.oo.1; rw [List.length_map, HNY.out] at this; exact this
         have lv : Z.flatten.length = nv * 5 := by have := KW.out.ov.1; rw [List.length_map, HNV.out] at this; exact this
         have CC := implCase_any n f za oa va zc ny oc nv vc X.flatten Y.flatten Z.flatten w' (own_intsC (n := m) (c := zc) (by have := KW.out.oz; rw [HMM.out] at this; exact this)) (own_intsC (n := ny) (c := oc) (by have := KW.out.oo; rw [HNY.out] at this; exact this)) (own_intsC (n := nv) (c := vc) (by have := KW.out.ov; rw [HNV.out] at this; exact this)) lo lv (by omega) (by omega)
         rw [HMM.out] at CC
         clear lo lv
         rw [HOK.out] at HCE
         generalize caseB n X.flatten Y.flatten Z.flatten ny nv f = bb at *
         obtain ⟨c0, c1, c2, c3, c4⟩ := KW.out.box
         go_wp2_with fail
         clear c0 c1 c2 c3 c4
         refine CC.mono ?_
         rintro e w7 ⟨rfl, hb7⟩
         have K7 : Hid (CX w w7 q rest kb n f (.slice za m zc) (.slice oa ny oc) (.slice va nv vc) X.flatten Y Z) := KW.out.below hb7
         clear hb7 CC KW
         cases bb
         · go_wp2_with fail
           with_reducible refine (must_no _ _).mono ?_
           rintro e w' ⟨rfl, rfl⟩
           exact ⟨rfl, .inr ⟨by rw [HCE.out]; rfl, rfl, K7.out.g⟩⟩
         · go_wp2_with fail
           with_reducible refine (must_yes _ _).mono ?_
           rintro e w8 ⟨rfl, rfl⟩
           obtain ⟨c0, c1, c2, c3, c4⟩ := K7.out.box
           obtain ⟨y0, y1, y2, y3, y4⟩ := cells5 K7.out.z
           have yf := fun i => frozen_of_row _ _ i _ _ K7.out.z
           have HR5 : Hid (caseF s = some (mkCV n f X Y Z, rest)) := by show _ = _; rw [HCE.out]; rfl
           have hkk := K7.out.kk
           have ST : ∀ {W : World} {i : Nat} {u : Value} {base size l : Nat} {e : TypeId} {v : Value} {xs : List Value}, W.ownsRow (w.heap.size + 1) e size v l xs -> (W.setCell ⟨w.heap.size, i, none⟩ u).ownsRow (w.heap.size + 1) e size v l xs := fun {W i u base size l e v xs} h => owns_set h (by omega)
           go_wp2
           refine bodyPost_ret (v := .agg #[.int .i64 n, .slice za m zc, .slice oa ny oc, .slice va nv vc, .int .i64 f]) (by simp [results, Tryz.results33, go_sem, y0, y1, y2, y3, y4]) rfl ?_
           refine .inl ⟨mkCV n f X Y Z, rest, _, _, _, HR5.out, rfl, ?_, ?_, ⟨?_, ?_, ?_⟩⟩
           · refine RX.grown (RX.grown (RX.grown (RX.grown (RX.grown K7.out.r (grown_set _ _ _ _) ?_) (grown_set _ _ _ _) ?_) (grown_set _ _ _ _) ?_) (grown_set _ _ _ _) ?_) (grown_set _ _ _ _) ?_ <;> (have := HQ.out; simp; omega)
           · refine grown_ownR (grown_ownR (grown_ownR (grown_ownR (grown_ownR K7.out.g (grown_set _ _ _ _) ?_) (grown_set _ _ _ _) ?_) (grown_set _ _ _ _) ?_) (grown_set _ _ _ _) ?_) (grown_set _ _ _ _) ?_ <;> (intro g e; simp at e; omega)
           · exact ST (base := 0) (ST (base := 0) (ST (base := 0) (ST (base := 0) (ST (base := 0) K7.out.oz))))
           · exact ST (base := 0) (ST (base := 0) (ST (base := 0) (ST (base := 0) (ST (base := 0) K7.out.oo))))
           · exact ST (base := 0) (ST (base := 0) (ST (base := 0) (ST (base := 0) (ST (base := 0) K7.out.ov))))
       · rw [hp] at C0
         by_cases hn : nv < 5
         · have hnI : (nv : Int) < 5 := by omega
           have HF2 : Hid (whileF wVehicle 5 5 ro = ppl Z (match lineF wVehicle 5 rest with
            | none => none
            | some (l, r) => match whileF wVehicle 5 (5 - (nv + 1)) r with | none => none | some (X, r2) => some (l :: X, r2))) := by
            show _ = _
            rw [HFV.out, show 5 - nv = (5 - (nv + 1)) + 1 by omega, whileF_one _ _ _ _ hp]
            all_goals rfl
           clear hp HFV
           obtain ⟨c0, c1, c2, c3, c4⟩ := KW.out.box
           have CL : Calls Tryz.prog 63 #[.pointer (some ⟨q, 0, none⟩), .string ⟨#[118, 101, 104, 105, 99, 108, 101]⟩, .int .i64 5] wr (LineOk wr q (lineF wVehicle 5 rest)) := line_any q 5 rest wVehicle wr KW.out.r (by omega) (by omega)
           go_wp2_with fail
           refine C0.mono ?_
           rintro e w' ⟨rfl, rfl⟩
           go_wp2_with fail
           with_reducible refine (must_yes _ _).mono ?_
           rintro e w' ⟨rfl, rfl⟩
           clear c0 c1 c2 c3 c4 C0
           go_wp2_with fail
           refine CL.mono ?_
           rintro e w2 (⟨l, r5, sl, hv, rfl, hr5, hg5, ho5⟩ | ⟨hv, rfl, hg5⟩)
           rotate_left
           · exact ⟨rfl, .inr ⟨by rw [HC3.out]; unfold restF; rw [HEO.out]; simp only; rw [HF2.out, hv]; rfl, rfl, grown_trans KW.out.g hg5⟩⟩
           obtain ⟨hl1, hl2, -⟩ := lineF_is hv
           obtain ⟨i0, i1, i2, i3, i4, rfl⟩ : ∃ i0 i1 i2 i3 i4, l = [i0, i1, i2, i3, i4] := by
            match l, hl2 with
            | [i0, i1, i2, i3, i4], _ => exact ⟨i0, i1, i2, i3, i4, rfl⟩
           have hr5l : r5.length < rest.length := by
            have := congrArg List.length hl1
            rw [List.length_append] at this
            have h9 : 0 < (lineL wVehicle [i0, i1, i2, i3, i4]).length := by unfold lineL wVehicle; simp
            omega
           rcases own_kinds ho5 with ⟨_, e0⟩ | ⟨gl, cl, e5, -, -⟩
           · simp at e0
           subst e5
           have HV : Hid (lineF wVehicle 5 rest = some ([i0, i1, i2, i3, i4], r5)) := hv
           have MW : Hid (rdLen w' q = rest.length) := KW.out.r.len
           have K2 : Hid (CX w w2 q r5 kb n f (.slice za m zc) (.slice oa ny oc) (.slice va nv vc) X.flatten Y Z) := KW.out.call HQ.out hg5 hr5
           obtain ⟨w9, HW9⟩ : ∃ v, Hid (w' = v) := ⟨_, rfl⟩
           rw [HW9.out] at ho5
           have OL2 : Hid (World.ownsRow w2 w9.heap.size 2 1 (.slice (some ⟨gl, 0, none⟩) 5 cl) 5 ([i0, i1, i2, i3, i4].map (Value.int .i64))) := ho5
           have D2 : w2.drew.cell? ⟨gl, 0, none⟩ = some (.int .i64 i0) /\ w2.drew.cell? ⟨gl, 1, none⟩ = some (.int .i64 i1) /\ w2.drew.cell? ⟨gl, 2, none⟩ = some (.int .i64 i2) /\ w2.drew.cell? ⟨gl, 3, none⟩ = some (.int .i64 i3) /\ w2.drew.cell? ⟨gl, 4, none⟩ = some (.int .i64 i4) := ⟨own_src ho5.drew 0 _ rfl, own_src ho5.drew 1 _ rfl, own_src ho5.drew 2 _ rfl, own_src ho5.drew 3 _ rfl, own_src ho5.drew 4 _ rfl⟩
           clear hv hl1 hl2 hr5 hg5 ho5 CL KW
           go_wp2_with fail
           refine wp_region_held_drew (S := (fun W => W.cell? ⟨gl, 0, none⟩ = some (.int .i64 i0) /\ W.cell? ⟨gl, 1, none⟩ = some (.int .i64 i1) /\ W.cell? ⟨gl, 2, none⟩ = some (.int .i64 i2) /\ W.cell? ⟨gl, 3, none⟩ = some (.int .i64 i3) /\ W.cell? ⟨gl, 4, none⟩ = some (.int .i64 i4))) (by kernel_rfl) ?_ (fun hHeld => ?_)
           · exact D2
           have K2d : Hid (CX w w2.drew q r5 kb n f (.slice za m zc) (.slice oa ny oc) (.slice va nv vc) X.flatten Y Z) := K2.out.below (Below.refl _ _).drew
           have OLd : Hid (World.ownsRow w2.drew w9.heap.size 2 1 (.slice (some ⟨gl, 0, none⟩) 5 cl) 5 ([i0, i1, i2, i3, i4].map (Value.int .i64))) := OL2.out.drew
           clear K2 OL2 D2
           generalize w2.drew = V9 at *
           refine tkH 0 hHeld ?_
           refine tkH 2 hHeld ?_
           refine tkH 3 hHeld ?_
           refine tkH 4 hHeld ?_
           refine tkH 5 hHeld ?_
           refine tkH 6 hHeld ?_
           refine tkH 7 hHeld ?_
           refine tkH 8 hHeld ?_
           refine tkH 9 hHeld ?_
           refine tkH 10 hHeld ?_
           refine tkH 11 hHeld ?_
           refine tkH 12 hHeld ?_
           refine tkH 13 hHeld ?_
           refine tkH 14 hHeld ?_
           refine tkH 15 hHeld ?_
           refine tkH 16 hHeld ?_
           refine tkH 17 hHeld ?_
           refine wpAnyH_ready (rs := [1, 18]) (by kernel_rfl) (by simp) ?_
           refine AllReadyH.cons rfl (fun K hK => ?_) ?_
           · skip
             obtain ⟨z0, z1, z2, z3, z4⟩ := K2d.out.box
             go_simp
             refine hK.out _ _ ?_ (fun hHeld => ?_)
             · exact ⟨own_src OLd.out 0 _ rfl, own_src OLd.out 1 _ rfl, own_src OLd.out 2 _ rfl, own_src OLd.out 3 _ rfl, own_src OLd.out 4 _ rfl⟩
             clear hK K
             clear z0 z1 z2 z3 z4
             (try simp only [Act.put, List.setIfInBounds_toArray, List.set_cons_zero, List.set_cons_succ])
             refine wpAnyH_ready (rs := [18]) (by kernel_rfl) (by simp) ?_
             refine AllReadyH.cons rfl (fun K hK => ?_) AllReadyH.nil
             have K5 : Hid (CX w (V9.alloc (.cells #[.int .i64 i0, .int .i64 i1, .int .i64 i2, .int .i64 i3, .int .i64 i4] 62)) q r5 kb n f (.slice za m zc) (.slice oa ny oc) (.slice va nv vc) X.flatten Y Z) := K2d.out.below ((Below.refl _ _).alloc (Nat.le_refl _) _)
             have OL5 : Hid (World.ownsRow (V9.alloc (.cells #[.int .i64 i0, .int .i64 i1, .int .i64 i2, .int .i64 i3, .int .i64 i4] 62)) w9.heap.size 2 1 (.slice (some ⟨gl, 0, none⟩) 5 cl) 5 ([i0, i1, i2, i3, i4].map (Value.int .i64))) := OLd.out.alloc _
             have V5 : Hid ((V9.alloc (.cells #[.int .i64 i0, .int .i64 i1, .int .i64 i2, .int .i64 i3, .int .i64 i4] 62)).heap[V9.heap.size]? = some (.cells ([i0, i1, i2, i3, i4].map (Value.int .i64)).toArray 62 (0, 0))) := heap_alloc_new _ _
             go_simp
             refine hK.out _ _ ?_ (fun hHeld => ?_)
             · exact ⟨own_src OL5.out 0 _ rfl, own_src OL5.out 1 _ rfl, own_src OL5.out 2 _ rfl, own_src OL5.out 3 _ rfl, own_src OL5.out 4 _ rfl⟩
             clear hK K
             generalize (V9.alloc (.cells #[.int .i64 i0, .int .i64 i1, .int .i64 i2, .int .i64 i3, .int .i64 i4] 62)) = w5 at *
             generalize V9.heap.size = b5 at *
             (try simp only [Act.put, List.setIfInBounds_toArray, List.set_cons_zero, List.set_cons_succ])
             refine wpAnyH_ready (rs := [19]) (by kernel_rfl) (by simp) ?_
             refine AllReadyH.cons rfl (fun K hK => ?_) AllReadyH.nil
             refine step_append_vals Tryz.underlying26 infoV5 (by rfl) (by omega) rfl (.tmp 63) (.tmp 80) rfl (w.heap.size + 1) (.slice va nv vc) nv (Z.flatten.map (Value.int .i64)) rfl (by have := K5.out.ov; rw [HNV.out] at this; exact this) b5 0 1 1 ([i0, i1, i2, i3, i4].map (Value.int .i64)) rfl rfl (cells6_at _ _ _ _ V5.out) (by intro u hu; obtain ⟨x, -, rfl⟩ := List.mem_map.1 hu; rfl) (by omega) (by omega) K5.out.size ?_
             intro v' w6 ho hg hbk hz
             rcases own_kinds ho with ⟨_, e0⟩ | ⟨g6, c6, e6, -, -⟩
             · omega
             subst e6
             have K6 : Hid (CX w (w6.setCell ⟨kb, 3, none⟩ (.slice (some ⟨g6, 0, none⟩) (nv + 1) c6)) q r5 kb n f (.slice za m zc) (.slice oa ny oc) (.slice (some ⟨g6, 0, none⟩) (nv + 1) c6) X.flatten Y (Z ++ [[i0, i1, i2, i3, i4]])) := K5.out.moreV HQ.out hg (by rw [HNV.out, List.map_append]; exact ho)
             have P6 := grown_row hg K5.out.p (fun e => own_othC K5.out.ov K5.out.p (by decide) e.symm)
             have OL6 : Hid (World.ownsRow w6 w9.heap.size 2 1 (.slice (some ⟨gl, 0, none⟩) 5 cl) 5 ([i0, i1, i2, i3, i4].map (Value.int .i64))) := own_rowC OL5.out hg (own_twoC K5.out.ov OL5.out (by decide))
             have OL7 : Hid (World.ownsRow (w6.setCell ⟨kb, 3, none⟩ (.slice (some ⟨g6, 0, none⟩) (nv + 1) c6)) w9.heap.size 2 1 (.slice (some ⟨gl, 0, none⟩) 5 cl) 5 ([i0, i1, i2, i3, i4].map (Value.int .i64))) := own_rowC OL6.out (grown_set _ _ _ _) (fun k e => by cases e; exact own_othC OL6.out P6 (by decide))
             have f6 := fun i => frozen_of_row _ _ i _ _ P6
             obtain ⟨x0, x1, x2, x3, x4⟩ := cells5 P6
             clear ho hg hbk hz
             refine hK.out _ _ ?_ (fun hHeld => ?_)
             · exact ⟨own_src OL6.out 0 _ rfl, own_src OL6.out 1 _ rfl, own_src OL6.out 2 _ rfl, own_src OL6.out 3 _ rfl, own_src OL6.out 4 _ rfl⟩
             clear hK K
             change wpAnyH _ _ _ _ _ _ _ (Act.put _ (some 81) _) _
             (try simp only [Act.put, List.setIfInBounds_toArray, List.set_cons_zero, List.set_cons_succ])
             refine tkH 20 hHeld ?_
             refine wpAnyH_ready (rs := [21]) (by kernel_rfl) (by simp) ?_
             refine AllReadyH.cons rfl (fun K hK => ?_) AllReadyH.nil
             go_simp
             refine hK.out _ _ ?_ (fun hHeld => ?_)
             · exact ⟨own_src OL7.out 0 _ rfl, own_src OL7.out 1 _ rfl, own_src OL7.out 2 _ rfl, own_src OL7.out 3 _ rfl, own_src OL7.out 4 _ rfl⟩
             clear hK K
             (try simp only [Act.put, List.setIfInBounds_toArray, List.set_cons_zero, List.set_cons_succ])
             refine wpAnyH_done (by kernel_rfl) ?_ _
             have HF3 : Hid (whileF wVehicle 5 5 ro = ppl (Z ++ [[i0, i1, i2, i3, i4]]) (whileF wVehicle 5 (5 - (nv + 1)) r5)) := by
              show _ = _
              rw [HF2.out, HV.out, ppl_snoc]
              all_goals rfl
             have hlen : (Z ++ [[i0, i1, i2, i3, i4]]).length = nv + 1 := by rw [List.length_append, HNV.out]; rfl
             clear x0 x1 x2 x3 x4 f6 P6 OL6 OL7
             generalize w6.setCell ⟨kb, 3, none⟩ (.slice (some ⟨g6, 0, none⟩) (nv + 1) c6) = W6 at *
             go_wp2_with fail
             go_roundw
             case rel => exact ⟨Z ++ [[i0, i1, i2, i3, i4]], _, r5, by rw [hlen]; omega, by omega, by rw [hlen]; exact HF3.out, K6.out⟩
             case measure => rw [K6.out.r.len, MW.out]; omega
           refine AllReadyH.cons rfl (fun K hK => ?_) AllReadyH.nil
           have K5 : Hid (CX w (V9.alloc (.cells #[.int .i64 i0, .int .i64 i1, .int .i64 i2, .int .i64 i3, .int .i64 i4] 62)) q r5 kb n f (.slice za m zc) (.slice oa ny oc) (.slice va nv vc) X.flatten Y Z) := K2d.out.below ((Below.refl _ _).alloc (Nat.le_refl _) _)
           have OL5 : Hid (World.ownsRow (V9.alloc (.cells #[.int .i64 i0, .int .i64 i1, .int .i64 i2, .int .i64 i3, .int .i64 i4] 62)) w9.heap.size 2 1 (.slice (some ⟨gl, 0, none⟩) 5 cl) 5 ([i0, i1, i2, i3, i4].map (Value.int .i64))) := OLd.out.alloc _
           have V5 : Hid ((V9.alloc (.cells #[.int .i64 i0, .int .i64 i1, .int .i64 i2, .int .i64 i3, .int .i64 i4] 62)).heap[V9.heap.size]? = some (.cells ([i0, i1, i2, i3, i4].map (Value.int .i64)).toArray 62 (0, 0))) := heap_alloc_new _ _
           go_simp
           refine hK.out _ _ ?_ (fun hHeld => ?_)
           · exact ⟨own_src OL5.out 0 _ rfl, own_src OL5.out 1 _ rfl, own_src OL5.out 2 _ rfl, own_src OL5.out 3 _ rfl, own_src OL5.out 4 _ rfl⟩
           clear hK K
           generalize (V9.alloc (.cells #[.int .i64 i0, .int .i64 i1, .int .i64 i2, .int .i64 i3, .int .i64 i4] 62)) = w5 at *
           generalize V9.heap.size = b5 at *
           (try simp only [Act.put, List.setIfInBounds_toArray, List.set_cons_zero, List.set_cons_succ])
           refine wpAnyH_ready (rs := [1]) (by kernel_rfl) (by simp) ?_
           refine AllReadyH.cons rfl (fun K hK => ?_) AllReadyH.nil
           obtain ⟨z0, z1, z2, z3, z4⟩ := K5.out.box
           go_simp
           refine hK.out _ _ ?_ (fun hHeld => ?_)
           · exact ⟨own_src OL5.out 0 _ rfl, own_src OL5.out 1 _ rfl, own_src OL5.out 2 _ rfl, own_src OL5.out 3 _ rfl, own_src OL5.out 4 _ rfl⟩
           clear hK K
           clear z0 z1 z2 z3 z4
           (try simp only [Act.put, List.setIfInBounds_toArray, List.set_cons_zero, List.set_cons_succ])
           refine wpAnyH_ready (rs := [19]) (by kernel_rfl) (by simp) ?_
           refine AllReadyH.cons rfl (fun K hK => ?_) AllReadyH.nil
           refine step_append_vals Tryz.underlying26 infoV5 (by rfl) (by omega) rfl (.tmp 63) (.tmp 80) rfl (w.heap.size + 1) (.slice va nv vc) nv (Z.flatten.map (Value.int .i64)) rfl (by have := K5.out.ov; rw [HNV.out] at this; exact this) b5 0 1 1 ([i0, i1, i2, i3, i4].map (Value.int .i64)) rfl rfl (cells6_at _ _ _ _ V5.out) (by intro u hu; obtain ⟨x, -, rfl⟩ := List.mem_map.1 hu; rfl) (by omega) (by omega) K5.out.size ?_
           intro v' w6 ho hg hbk hz
           rcases own_kinds ho with ⟨_, e0⟩ | ⟨g6, c6, e6, -, -⟩
           · omega
           subst e6
           have K6 : Hid (CX w (w6.setCell ⟨kb, 3, none⟩ (.slice (some ⟨g6, 0, none⟩) (nv + 1) c6)) q r5 kb n f (.slice za m zc) (.slice oa ny oc) (.slice (some ⟨g6, 0, none⟩) (nv + 1) c6) X.flatten Y (Z ++ [[i0, i1, i2, i3, i4]])) := K5.out.moreV HQ.out hg (by rw [HNV.out, List.map_append]; exact ho)
           have P6 := grown_row hg K5.out.p (fun e => own_othC K5.out.ov K5.out.p (by decide) e.symm)
           have OL6 : Hid (World.ownsRow w6 w9.heap.size 2 1 (.slice (some ⟨gl, 0, none⟩) 5 cl) 5 ([i0, i1, i2, i3, i4].map (Value.int .i64))) := own_rowC OL5.out hg (own_twoC K5.out.ov OL5.out (by decide))
           have OL7 : Hid (World.ownsRow (w6.setCell ⟨kb, 3, none⟩ (.slice (some ⟨g6, 0, none⟩) (nv + 1) c6)) w9.heap.size 2 1 (.slice (some ⟨gl, 0, none⟩) 5 cl) 5 ([i0, i1, i2, i3, i4].map (Value.int .i64))) := own_rowC OL6.out (grown_set _ _ _ _) (fun k e => by cases e; exact own_othC OL6.out P6 (by decide))
           have f6 := fun i => frozen_of_row _ _ i _ _ P6
           obtain ⟨x0, x1, x2, x3, x4⟩ := cells5 P6
           clear ho hg hbk hz
           refine hK.out _ _ ?_ (fun hHeld => ?_)
           · exact ⟨own_src OL6.out 0 _ rfl, own_src OL6.out 1 _ rfl, own_src OL6.out 2 _ rfl, own_src OL6.out 3 _ rfl, own_src OL6.out 4 _ rfl⟩
           clear hK K
           change wpAnyH _ _ _ _ _ _ _ (Act.put _ (some 81) _) _
           (try simp only [Act.put, List.setIfInBounds_toArray, List.set_cons_zero, List.set_cons_succ])
           refine tkH 20 hHeld ?_
           refine wpAnyH_ready (rs := [21]) (by kernel_rfl) (by simp) ?_
           refine AllReadyH.cons rfl (fun K hK => ?_) AllReadyH.nil
           go_simp
           refine hK.out _ _ ?_ (fun hHeld => ?_)
           · exact ⟨own_src OL7.out 0 _ rfl, own_src OL7.out 1 _ rfl, own_src OL7.out 2 _ rfl, own_src OL7.out 3 _ rfl, own_src OL7.out 4 _ rfl⟩
           clear hK K
           (try simp only [Act.put, List.setIfInBounds_toArray, List.set_cons_zero, List.set_cons_succ])
           refine wpAnyH_done (by kernel_rfl) ?_ _
           have HF3 : Hid (whileF wVehicle 5 5 ro = ppl (Z ++ [[i0, i1, i2, i3, i4]]) (whileF wVehicle 5 (5 - (nv + 1)) r5)) := by
            show _ = _
            rw [HF2.out, HV.out, ppl_snoc]
            all_goals rfl
           have hlen : (Z ++ [[i0, i1, i2, i3, i4]]).length = nv + 1 := by rw [List.length_append, HNV.out]; rfl
           clear x0 x1 x2 x3 x4 f6 P6 OL6 OL7
           generalize w6.setCell ⟨kb, 3, none⟩ (.slice (some ⟨g6, 0, none⟩) (nv + 1) c6) = W6 at *
           go_wp2_with fail
           go_roundw
           case rel => exact ⟨Z ++ [[i0, i1, i2, i3, i4]], _, r5, by rw [hlen]; omega, by omega, by rw [hlen]; exact HF3.out, K6.out⟩
           case measure => rw [K6.out.r.len, MW.out]; omega
         · have hnI : decide ((nv : Int) < 5) = false := decide_eq_false (by omega)
           have HNO : Hid (caseF s = none) := by rw [HC3.out]; unfold restF; rw [HEO.out]; simp only; rw [HFV.out, show 5 - nv = 0 by omega, whileF_full _ _ _ hp]; rfl
           clear hp
           obtain ⟨c0, c1, c2, c3, c4⟩ := KW.out.box
           go_wp2_with fail
           refine C0.mono ?_
           rintro e w' ⟨rfl, rfl⟩
           go_wp2_with fail
           with_reducible refine (must_no _ _).mono ?_
           rintro e w' ⟨rfl, rfl⟩
           exact ⟨rfl, .inr ⟨HNO.out, rfl, KW.out.g⟩⟩
    · rw [hp] at C0
      by_cases hn : ny < 12
      · have hnI : (ny : Int) < 12 := by omega
        have HF2 : Hid (whileF wOrder 6 12 r4 = ppl Y (match lineF wOrder 6 rest with
         | none => none
         | some (l, r) => match whileF wOrder 6 (12 - (ny + 1)) r with | none => none | some (X, r2) => some (l :: X, r2))) := by
         show _ = _
         rw [HFY.out, show 12 - ny = (12 - (ny + 1)) + 1 by omega, whileF_one _ _ _ _ hp]
         all_goals rfl
        clear hp HFY
        obtain ⟨c0, c1, c2, c3, c4⟩ := KW.out.box
        have CL : Calls Tryz.prog 63 #[.pointer (some ⟨q, 0, none⟩), .string ⟨#[111, 114, 100, 101, 114]⟩, .int .i64 6] wr (LineOk wr q (lineF wOrder 6 rest)) := line_any q 6 rest wOrder wr KW.out.r (by omega) (by omega)
        go_wp2_with fail
        refine C0.mono ?_
        rintro e w' ⟨rfl, rfl⟩
        go_wp2_with fail
        with_reducible refine (must_yes _ _).mono ?_
        rintro e w' ⟨rfl, rfl⟩
        clear c0 c1 c2 c3 c4 C0
        go_wp2_with fail
        refine CL.mono ?_
        rintro e w2 (⟨l, r5, sl, hv, rfl, hr5, hg5, ho5⟩ | ⟨hv, rfl, hg5⟩)
        rotate_left
        · exact ⟨rfl, .inr ⟨by rw [HC3.out]; unfold restF; rw [HF2.out, hv]; rfl, rfl, grown_trans KW.out.g hg5⟩⟩
        obtain ⟨hl1, hl2, -⟩ := lineF_is hv
        obtain ⟨i0, i1, i2, i3, i4, i5, rfl⟩ : ∃ i0 i1 i2 i3 i4 i5, l = [i0, i1, i2, i3, i4, i5] := by
         match l, hl2 with
         | [i0, i1, i2, i3, i4, i5], _ => exact ⟨i0, i1, i2, i3, i4, i5, rfl⟩
        have hr5l : r5.length < rest.length := by
         have := congrArg List.length hl1
         rw [List.length_append] at this
         have h9 : 0 < (lineL wOrder [i0, i1, i2, i3, i4, i5]).length := by unfold lineL wOrder; simp
         omega
        rcases own_kinds ho5 with ⟨_, e0⟩ | ⟨gl, cl, e5, -, -⟩
        · simp at e0
        subst e5
        have HV : Hid (lineF wOrder 6 rest = some ([i0, i1, i2, i3, i4, i5], r5)) := hv
        have MW : Hid (rdLen w' q = rest.length) := KW.out.r.len
        have K2 : Hid (CX w w2 q r5 kb n f (.slice za m zc) (.slice oa ny oc) (.slice none 0 0) X.flatten Y []) := KW.out.call HQ.out hg5 hr5
        obtain ⟨w9, HW9⟩ : ∃ v, Hid (w' = v) := ⟨_, rfl⟩
        rw [HW9.out] at ho5
        have OL2 : Hid (World.ownsRow w2 w9.heap.size 2 1 (.slice (some ⟨gl, 0, none⟩) 6 cl) 6 ([i0, i1, i2, i3, i4, i5].map (Value.int .i64))) := ho5
        have D2 : w2.drew.cell? ⟨gl, 0, none⟩ = some (.int .i64 i0) /\ w2.drew.cell? ⟨gl, 1, none⟩ = some (.int .i64 i1) /\ w2.drew.cell? ⟨gl, 2, none⟩ = some (.int .i64 i2) /\ w2.drew.cell? ⟨gl, 3, none⟩ = some (.int .i64 i3) /\ w2.drew.cell? ⟨gl, 4, none⟩ = some (.int .i64 i4) /\ w2.drew.cell? ⟨gl, 5, none⟩ = some (.int .i64 i5) := ⟨own_src ho5.drew 0 _ rfl, own_src ho5.drew 1 _ rfl, own_src ho5.drew 2 _ rfl, own_src ho5.drew 3 _ rfl, own_src ho5.drew 4 _ rfl, own_src ho5.drew 5 _ rfl⟩
        clear hv hl1 hl2 hr5 hg5 ho5 CL KW
        go_wp2_with fail
        refine wp_region_held_drew (S := (fun W => W.cell? ⟨gl, 0, none⟩ = some (.int .i64 i0) /\ W.cell? ⟨gl, 1, none⟩ = some (.int .i64 i1) /\ W.cell? ⟨gl, 2, none⟩ = some (.int .i64 i2) /\ W.cell? ⟨gl, 3, none⟩ = some (.int .i64 i3) /\ W.cell? ⟨gl, 4, none⟩ = some (.int .i64 i4) /\ W.cell? ⟨gl, 5, none⟩ = some (.int .i64 i5))) (by kernel_rfl) ?_ (fun hHeld => ?_)
        · exact D2
        have K2d : Hid (CX w w2.drew q r5 kb n f (.slice za m zc) (.slice oa ny oc) (.slice none 0 0) X.flatten Y []) := K2.out.below (Below.refl _ _).drew
        have OLd : Hid (World.ownsRow w2.drew w9.heap.size 2 1 (.slice (some ⟨gl, 0, none⟩) 6 cl) 6 ([i0, i1, i2, i3, i4, i5].map (Value.int .i64))) := OL2.out.drew
        clear K2 OL2 D2
        generalize w2.drew = V9 at *
        refine tkH 0 hHeld ?_
        refine tkH 2 hHeld ?_
        refine tkH 3 hHeld ?_
        refine tkH 4 hHeld ?_
        refine tkH 5 hHeld ?_
        refine tkH 6 hHeld ?_
        refine tkH 7 hHeld ?_
        refine tkH 8 hHeld ?_
        refine tkH 9 hHeld ?_
        refine tkH 10 hHeld ?_
        refine tkH 11 hHeld ?_
        refine tkH 12 hHeld ?_
        refine tkH 13 hHeld ?_
        refine tkH 14 hHeld ?_
        refine tkH 15 hHeld ?_
        refine tkH 16 hHeld ?_
        refine tkH 17 hHeld ?_
        refine tkH 18 hHeld ?_
        refine tkH 19 hHeld ?_
        refine tkH 20 hHeld ?_
        refine wpAnyH_ready (rs := [1, 21]) (by kernel_rfl) (by simp) ?_
        refine AllReadyH.cons rfl (fun K hK => ?_) ?_
        · skip
          obtain ⟨z0, z1, z2, z3, z4⟩ := K2d.out.box
          go_simp
          refine hK.out _ _ ?_ (fun hHeld => ?_)
          · exact ⟨own_src OLd.out 0 _ rfl, own_src OLd.out 1 _ rfl, own_src OLd.out 2 _ rfl, own_src OLd.out 3 _ rfl, own_src OLd.out 4 _ rfl, own_src OLd.out 5 _ rfl⟩
          clear hK K
          clear z0 z1 z2 z3 z4
          (try simp only [Act.put, List.setIfInBounds_toArray, List.set_cons_zero, List.set_cons_succ])
          refine wpAnyH_ready (rs := [21]) (by kernel_rfl) (by simp) ?_
          refine AllReadyH.cons rfl (fun K hK => ?_) AllReadyH.nil
          have K5 : Hid (CX w (V9.alloc (.cells #[.int .i64 i0, .int .i64 i1, .int .i64 i2, .int .i64 i3, .int .i64 i4, .int .i64 i5] 60)) q r5 kb n f (.slice za m zc) (.slice oa ny oc) (.slice none 0 0) X.flatten Y []) := K2d.out.below ((Below.refl _ _).alloc (Nat.le_refl _) _)
          have OL5 : Hid (World.ownsRow (V9.alloc (.cells #[.int .i64 i0, .int .i64 i1, .int .i64 i2, .int .i64 i3, .int .i64 i4, .int .i64 i5] 60)) w9.heap.size 2 1 (.slice (some ⟨gl, 0, none⟩) 6 cl) 6 ([i0, i1, i2, i3, i4, i5].map (Value.int .i64))) := OLd.out.alloc _
          have V5 : Hid ((V9.alloc (.cells #[.int .i64 i0, .int .i64 i1, .int .i64 i2, .int .i64 i3, .int .i64 i4, .int .i64 i5] 60)).heap[V9.heap.size]? = some (.cells ([i0, i1, i2, i3, i4, i5].map (Value.int .i64)).toArray 60 (0, 0))) := heap_alloc_new _ _
          go_simp
          refine hK.out _ _ ?_ (fun hHeld => ?_)
          · exact ⟨own_src OL5.out 0 _ rfl, own_src OL5.out 1 _ rfl, own_src OL5.out 2 _ rfl, own_src OL5.out 3 _ rfl, own_src OL5.out 4 _ rfl, own_src OL5.out 5 _ rfl⟩
          clear hK K
          generalize (V9.alloc (.cells #[.int .i64 i0, .int .i64 i1, .int .i64 i2, .int .i64 i3, .int .i64 i4, .int .i64 i5] 60)) = w5 at *
          generalize V9.heap.size = b5 at *
          (try simp only [Act.put, List.setIfInBounds_toArray, List.set_cons_zero, List.set_cons_succ])
          refine wpAnyH_ready (rs := [22]) (by kernel_rfl) (by simp) ?_
          refine AllReadyH.cons rfl (fun K hK => ?_) AllReadyH.nil
          refine step_append_vals Tryz.underlying25 infoO6 (by rfl) (by omega) rfl (.tmp 29) (.tmp 49) rfl (w.heap.size + 1) (.slice oa ny oc) ny (Y.flatten.map (Value.int .i64)) rfl (by have := K5.out.oo; rw [HNY.out] at this; exact this) b5 0 1 1 ([i0, i1, i2, i3, i4, i5].map (Value.int .i64)) rfl rfl (cells6_at _ _ _ _ V5.out) (by intro u hu; obtain ⟨x, -, rfl⟩ := List.mem_map.1 hu; rfl) (by omega) (by omega) K5.out.size ?_
          intro v' w6 ho hg hbk hz
          rcases own_kinds ho with ⟨_, e0⟩ | ⟨g6, c6, e6, -, -⟩
          · omega
          subst e6
          have K6 : Hid (CX w (w6.setCell ⟨kb, 2, none⟩ (.slice (some ⟨g6, 0, none⟩) (ny + 1) c6)) q r5 kb n f (.slice za m zc) (.slice (some ⟨g6, 0, none⟩) (ny + 1) c6) (.slice none 0 0) X.flatten (Y ++ [[i0, i1, i2, i3, i4, i5]]) []) := K5.out.moreO HQ.out hg (by rw [HNY.out, List.map_append]; exact ho)
          have P6 := grown_row hg K5.out.p (fun e => own_othC K5.out.oo K5.out.p (by decide) e.symm)
          have OL6 : Hid (World.ownsRow w6 w9.heap.size 2 1 (.slice (some ⟨gl, 0, none⟩) 6 cl) 6 ([i0, i1, i2, i3, i4, i5].map (Value.int .i64))) := own_rowC OL5.out hg (own_twoC K5.out.oo OL5.out (by decide))
          have OL7 : Hid (World.ownsRow (w6.setCell ⟨kb, 2, none⟩ (.slice (some ⟨g6, 0, none⟩) (ny + 1) c6)) w9.heap.size 2 1 (.slice (some ⟨gl, 0, none⟩) 6 cl) 6 ([i0, i1, i2, i3, i4, i5].map (Value.int .i64))) := own_rowC OL6.out (grown_set _ _ _ _) (fun k e => by cases e; exact own_othC OL6.out P6 (by decide))
          have f6 := fun i => frozen_of_row _ _ i _ _ P6
          obtain ⟨x0, x1, x2, x3, x4⟩ := cells5 P6
          clear ho hg hbk hz
          refine hK.out _ _ ?_ (fun hHeld => ?_)
          · exact ⟨own_src OL6.out 0 _ rfl, own_src OL6.out 1 _ rfl, own_src OL6.out 2 _ rfl, own_src OL6.out 3 _ rfl, own_src OL6.out 4 _ rfl, own_src OL6.out 5 _ rfl⟩
          clear hK K
          change wpAnyH _ _ _ _ _ _ _ (Act.put _ (some 50) _) _
          (try simp only [Act.put, List.setIfInBounds_toArray, List.set_cons_zero, List.set_cons_succ])
          refine tkH 23 hHeld ?_
          refine wpAnyH_ready (rs := [24]) (by kernel_rfl) (by simp) ?_
          refine AllReadyH.cons rfl (fun K hK => ?_) AllReadyH.nil
          go_simp
          refine hK.out _ _ ?_ (fun hHeld => ?_)
          · exact ⟨own_src OL7.out 0 _ rfl, own_src OL7.out 1 _ rfl, own_src OL7.out 2 _ rfl, own_src OL7.out 3 _ rfl, own_src OL7.out 4 _ rfl, own_src OL7.out 5 _ rfl⟩
          clear hK K
          (try simp only [Act.put, List.setIfInBounds_toArray, List.set_cons_zero, List.set_cons_succ])
          refine wpAnyH_done (by kernel_rfl) ?_ _
          have HF3 : Hid (whileF wOrder 6 12 r4 = ppl (Y ++ [[i0, i1, i2, i3, i4, i5]]) (whileF wOrder 6 (12 - (ny + 1)) r5)) := by
           show _ = _
           rw [HF2.out, HV.out, ppl_snoc]
           all_goals rfl
          have hlen : (Y ++ [[i0, i1, i2, i3, i4, i5]]).length = ny + 1 := by rw [List.length_append, HNY.out]; rfl
          clear x0 x1 x2 x3 x4 f6 P6 OL6 OL7
          generalize w6.setCell ⟨kb, 2, none⟩ (.slice (some ⟨g6, 0, none⟩) (ny + 1) c6) = W6 at *
          go_wp2_with fail
          go_roundw
          case rel => exact ⟨Y ++ [[i0, i1, i2, i3, i4, i5]], _, r5, by rw [hlen]; omega, by omega, by rw [hlen]; exact HF3.out, K6.out⟩
          case measure => rw [K6.out.r.len, MW.out]; omega
        refine AllReadyH.cons rfl (fun K hK => ?_) AllReadyH.nil
        have K5 : Hid (CX w (V9.alloc (.cells #[.int .i64 i0, .int .i64 i1, .int .i64 i2, .int .i64 i3, .int .i64 i4, .int .i64 i5] 60)) q r5 kb n f (.slice za m zc) (.slice oa ny oc) (.slice none 0 0) X.flatten Y []) := K2d.out.below ((Below.refl _ _).alloc (Nat.le_refl _) _)
        have OL5 : Hid (World.ownsRow (V9.alloc (.cells #[.int .i64 i0, .int .i64 i1, .int .i64 i2, .int .i64 i3, .int .i64 i4, .int .i64 i5] 60)) w9.heap.size 2 1 (.slice (some ⟨gl, 0, none⟩) 6 cl) 6 ([i0, i1, i2, i3, i4, i5].map (Value.int .i64))) := OLd.out.alloc _
        have V5 : Hid ((V9.alloc (.cells #[.int .i64 i0, .int .i64 i1, .int .i64 i2, .int .i64 i3, .int .i64 i4, .int .i64 i5] 60)).heap[V9.heap.size]? = some (.cells ([i0, i1, i2, i3, i4, i5].map (Value.int .i64)).toArray 60 (0, 0))) := heap_alloc_new _ _
        go_simp
        refine hK.out _ _ ?_ (fun hHeld => ?_)
        · exact ⟨own_src OL5.out 0 _ rfl, own_src OL5.out 1 _ rfl, own_src OL5.out 2 _ rfl, own_src OL5.out 3 _ rfl, own_src OL5.out 4 _ rfl, own_src OL5.out 5 _ rfl⟩
        clear hK K
        generalize (V9.alloc (.cells #[.int .i64 i0, .int .i64 i1, .int .i64 i2, .int .i64 i3, .int .i64 i4, .int .i64 i5] 60)) = w5 at *
        generalize V9.heap.size = b5 at *
        (try simp only [Act.put, List.setIfInBounds_toArray, List.set_cons_zero, List.set_cons_succ])
        refine wpAnyH_ready (rs := [1]) (by kernel_rfl) (by simp) ?_
        refine AllReadyH.cons rfl (fun K hK => ?_) AllReadyH.nil
        obtain ⟨z0, z1, z2, z3, z4⟩ := K5.out.box
        go_simp
        refine hK.out _ _ ?_ (fun hHeld => ?_)
        · exact ⟨own_src OL5.out 0 _ rfl, own_src OL5.out 1 _ rfl, own_src OL5.out 2 _ rfl, own_src OL5.out 3 _ rfl, own_src OL5.out 4 _ rfl, own_src OL5.out 5 _ rfl⟩
        clear hK K
        clear z0 z1 z2 z3 z4
        (try simp only [Act.put, List.setIfInBounds_toArray, List.set_cons_zero, List.set_cons_succ])
        refine wpAnyH_ready (rs := [22]) (by kernel_rfl) (by simp) ?_
        refine AllReadyH.cons rfl (fun K hK => ?_) AllReadyH.nil
        refine step_append_vals Tryz.underlying25 infoO6 (by rfl) (by omega) rfl (.tmp 29) (.tmp 49) rfl (w.heap.size + 1) (.slice oa ny oc) ny (Y.flatten.map (Value.int .i64)) rfl (by have := K5.out.oo; rw [HNY.out] at this; exact this) b5 0 1 1 ([i0, i1, i2, i3, i4, i5].map (Value.int .i64)) rfl rfl (cells6_at _ _ _ _ V5.out) (by intro u hu; obtain ⟨x, -, rfl⟩ := List.mem_map.1 hu; rfl) (by omega) (by omega) K5.out.size ?_
        intro v' w6 ho hg hbk hz
        rcases own_kinds ho with ⟨_, e0⟩ | ⟨g6, c6, e6, -, -⟩
        · omega
        subst e6
        have K6 : Hid (CX w (w6.setCell ⟨kb, 2, none⟩ (.slice (some ⟨g6, 0, none⟩) (ny + 1) c6)) q r5 kb n f (.slice za m zc) (.slice (some ⟨g6, 0, none⟩) (ny + 1) c6) (.slice none 0 0) X.flatten (Y ++ [[i0, i1, i2, i3, i4, i5]]) []) := K5.out.moreO HQ.out hg (by rw [HNY.out, List.map_append]; exact ho)
        have P6 := grown_row hg K5.out.p (fun e => own_othC K5.out.oo K5.out.p (by decide) e.symm)
        have OL6 : Hid (World.ownsRow w6 w9.heap.size 2 1 (.slice (some ⟨gl, 0, none⟩) 6 cl) 6 ([i0, i1, i2, i3, i4, i5].map (Value.int .i64))) := own_rowC OL5.out hg (own_twoC K5.out.oo OL5.out (by decide))
        have OL7 : Hid (World.ownsRow (w6.setCell ⟨kb, 2, none⟩ (.slice (some ⟨g6, 0, none⟩) (ny + 1) c6)) w9.heap.size 2 1 (.slice (some ⟨gl, 0, none⟩) 6 cl) 6 ([i0, i1, i2, i3, i4, i5].map (Value.int .i64))) := own_rowC OL6.out (grown_set _ _ _ _) (fun k e => by cases e; exact own_othC OL6.out P6 (by decide))
        have f6 := fun i => frozen_of_row _ _ i _ _ P6
        obtain ⟨x0, x1, x2, x3, x4⟩ := cells5 P6
        clear ho hg hbk hz
        refine hK.out _ _ ?_ (fun hHeld => ?_)
        · exact ⟨own_src OL6.out 0 _ rfl, own_src OL6.out 1 _ rfl, own_src OL6.out 2 _ rfl, own_src OL6.out 3 _ rfl, own_src OL6.out 4 _ rfl, own_src OL6.out 5 _ rfl⟩
        clear hK K
        change wpAnyH _ _ _ _ _ _ _ (Act.put _ (some 50) _) _
        (try simp only [Act.put, List.setIfInBounds_toArray, List.set_cons_zero, List.set_cons_succ])
        refine tkH 23 hHeld ?_
        refine wpAnyH_ready (rs := [24]) (by kernel_rfl) (by simp) ?_
        refine AllReadyH.cons rfl (fun K hK => ?_) AllReadyH.nil
        go_simp
        refine hK.out _ _ ?_ (fun hHeld => ?_)
        · exact ⟨own_src OL7.out 0 _ rfl, own_src OL7.out 1 _ rfl, own_src OL7.out 2 _ rfl, own_src OL7.out 3 _ rfl, own_src OL7.out 4 _ rfl, own_src OL7.out 5 _ rfl⟩
        clear hK K
        (try simp only [Act.put, List.setIfInBounds_toArray, List.set_cons_zero, List.set_cons_succ])
        refine wpAnyH_done (by kernel_rfl) ?_ _
        have HF3 : Hid (whileF wOrder 6 12 r4 = ppl (Y ++ [[i0, i1, i2, i3, i4, i5]]) (whileF wOrder 6 (12 - (ny + 1)) r5)) := by
         show _ = _
         rw [HF2.out, HV.out, ppl_snoc]
         all_goals rfl
        have hlen : (Y ++ [[i0, i1, i2, i3, i4, i5]]).length = ny + 1 := by rw [List.length_append, HNY.out]; rfl
        clear x0 x1 x2 x3 x4 f6 P6 OL6 OL7
        generalize w6.setCell ⟨kb, 2, none⟩ (.slice (some ⟨g6, 0, none⟩) (ny + 1) c6) = W6 at *
        go_wp2_with fail
        go_roundw
        case rel => exact ⟨Y ++ [[i0, i1, i2, i3, i4, i5]], _, r5, by rw [hlen]; omega, by omega, by rw [hlen]; exact HF3.out, K6.out⟩
        case measure => rw [K6.out.r.len, MW.out]; omega
      · have hnI : decide ((ny : Int) < 12) = false := decide_eq_false (by omega)
        have HNO : Hid (caseF s = none) := by rw [HC3.out]; unfold restF; rw [HFY.out, show 12 - ny = 0 by omega, whileF_full _ _ _ hp]; rfl
        clear hp
        obtain ⟨c0, c1, c2, c3, c4⟩ := KW.out.box
        go_wp2_with fail
        refine C0.mono ?_
        rintro e w' ⟨rfl, rfl⟩
        go_wp2_with fail
        with_reducible refine (must_no _ _).mono ?_
        rintro e w' ⟨rfl, rfl⟩
        exact ⟨rfl, .inr ⟨HNO.out, rfl, KW.out.g⟩⟩
 refine AllReadyH.cons rfl (fun K hK => ?_) AllReadyH.nil
 have RA : Hid (RX (V0.alloc (.cells #[.int .i64 0, .slice none 0 0, .slice none 0 0, .slice none 0 0, .int .i64 0] 28)) q r1) := R2.out.alloc _
 have GA : Hid (w.grownBy (V0.alloc (.cells #[.int .i64 0, .slice none 0 0, .slice none 0 0, .slice none 0 0, .int .i64 0] 28)) (some q)) := grown_allocR G2.out _
 have ZA : Hid ((V0.alloc (.cells #[.int .i64 0, .slice none 0 0, .slice none 0 0, .slice none 0 0, .int .i64 0] 28)).heap[w.heap.size]? = some (.cells #[.int .i64 0, .slice none 0 0, .slice none 0 0, .slice none 0 0, .int .i64 0] 28 (0, 0))) := (heap_alloc_old _ _ (row_lt Z2.out)).trans Z2.out
 have HA : Hid (World.ownsRow (V0.alloc (.cells #[.int .i64 0, .slice none 0 0, .slice none 0 0, .slice none 0 0, .int .i64 0] 28)) W0.heap.size 2 1 (.slice (some ⟨gh, 0, none⟩) 2 ch) 2 ([n, f].map (Value.int .i64))) := H2.out.alloc _
 have PA : Hid ((V0.alloc (.cells #[.int .i64 0, .slice none 0 0, .slice none 0 0, .slice none 0 0, .int .i64 0] 28)).heap[V0.heap.size]? = some (.cells #[.int .i64 0, .slice none 0 0, .slice none 0 0, .slice none 0 0, .int .i64 0] 28 (0, 0))) := heap_alloc_new _ _
 have KA : Hid (w.heap.size < V0.heap.size) := row_lt Z2.out
 go_simp
 refine hK.out _ _ ?_ (fun hHeld => ?_)
 · exact ⟨own_src HA.out 0 _ rfl, own_src HA.out 1 _ rfl⟩
 clear hK K
 generalize (V0.alloc (.cells #[.int .i64 0, .slice none 0 0, .slice none 0 0, .slice none 0 0, .int .i64 0] 28)) = wA at *
 generalize V0.heap.size = kb at *
 (try simp only [Act.put, List.setIfInBounds_toArray, List.set_cons_zero, List.set_cons_succ])
 refine wpAnyH_ready (rs := [4]) (by kernel_rfl) (by simp) ?_
 refine AllReadyH.cons rfl (fun K hK => ?_) AllReadyH.nil
 go_simp
 refine (takeMatrix_any q n r1 wA RA.out (by omega)).mono ?_
 rintro e w3 (⟨X, r4, zl, hv, rfl, hr3, hg3, ho3⟩ | ⟨hv, rfl, hg3⟩)
 rotate_left
 · exact ⟨rfl, .inr ⟨by rw [HC2.out, hv], rfl, grown_trans GA.out hg3⟩⟩
 have HC3 : Hid (caseF s = restF n f X r4) := by show _ = _; rw [HC2.out, hv]
 have hr4l : r4.length <= r1.length := by
  unfold matF at hv
  split at hv
  · have := congrArg List.length (lnsF_is _ _ _ _ _ _ hv).1
    rw [List.length_append] at this
    omega
  · cases hv
 have R3 : Hid (RX w3 q r4) := hr3
 have G3 : Hid (w.grownBy w3 (some q)) := grown_trans GA.out hg3
 have Z3 : Hid (w3.heap[w.heap.size]? = some (.cells #[.int .i64 0, .slice none 0 0, .slice none 0 0, .slice none 0 0, .int .i64 0] 28 (0, 0))) := grown_row hg3 ZA.out (by simp; omega)
 have H3 : Hid (w3.ownsRow W0.heap.size 2 1 (.slice (some ⟨gh, 0, none⟩) 2 ch) 2 ([n, f].map (Value.int .i64))) := own_rowC HA.out hg3 (fun k e => by cases e; have := HGH.out; simp [Value.ownBlock]; omega)
 have M3 : Hid (w3.ownsRow (w.heap.size + 1) 2 1 zl X.flatten.length (X.flatten.map (Value.int .i64))) := owns_base ho3 (by have := row_lt ZA.out; omega)
 have P3 : Hid (w3.heap[kb]? = some (.cells #[.int .i64 0, .slice none 0 0, .slice none 0 0, .slice none 0 0, .int .i64 0] 28 (0, 0))) := grown_row hg3 PA.out (by have := KA.out; simp; omega)
 obtain ⟨za, zc, ez, -⟩ := own_sl M3.out
 subst ez
 obtain ⟨m, HMM⟩ : ∃ m, Hid (X.flatten.length = m) := ⟨_, rfl⟩
 rw [HMM.out] at M3 ⊢
 clear hv hr3 hg3 ho3
 (try go_wp2_with fail)
 refine hK.out _ _ ?_ (fun hHeld => ?_)
 · exact ⟨own_src H3.out 0 _ rfl, own_src H3.out 1 _ rfl⟩
 clear hK K
 (try simp only [Act.put, List.setIfInBounds_toArray, List.set_cons_zero, List.set_cons_succ])
 refine tkH 8 hHeld ?_
 refine wpAnyH_ready (rs := [10]) (by kernel_rfl) (by simp) ?_
 refine AllReadyH.cons rfl (fun K hK => ?_) AllReadyH.nil
 obtain ⟨y0, y1, y2, y3, y4⟩ := cells5 P3.out
 have yf := fun i => frozen_of_row _ _ i _ _ P3.out
 have GS : Hid (World.grownBy w3 (((((w3.setCell ⟨kb, 0, none⟩ (.int .i64 n)).setCell ⟨kb, 1, none⟩ (.slice za m zc)).setCell ⟨kb, 2, none⟩ (.slice none 0 0)).setCell ⟨kb, 3, none⟩ (.slice none 0 0)).setCell ⟨kb, 4, none⟩ (.int .i64 f)) (some kb)) := grown_trans (grown_trans (grown_trans (grown_trans (grown_set _ _ _ _) (grown_set _ _ _ _)) (grown_set _ _ _ _)) (grown_set _ _ _ _)) (grown_set _ _ _ _)
 have hkA := KA.out
 have CX0 : Hid (CX w (((((w3.setCell ⟨kb, 0, none⟩ (.int .i64 n)).setCell ⟨kb, 1, none⟩ (.slice za m zc)).setCell ⟨kb, 2, none⟩ (.slice none 0 0)).setCell ⟨kb, 3, none⟩ (.slice none 0 0)).setCell ⟨kb, 4, none⟩ (.int .i64 f)) q r4 kb n f (.slice za m zc) (.slice none 0 0) (.slice none 0 0) X.flatten [] []) := ⟨grown_ownR G3.out GS.out (fun g e => by simp at e; omega), R3.out.grown GS.out (by simp; omega), grown_row GS.out Z3.out (by simp; omega), heap_setCell_same _ _ _ _ _ _ (heap_setCell_same _ _ _ _ _ _ (heap_setCell_same _ _ _ _ _ _ (heap_setCell_same _ _ _ _ _ _ (heap_setCell_same _ _ _ _ _ _ P3.out)))), KA.out, (by rw [HMM.out]; exact own_rowC M3.out GS.out (fun k e => by cases e; exact own_othC M3.out P3.out (by decide))), ⟨by simp, .inl ⟨rfl, rfl⟩⟩, ⟨by simp, .inl ⟨rfl, rfl⟩⟩⟩
 have HS : Hid (World.ownsRow (((((w3.setCell ⟨kb, 0, none⟩ (.int .i64 n)).setCell ⟨kb, 1, none⟩ (.slice za m zc)).setCell ⟨kb, 2, none⟩ (.slice none 0 0)).setCell ⟨kb, 3, none⟩ (.slice none 0 0)).setCell ⟨kb, 4, none⟩ (.int .i64 f)) W0.heap.size 2 1 (.slice (some ⟨gh, 0, none⟩) 2 ch) 2 ([n, f].map (Value.int .i64))) := own_rowC H3.out GS.out (fun k e => by cases e; exact own_othC H3.out P3.out (by decide))
 go_simp
 refine hK.out _ _ ?_ (fun hHeld => ?_)
 · exact ⟨own_src HS.out 0 _ rfl, own_src HS.out 1 _ rfl⟩
 clear hK K
 clear y0 y1 y2 y3 y4 yf GS HS
 generalize (((((w3.setCell ⟨kb, 0, none⟩ (.int .i64 n)).setCell ⟨kb, 1, none⟩ (.slice za m zc)).setCell ⟨kb, 2, none⟩ (.slice none 0 0)).setCell ⟨kb, 3, none⟩ (.slice none 0 0)).setCell ⟨kb, 4, none⟩ (.int .i64 f)) = W4 at *
 (try simp only [Act.put, List.setIfInBounds_toArray, List.set_cons_zero, List.set_cons_succ])
 refine wpAnyH_done (by kernel_rfl) ?_ _
 clear R3 G3 Z3 H3 M3 RA GA ZA HA PA KA hkA P3 HGH R2 G2 Z2 H2 HC2 hHeld
 go_wp2_with fail
 go_loopw [5] (fun _ wr => ∃ (Y : List (List Int)) (sv : Value) (rest : List UInt8), Y.length <= 12 /\ rest.length <= r4.length /\ whileF wOrder 6 12 r4 = ppl Y (whileF wOrder 6 (12 - Y.length) rest) /\ CX w wr q rest kb n f (.slice za m zc) sv (.slice none 0 0) X.flatten Y []) (fun _ wr => rdLen wr q)
 case atStart => exact ⟨[], _, r4, by simp, Nat.le_refl _, by rw [ppl_nil]; rfl, CX0.out⟩
 case round =>
  clear CX0
  obtain ⟨Y, sv, rest, hS, hrl, hf, hk⟩ := hrel
  have HFY : Hid (whileF wOrder 6 12 r4 = ppl Y (whileF wOrder 6 (12 - Y.length) rest)) := hf
  have KW : Hid (CX w wr q rest kb n f (.slice za m zc) sv (.slice none 0 0) X.flatten Y []) := hk
  clear hf hk
  obtain ⟨ny, HNY⟩ : ∃ k, Hid (Y.length = k) := ⟨_, rfl⟩
  rw [HNY.out] at hS HFY
  obtain ⟨oa, oc, e, -⟩ := own_sl KW.out.oo
  rw [HNY.out] at e
  subst e
  have C0 : Calls Tryz.prog 31 #[.pointer (some ⟨q, 0, none⟩), .string ⟨#[111, 114, 100, 101, 114]⟩] wr fun e w' => e = .returned (.bool ((wOrder ++ [32]).isPrefixOf rest)) /\ w' = wr := atLine_any q rest wOrder wr KW.out.r (by omega) (by simp [wOrder])
  cases hp : (wOrder ++ [32]).isPrefixOf rest
  · rw [hp] at C0
    have HEO : Hid (whileF wOrder 6 12 r4 = some (Y, rest)) := by
     show _ = _
     rw [HFY.out, whileF_end _ _ _ _ hp]
     simp [ppl]
    clear hp HFY
    go_wp2_with fail
    refine C0.mono ?_
    rintro e w' ⟨rfl, rfl⟩
    clear C0
    have CXV : Hid (CX w w' q rest kb n f (.slice za m zc) (.slice oa ny oc) (.slice none 0 0) X.flatten Y []) := KW.out
    have hro : rest.length <= r1.length := by omega
    clear KW hrl
    generalize rest = ro at *
    go_wp2_with fail
    generalize w' = wv at *
    go_loopw [6] (fun _ wr => ∃ (Z : List (List Int)) (sv : Value) (rest : List UInt8), Z.length <= 5 /\ rest.length <= ro.length /\ whileF wVehicle 5 5 ro = ppl Z (whileF wVehicle 5 (5 - Z.length) rest) /\ CX w wr q rest kb n f (.slice za m zc) (.slice oa ny oc) sv X.flatten Y Z) (fun _ wr => rdLen wr q)
    case atStart => exact ⟨[], _, ro, by simp, Nat.le_refl _, by rw [ppl_nil]; rfl, CXV.out⟩
    case round =>
     clear CXV
     obtain ⟨Z, sv, rest, hS, hrl, hf, hk⟩ := hrel
     have HFV : Hid (whileF wVehicle 5 5 ro = ppl Z (whileF wVehicle 5 (5 - Z.length) rest)) := hf
     have KW : Hid (CX w wr q rest kb n f (.slice za m zc) (.slice oa ny oc) sv X.flatten Y Z) := hk
     clear hf hk
     obtain ⟨nv, HNV⟩ : ∃ k, Hid (Z.length = k) := ⟨_, rfl⟩
     rw [HNV.out] at hS HFV
     obtain ⟨va, vc, e, -⟩ := own_sl KW.out.ov
     rw [HNV.out] at e
     subst e
     have C0 : Calls Tryz.prog 31 #[.pointer (some ⟨q, 0, none⟩), .string ⟨#[118, 101, 104, 105, 99, 108, 101]⟩] wr fun e w' => e = .returned (.bool ((wVehicle ++ [32]).isPrefixOf rest)) /\ w' = wr := atLine_any q rest wVehicle wr KW.out.r (by omega) (by simp [wVehicle])
     cases hp : (wVehicle ++ [32]).isPrefixOf rest
     · rw [hp] at C0
       have HEV : Hid (whileF wVehicle 5 5 ro = some (Z, rest)) := by
        show _ = _
        rw [HFV.out, whileF_end _ _ _ _ hp]
        simp [ppl]
       clear hp HFV
       go_wp2_with fail
       refine C0.mono ?_
       rintro e w' ⟨rfl, rfl⟩
       clear C0
       have HCE : Hid (caseF s = if (mkCV n f X Y Z).ok = true then some (mkCV n f X Y Z, rest) else none) := by
        show _ = _
        rw [HC3.out]
        unfold restF
        rw [HEO.out]
        simp only
        rw [HEV.out]
       have HOK : Hid ((mkCV n f X Y Z).ok = caseB n X.flatten Y.flatten Z.flatten ny nv f) := by show _ = _; unfold CV.ok mkCV; simp only; rw [HNY.out, HNV.out]
       have lo : Y.flatten.length = ny * 6 := by have := KW.out.oo.1; rw [List.length_map, HNY.out] at this; exact this
       have lv : Z.flatten.length = nv * 5 := by have := KW.out.ov.1; rw [List.length_map, HNV.out] at this; exact this
       have CC := implCase_any n f za oa va zc ny oc nv vc X.flatten Y.flatten Z.flatten w' (own_intsC (n := m) (c := zc) (by have := KW.out.oz; rw [HMM.out] at this; exact this)) (own_intsC (n := ny) (c := oc) (by have := KW.out.oo; rw [HNY.out] at this; exact this)) (own_intsC (n := nv) (c := vc) (by have := KW.out.ov; rw [HNV.out] at this; exact this)) lo lv (by omega) (by omega)
       rw [HMM.out] at CC
       clear lo lv
       rw [HOK.out] at HCE
       generalize caseB n X.flatten Y.flatten Z.flatten ny nv f = bb at *
       obtain ⟨c0, c1, c2, c3, c4⟩ := KW.out.box
       go_wp2_with fail
       clear c0 c1 c2 c3 c4
       refine CC.mono ?_
       rintro e w7 ⟨rfl, hb7⟩
       have K7 : Hid (CX w w7 q rest kb n f (.slice za m zc) (.slice oa ny oc) (.slice va nv vc) X.flatten Y Z) := KW.out.below hb7
       clear hb7 CC KW
       cases bb
       · go_wp2_with fail
         with_reducible refine (must_no _ _).mono ?_
         rintro e w' ⟨rfl, rfl⟩
         exact ⟨rfl, .inr ⟨by rw [HCE.out]; rfl, rfl, K7.out.g⟩⟩
       · go_wp2_with fail
         with_reducible refine (must_yes _ _).mono ?_
         rintro e w8 ⟨rfl, rfl⟩
         obtain ⟨c0, c1, c2, c3, c4⟩ := K7.out.box
         obtain ⟨y0, y1, y2, y3, y4⟩ := cells5 K7.out.z
         have yf := fun i => frozen_of_row _ _ i _ _ K7.out.z
         have HR5 : Hid (caseF s = some (mkCV n f X Y Z, rest)) := by show _ = _; rw [HCE.out]; rfl
         have hkk := K7.out.kk
         have ST : ∀ {W : World} {i : Nat} {u : Value} {base size l : Nat} {e : TypeId} {v : Value} {xs : List Value}, W.ownsRow (w.heap.size + 1) e size v l xs -> (W.setCell ⟨w.heap.size, i, none⟩ u).ownsRow (w.heap.size + 1) e size v l xs := fun {W i u base size l e v xs} h => owns_set h (by omega)
         go_wp2
         refine bodyPost_ret (v := .agg #[.int .i64 n, .slice za m zc, .slice oa ny oc, .slice va nv vc, .int .i64 f]) (by simp [results, Tryz.results33, go_sem, y0, y1, y2, y3, y4]) rfl ?_
         refine .inl ⟨mkCV n f X Y Z, rest, _, _, _, HR5.out, rfl, ?_, ?_, ⟨?_, ?_, ?_⟩⟩
         · refine RX.grown (RX.grown (RX.grown (RX.grown (RX.grown K7.out.r (grown_set _ _ _ _) ?_) (grown_set _ _ _ _) ?_) (grown_set _ _ _ _) ?_) (grown_set _ _ _ _) ?_) (grown_set _ _ _ _) ?_ <;> (have := HQ.out; simp; omega)
         · refine grown_ownR (grown_ownR (grown_ownR (grown_ownR (grown_ownR K7.out.g (grown_set _ _ _ _) ?_) (grown_set _ _ _ _) ?_) (grown_set _ _ _ _) ?_) (grown_set _ _ _ _) ?_) (grown_set _ _ _ _) ?_ <;> (intro g e; simp at e; omega)
         · exact ST (base := 0) (ST (base := 0) (ST (base := 0) (ST (base := 0) (ST (base := 0) K7.out.oz))))
         · exact ST (base := 0) (ST (base := 0) (ST (base := 0) (ST (base := 0) (ST (base := 0) K7.out.oo))))
         · exact ST (base := 0) (ST (base := 0) (ST (base := 0) (ST (base := 0) (ST (base := 0) K7.out.ov))))
     · rw [hp] at C0
       by_cases hn : nv < 5
       · have hnI : (nv : Int) < 5 := by omega
         have HF2 : Hid (whileF wVehicle 5 5 ro = ppl Z (match lineF wVehicle 5 rest with
          | none => none
          | some (l, r) => match whileF wVehicle 5 (5 - (nv + 1)) r with | none => none | some (X, r2) => some (l :: X, r2))) := by
          show _ = _
          rw [HFV.out, show 5 - nv = (5 - (nv + 1)) + 1 by omega, whileF_one _ _ _ _ hp]
          all_goals rfl
         clear hp HFV
         obtain ⟨c0, c1, c2, c3, c4⟩ := KW.out.box
         have CL : Calls Tryz.prog 63 #[.pointer (some ⟨q, 0, none⟩), .string ⟨#[118, 101, 104, 105, 99, 108, 101]⟩, .int .i64 5] wr (LineOk wr q (lineF wVehicle 5 rest)) := line_any q 5 rest wVehicle wr KW.out.r (by omega) (by omega)
         go_wp2_with fail
         refine C0.mono ?_
         rintro e w' ⟨rfl, rfl⟩
         go_wp2_with fail
         with_reducible refine (must_yes _ _).mono ?_
         rintro e w' ⟨rfl, rfl⟩
         clear c0 c1 c2 c3 c4 C0
         go_wp2_with fail
         refine CL.mono ?_
         rintro e w2 (⟨l, r5, sl, hv, rfl, hr5, hg5, ho5⟩ | ⟨hv, rfl, hg5⟩)
         rotate_left
         · exact ⟨rfl, .inr ⟨by rw [HC3.out]; unfold restF; rw [HEO.out]; simp only; rw [HF2.out, hv]; rfl, rfl, grown_trans KW.out.g hg5⟩⟩
         obtain ⟨hl1, hl2, -⟩ := lineF_is hv
         obtain ⟨i0, i1, i2, i3, i4, rfl⟩ : ∃ i0 i1 i2 i3 i4, l = [i0, i1, i2, i3, i4] := by
          match l, hl2 with
          | [i0, i1, i2, i3, i4], _ => exact ⟨i0, i1, i2, i3, i4, rfl⟩
         have hr5l : r5.length < rest.length := by
          have := congrArg List.length hl1
          rw [List.length_append] at this
          have h9 : 0 < (lineL wVehicle [i0, i1, i2, i3, i4]).length := by unfold lineL wVehicle; simp
          omega
         rcases own_kinds ho5 with ⟨_, e0⟩ | ⟨gl, cl, e5, -, -⟩
         · simp at e0
         subst e5
         have HV : Hid (lineF wVehicle 5 rest = some ([i0, i1, i2, i3, i4], r5)) := hv
         have MW : Hid (rdLen w' q = rest.length) := KW.out.r.len
         have K2 : Hid (CX w w2 q r5 kb n f (.slice za m zc) (.slice oa ny oc) (.slice va nv vc) X.flatten Y Z) := KW.out.call HQ.out hg5 hr5
         obtain ⟨w9, HW9⟩ : ∃ v, Hid (w' = v) := ⟨_, rfl⟩
         rw [HW9.out] at ho5
         have OL2 : Hid (World.ownsRow w2 w9.heap.size 2 1 (.slice (some ⟨gl, 0, none⟩) 5 cl) 5 ([i0, i1, i2, i3, i4].map (Value.int .i64))) := ho5
         have D2 : w2.drew.cell? ⟨gl, 0, none⟩ = some (.int .i64 i0) /\ w2.drew.cell? ⟨gl, 1, none⟩ = some (.int .i64 i1) /\ w2.drew.cell? ⟨gl, 2, none⟩ = some (.int .i64 i2) /\ w2.drew.cell? ⟨gl, 3, none⟩ = some (.int .i64 i3) /\ w2.drew.cell? ⟨gl, 4, none⟩ = some (.int .i64 i4) := ⟨own_src ho5.drew 0 _ rfl, own_src ho5.drew 1 _ rfl, own_src ho5.drew 2 _ rfl, own_src ho5.drew 3 _ rfl, own_src ho5.drew 4 _ rfl⟩
         clear hv hl1 hl2 hr5 hg5 ho5 CL KW
         go_wp2_with fail
         refine wp_region_held_drew (S := (fun W => W.cell? ⟨gl, 0, none⟩ = some (.int .i64 i0) /\ W.cell? ⟨gl, 1, none⟩ = some (.int .i64 i1) /\ W.cell? ⟨gl, 2, none⟩ = some (.int .i64 i2) /\ W.cell? ⟨gl, 3, none⟩ = some (.int .i64 i3) /\ W.cell? ⟨gl, 4, none⟩ = some (.int .i64 i4))) (by kernel_rfl) ?_ (fun hHeld => ?_)
         · exact D2
         have K2d : Hid (CX w w2.drew q r5 kb n f (.slice za m zc) (.slice oa ny oc) (.slice va nv vc) X.flatten Y Z) := K2.out.below (Below.refl _ _).drew
         have OLd : Hid (World.ownsRow w2.drew w9.heap.size 2 1 (.slice (some ⟨gl, 0, none⟩) 5 cl) 5 ([i0, i1, i2, i3, i4].map (Value.int .i64))) := OL2.out.drew
         clear K2 OL2 D2
         generalize w2.drew = V9 at *
         refine tkH 0 hHeld ?_
         refine tkH 2 hHeld ?_
         refine tkH 3 hHeld ?_
         refine tkH 4 hHeld ?_
         refine tkH 5 hHeld ?_
         refine tkH 6 hHeld ?_
         refine tkH 7 hHeld ?_
         refine tkH 8 hHeld ?_
         refine tkH 9 hHeld ?_
         refine tkH 10 hHeld ?_
         refine tkH 11 hHeld ?_
         refine tkH 12 hHeld ?_
         refine tkH 13 hHeld ?_
         refine tkH 14 hHeld ?_
         refine tkH 15 hHeld ?_
         refine tkH 16 hHeld ?_
         refine tkH 17 hHeld ?_
         refine wpAnyH_ready (rs := [1, 18]) (by kernel_rfl) (by simp) ?_
         refine AllReadyH.cons rfl (fun K hK => ?_) ?_
         · skip
           obtain ⟨z0, z1, z2, z3, z4⟩ := K2d.out.box
           go_simp
           refine hK.out _ _ ?_ (fun hHeld => ?_)
           · exact ⟨own_src OLd.out 0 _ rfl, own_src OLd.out 1 _ rfl, own_src OLd.out 2 _ rfl, own_src OLd.out 3 _ rfl, own_src OLd.out 4 _ rfl⟩
           clear hK K
           clear z0 z1 z2 z3 z4
           (try simp only [Act.put, List.setIfInBounds_toArray, List.set_cons_zero, List.set_cons_succ])
           refine wpAnyH_ready (rs := [18]) (by kernel_rfl) (by simp) ?_
           refine AllReadyH.cons rfl (fun K hK => ?_) AllReadyH.nil
           have K5 : Hid (CX w (V9.alloc (.cells #[.int .i64 i0, .int .i64 i1, .int .i64 i2, .int .i64 i3, .int .i64 i4] 62)) q r5 kb n f (.slice za m zc) (.slice oa ny oc) (.slice va nv vc) X.flatten Y Z) := K2d.out.below ((Below.refl _ _).alloc (Nat.le_refl _) _)
           have OL5 : Hid (World.ownsRow (V9.alloc (.cells #[.int .i64 i0, .int .i64 i1, .int .i64 i2, .int .i64 i3, .int .i64 i4] 62)) w9.heap.size 2 1 (.slice (some ⟨gl, 0, none⟩) 5 cl) 5 ([i0, i1, i2, i3, i4].map (Value.int .i64))) := OLd.out.alloc _
           have V5 : Hid ((V9.alloc (.cells #[.int .i64 i0, .int .i64 i1, .int .i64 i2, .int .i64 i3, .int .i64 i4] 62)).heap[V9.heap.size]? = some (.cells ([i0, i1, i2, i3, i4].map (Value.int .i64)).toArray 62 (0, 0))) := heap_alloc_new _ _
           go_simp
           refine hK.out _ _ ?_ (fun hHeld => ?_)
           · exact ⟨own_src OL5.out 0 _ rfl, own_src OL5.out 1 _ rfl, own_src OL5.out 2 _ rfl, own_src OL5.out 3 _ rfl, own_src OL5.out 4 _ rfl⟩
           clear hK K
           generalize (V9.alloc (.cells #[.int .i64 i0, .int .i64 i1, .int .i64 i2, .int .i64 i3, .int .i64 i4] 62)) = w5 at *
           generalize V9.heap.size = b5 at *
           (try simp only [Act.put, List.setIfInBounds_toArray, List.set_cons_zero, List.set_cons_succ])
           refine wpAnyH_ready (rs := [19]) (by kernel_rfl) (by simp) ?_
           refine AllReadyH.cons rfl (fun K hK => ?_) AllReadyH.nil
           refine step_append_vals Tryz.underlying26 infoV5 (by rfl) (by omega) rfl (.tmp 63) (.tmp 80) rfl (w.heap.size + 1) (.slice va nv vc) nv (Z.flatten.map (Value.int .i64)) rfl (by have := K5.out.ov; rw [HNV.out] at this; exact this) b5 0 1 1 ([i0, i1, i2, i3, i4].map (Value.int .i64)) rfl rfl (cells6_at _ _ _ _ V5.out) (by intro u hu; obtain ⟨x, -, rfl⟩ := List.mem_map.1 hu; rfl) (by omega) (by omega) K5.out.size ?_
           intro v' w6 ho hg hbk hz
           rcases own_kinds ho with ⟨_, e0⟩ | ⟨g6, c6, e6, -, -⟩
           · omega
           subst e6
           have K6 : Hid (CX w (w6.setCell ⟨kb, 3, none⟩ (.slice (some ⟨g6, 0, none⟩) (nv + 1) c6)) q r5 kb n f (.slice za m zc) (.slice oa ny oc) (.slice (some ⟨g6, 0, none⟩) (nv + 1) c6) X.flatten Y (Z ++ [[i0, i1, i2, i3, i4]])) := K5.out.moreV HQ.out hg (by rw [HNV.out, List.map_append]; exact ho)
           have P6 := grown_row hg K5.out.p (fun e => own_othC K5.out.ov K5.out.p (by decide) e.symm)
           have OL6 : Hid (World.ownsRow w6 w9.heap.size 2 1 (.slice (some ⟨gl, 0, none⟩) 5 cl) 5 ([i0, i1, i2, i3, i4].map (Value.int .i64))) := own_rowC OL5.out hg (own_twoC K5.out.ov OL5.out (by decide))
           have OL7 : Hid (World.ownsRow (w6.setCell ⟨kb, 3, none⟩ (.slice (some ⟨g6, 0, none⟩) (nv + 1) c6)) w9.heap.size 2 1 (.slice (some ⟨gl, 0, none⟩) 5 cl) 5 ([i0, i1, i2, i3, i4].map (Value.int .i64))) := own_rowC OL6.out (grown_set _ _ _ _) (fun k e => by cases e; exact own_othC OL6.out P6 (by decide))
           have f6 := fun i => frozen_of_row _ _ i _ _ P6
           obtain ⟨x0, x1, x2, x3, x4⟩ := cells5 P6
           clear ho hg hbk hz
           refine hK.out _ _ ?_ (fun hHeld => ?_)
           · exact ⟨own_src OL6.out 0 _ rfl, own_src OL6.out 1 _ rfl, own_src OL6.out 2 _ rfl, own_src OL6.out 3 _ rfl, own_src OL6.out 4 _ rfl⟩
           clear hK K
           change wpAnyH _ _ _ _ _ _ _ (Act.put _ (some 81) _) _
           (try simp only [Act.put, List.setIfInBounds_toArray, List.set_cons_zero, List.set_cons_succ])
           refine tkH 20 hHeld ?_
           refine wpAnyH_ready (rs := [21]) (by kernel_rfl) (by simp) ?_
           refine AllReadyH.cons rfl (fun K hK => ?_) AllReadyH.nil
           go_simp
           refine hK.out _ _ ?_ (fun hHeld => ?_)
           · exact ⟨own_src OL7.out 0 _ rfl, own_src OL7.out 1 _ rfl, own_src OL7.out 2 _ rfl, own_src OL7.out 3 _ rfl, own_src OL7.out 4 _ rfl⟩
           clear hK K
           (try simp only [Act.put, List.setIfInBounds_toArray, List.set_cons_zero, List.set_cons_succ])
           refine wpAnyH_done (by kernel_rfl) ?_ _
           have HF3 : Hid (whileF wVehicle 5 5 ro = ppl (Z ++ [[i0, i1, i2, i3, i4]]) (whileF wVehicle 5 (5 - (nv + 1)) r5)) := by
            show _ = _
            rw [HF2.out, HV.out, ppl_snoc]
            all_goals rfl
           have hlen : (Z ++ [[i0, i1, i2, i3, i4]]).length = nv + 1 := by rw [List.length_append, HNV.out]; rfl
           clear x0 x1 x2 x3 x4 f6 P6 OL6 OL7
           generalize w6.setCell ⟨kb, 3, none⟩ (.slice (some ⟨g6, 0, none⟩) (nv + 1) c6) = W6 at *
           go_wp2_with fail
           go_roundw
           case rel => exact ⟨Z ++ [[i0, i1, i2, i3, i4]], _, r5, by rw [hlen]; omega, by omega, by rw [hlen]; exact HF3.out, K6.out⟩
           case measure => rw [K6.out.r.len, MW.out]; omega
         refine AllReadyH.cons rfl (fun K hK => ?_) AllReadyH.nil
         have K5 : Hid (CX w (V9.alloc (.cells #[.int .i64 i0, .int .i64 i1, .int .i64 i2, .int .i64 i3, .int .i64 i4] 62)) q r5 kb n f (.slice za m zc) (.slice oa ny oc) (.slice va nv vc) X.flatten Y Z) := K2d.out.below ((Below.refl _ _).alloc (Nat.le_refl _) _)
         have OL5 : Hid (World.ownsRow (V9.alloc (.cells #[.int .i64 i0, .int .i64 i1, .int .i64 i2, .int .i64 i3, .int .i64 i4] 62)) w9.heap.size 2 1 (.slice (some ⟨gl, 0, none⟩) 5 cl) 5 ([i0, i1, i2, i3, i4].map (Value.int .i64))) := OLd.out.alloc _
         have V5 : Hid ((V9.alloc (.cells #[.int .i64 i0, .int .i64 i1, .int .i64 i2, .int .i64 i3, .int .i64 i4] 62)).heap[V9.heap.size]? = some (.cells ([i0, i1, i2, i3, i4].map (Value.int .i64)).toArray 62 (0, 0))) := heap_alloc_new _ _
         go_simp
         refine hK.out _ _ ?_ (fun hHeld => ?_)
         · exact ⟨own_src OL5.out 0 _ rfl, own_src OL5.out 1 _ rfl, own_src OL5.out 2 _ rfl, own_src OL5.out 3 _ rfl, own_src OL5.out 4 _ rfl⟩
         clear hK K
         generalize (V9.alloc (.cells #[.int .i64 i0, .int .i64 i1, .int .i64 i2, .int .i64 i3, .int .i64 i4] 62)) = w5 at *
         generalize V9.heap.size = b5 at *
         (try simp only [Act.put, List.setIfInBounds_toArray, List.set_cons_zero, List.set_cons_succ])
         refine wpAnyH_ready (rs := [1]) (by kernel_rfl) (by simp) ?_
         refine AllReadyH.cons rfl (fun K hK => ?_) AllReadyH.nil
         obtain ⟨z0, z1, z2, z3, z4⟩ := K5.out.box
         go_simp
         refine hK.out _ _ ?_ (fun hHeld => ?_)
         · exact ⟨own_src OL5.out 0 _ rfl, own_src OL5.out 1 _ rfl, own_src OL5.out 2 _ rfl, own_src OL5.out 3 _ rfl, own_src OL5.out 4 _ rfl⟩
         clear hK K
         clear z0 z1 z2 z3 z4
         (try simp only [Act.put, List.setIfInBounds_toArray, List.set_cons_zero, List.set_cons_succ])
         refine wpAnyH_ready (rs := [19]) (by kernel_rfl) (by simp) ?_
         refine AllReadyH.cons rfl (fun K hK => ?_) AllReadyH.nil
         refine step_append_vals Tryz.underlying26 infoV5 (by rfl) (by omega) rfl (.tmp 63) (.tmp 80) rfl (w.heap.size + 1) (.slice va nv vc) nv (Z.flatten.map (Value.int .i64)) rfl (by have := K5.out.ov; rw [HNV.out] at this; exact this) b5 0 1 1 ([i0, i1, i2, i3, i4].map (Value.int .i64)) rfl rfl (cells6_at _ _ _ _ V5.out) (by intro u hu; obtain ⟨x, -, rfl⟩ := List.mem_map.1 hu; rfl) (by omega) (by omega) K5.out.size ?_
         intro v' w6 ho hg hbk hz
         rcases own_kinds ho with ⟨_, e0⟩ | ⟨g6, c6, e6, -, -⟩
         · omega
         subst e6
         have K6 : Hid (CX w (w6.setCell ⟨kb, 3, none⟩ (.slice (some ⟨g6, 0, none⟩) (nv + 1) c6)) q r5 kb n f (.slice za m zc) (.slice oa ny oc) (.slice (some ⟨g6, 0, none⟩) (nv + 1) c6) X.flatten Y (Z ++ [[i0, i1, i2, i3, i4]])) := K5.out.moreV HQ.out hg (by rw [HNV.out, List.map_append]; exact ho)
         have P6 := grown_row hg K5.out.p (fun e => own_othC K5.out.ov K5.out.p (by decide) e.symm)
         have OL6 : Hid (World.ownsRow w6 w9.heap.size 2 1 (.slice (some ⟨gl, 0, none⟩) 5 cl) 5 ([i0, i1, i2, i3, i4].map (Value.int .i64))) := own_rowC OL5.out hg (own_twoC K5.out.ov OL5.out (by decide))
         have OL7 : Hid (World.ownsRow (w6.setCell ⟨kb, 3, none⟩ (.slice (some ⟨g6, 0, none⟩) (nv + 1) c6)) w9.heap.size 2 1 (.slice (some ⟨gl, 0, none⟩) 5 cl) 5 ([i0, i1, i2, i3, i4].map (Value.int .i64))) := own_rowC OL6.out (grown_set _ _ _ _) (fun k e => by cases e; exact own_othC OL6.out P6 (by decide))
         have f6 := fun i => frozen_of_row _ _ i _ _ P6
         obtain ⟨x0, x1, x2, x3, x4⟩ := cells5 P6
         clear ho hg hbk hz
         refine hK.out _ _ ?_ (fun hHeld => ?_)
         · exact ⟨own_src OL6.out 0 _ rfl, own_src OL6.out 1 _ rfl, own_src OL6.out 2 _ rfl, own_src OL6.out 3 _ rfl, own_src OL6.out 4 _ rfl⟩
         clear hK K
         change wpAnyH _ _ _ _ _ _ _ (Act.put _ (some 81) _) _
         (try simp only [Act.put, List.setIfInBounds_toArray, List.set_cons_zero, List.set_cons_succ])
         refine tkH 20 hHeld ?_
         refine wpAnyH_ready (rs := [21]) (by kernel_rfl) (by simp) ?_
         refine AllReadyH.cons rfl (fun K hK => ?_) AllReadyH.nil
         go_simp
         refine hK.out _ _ ?_ (fun hHeld => ?_)
         · exact ⟨own_src OL7.out 0 _ rfl, own_src OL7.out 1 _ rfl, own_src OL7.out 2 _ rfl, own_src OL7.out 3 _ rfl, own_src OL7.out 4 _ rfl⟩
         clear hK K
         (try simp only [Act.put, List.setIfInBounds_toArray, List.set_cons_zero, List.set_cons_succ])
         refine wpAnyH_done (by kernel_rfl) ?_ _
         have HF3 : Hid (whileF wVehicle 5 5 ro = ppl (Z ++ [[i0, i1, i2, i3, i4]]) (whileF wVehicle 5 (5 - (nv + 1)) r5)) := by
          show _ = _
          rw [HF2.out, HV.out, ppl_snoc]
          all_goals rfl
         have hlen : (Z ++ [[i0, i1, i2, i3, i4]]).length = nv + 1 := by rw [List.length_append, HNV.out]; rfl
         clear x0 x1 x2 x3 x4 f6 P6 OL6 OL7
         generalize w6.setCell ⟨kb, 3, none⟩ (.slice (some ⟨g6, 0, none⟩) (nv + 1) c6) = W6 at *
         go_wp2_with fail
         go_roundw
         case rel => exact ⟨Z ++ [[i0, i1, i2, i3, i4]], _, r5, by rw [hlen]; omega, by omega, by rw [hlen]; exact HF3.out, K6.out⟩
         case measure => rw [K6.out.r.len, MW.out]; omega
       · have hnI : decide ((nv : Int) < 5) = false := decide_eq_false (by omega)
         have HNO : Hid (caseF s = none) := by rw [HC3.out]; unfold restF; rw [HEO.out]; simp only; rw [HFV.out, show 5 - nv = 0 by omega, whileF_full _ _ _ hp]; rfl
         clear hp
         obtain ⟨c0, c1, c2, c3, c4⟩ := KW.out.box
         go_wp2_with fail
         refine C0.mono ?_
         rintro e w' ⟨rfl, rfl⟩
         go_wp2_with fail
         with_reducible refine (must_no _ _).mono ?_
         rintro e w' ⟨rfl, rfl⟩
         exact ⟨rfl, .inr ⟨HNO.out, rfl, KW.out.g⟩⟩
  · rw [hp] at C0
    by_cases hn : ny < 12
    · have hnI : (ny : Int) < 12 := by omega
      have HF2 : Hid (whileF wOrder 6 12 r4 = ppl Y (match lineF wOrder 6 rest with
       | none => none
       | some (l, r) => match whileF wOrder 6 (12 - (ny + 1)) r with | none => none | some (X, r2) => some (l :: X, r2))) := by
       show _ = _
       rw [HFY.out, show 12 - ny = (12 - (ny + 1)) + 1 by omega, whileF_one _ _ _ _ hp]
       all_goals rfl
      clear hp HFY
      obtain ⟨c0, c1, c2, c3, c4⟩ := KW.out.box
      have CL : Calls Tryz.prog 63 #[.pointer (some ⟨q, 0, none⟩), .string ⟨#[111, 114, 100, 101, 114]⟩, .int .i64 6] wr (LineOk wr q (lineF wOrder 6 rest)) := line_any q 6 rest wOrder wr KW.out.r (by omega) (by omega)
      go_wp2_with fail
      refine C0.mono ?_
      rintro e w' ⟨rfl, rfl⟩
      go_wp2_with fail
      with_reducible refine (must_yes _ _).mono ?_
      rintro e w' ⟨rfl, rfl⟩
      clear c0 c1 c2 c3 c4 C0
      go_wp2_with fail
      refine CL.mono ?_
      rintro e w2 (⟨l, r5, sl, hv, rfl, hr5, hg5, ho5⟩ | ⟨hv, rfl, hg5⟩)
      rotate_left
      · exact ⟨rfl, .inr ⟨by rw [HC3.out]; unfold restF; rw [HF2.out, hv]; rfl, rfl, grown_trans KW.out.g hg5⟩⟩
      obtain ⟨hl1, hl2, -⟩ := lineF_is hv
      obtain ⟨i0, i1, i2, i3, i4, i5, rfl⟩ : ∃ i0 i1 i2 i3 i4 i5, l = [i0, i1, i2, i3, i4, i5] := by
       match l, hl2 with
       | [i0, i1, i2, i3, i4, i5], _ => exact ⟨i0, i1, i2, i3, i4, i5, rfl⟩
      have hr5l : r5.length < rest.length := by
       have := congrArg List.length hl1
       rw [List.length_append] at this
       have h9 : 0 < (lineL wOrder [i0, i1, i2, i3, i4, i5]).length := by unfold lineL wOrder; simp
       omega
      rcases own_kinds ho5 with ⟨_, e0⟩ | ⟨gl, cl, e5, -, -⟩
      · simp at e0
      subst e5
      have HV : Hid (lineF wOrder 6 rest = some ([i0, i1, i2, i3, i4, i5], r5)) := hv
      have MW : Hid (rdLen w' q = rest.length) := KW.out.r.len
      have K2 : Hid (CX w w2 q r5 kb n f (.slice za m zc) (.slice oa ny oc) (.slice none 0 0) X.flatten Y []) := KW.out.call HQ.out hg5 hr5
      obtain ⟨w9, HW9⟩ : ∃ v, Hid (w' = v) := ⟨_, rfl⟩
      rw [HW9.out] at ho5
      have OL2 : Hid (World.ownsRow w2 w9.heap.size 2 1 (.slice (some ⟨gl, 0, none⟩) 6 cl) 6 ([i0, i1, i2, i3, i4, i5].map (Value.int .i64))) := ho5
      have D2 : w2.drew.cell? ⟨gl, 0, none⟩ = some (.int .i64 i0) /\ w2.drew.cell? ⟨gl, 1, none⟩ = some (.int .i64 i1) /\ w2.drew.cell? ⟨gl, 2, none⟩ = some (.int .i64 i2) /\ w2.drew.cell? ⟨gl, 3, none⟩ = some (.int .i64 i3) /\ w2.drew.cell? ⟨gl, 4, none⟩ = some (.int .i64 i4) /\ w2.drew.cell? ⟨gl, 5, none⟩ = some (.int .i64 i5) := ⟨own_src ho5.drew 0 _ rfl, own_src ho5.drew 1 _ rfl, own_src ho5.drew 2 _ rfl, own_src ho5.drew 3 _ rfl, own_src ho5.drew 4 _ rfl, own_src ho5.drew 5 _ rfl⟩
      clear hv hl1 hl2 hr5 hg5 ho5 CL KW
      go_wp2_with fail
      refine wp_region_held_drew (S := (fun W => W.cell? ⟨gl, 0, none⟩ = some (.int .i64 i0) /\ W.cell? ⟨gl, 1, none⟩ = some (.int .i64 i1) /\ W.cell? ⟨gl, 2, none⟩ = some (.int .i64 i2) /\ W.cell? ⟨gl, 3, none⟩ = some (.int .i64 i3) /\ W.cell? ⟨gl, 4, none⟩ = some (.int .i64 i4) /\ W.cell? ⟨gl, 5, none⟩ = some (.int .i64 i5))) (by kernel_rfl) ?_ (fun hHeld => ?_)
      · exact D2
      have K2d : Hid (CX w w2.drew q r5 kb n f (.slice za m zc) (.slice oa ny oc) (.slice none 0 0) X.flatten Y []) := K2.out.below (Below.refl _ _).drew
      have OLd : Hid (World.ownsRow w2.drew w9.heap.size 2 1 (.slice (some ⟨gl, 0, none⟩) 6 cl) 6 ([i0, i1, i2, i3, i4, i5].map (Value.int .i64))) := OL2.out.drew
      clear K2 OL2 D2
      generalize w2.drew = V9 at *
      refine tkH 0 hHeld ?_
      refine tkH 2 hHeld ?_
      refine tkH 3 hHeld ?_
      refine tkH 4 hHeld ?_
      refine tkH 5 hHeld ?_
      refine tkH 6 hHeld ?_
      refine tkH 7 hHeld ?_
      refine tkH 8 hHeld ?_
      refine tkH 9 hHeld ?_
      refine tkH 10 hHeld ?_
      refine tkH 11 hHeld ?_
      refine tkH 12 hHeld ?_
      refine tkH 13 hHeld ?_
      refine tkH 14 hHeld ?_
      refine tkH 15 hHeld ?_
      refine tkH 16 hHeld ?_
      refine tkH 17 hHeld ?_
      refine tkH 18 hHeld ?_
      refine tkH 19 hHeld ?_
      refine tkH 20 hHeld ?_
      refine wpAnyH_ready (rs := [1, 21]) (by kernel_rfl) (by simp) ?_
      refine AllReadyH.cons rfl (fun K hK => ?_) ?_
      · skip
        obtain ⟨z0, z1, z2, z3, z4⟩ := K2d.out.box
        go_simp
        refine hK.out _ _ ?_ (fun hHeld => ?_)
        · exact ⟨own_src OLd.out 0 _ rfl, own_src OLd.out 1 _ rfl, own_src OLd.out 2 _ rfl, own_src OLd.out 3 _ rfl, own_src OLd.out 4 _ rfl, own_src OLd.out 5 _ rfl⟩
        clear hK K
        clear z0 z1 z2 z3 z4
        (try simp only [Act.put, List.setIfInBounds_toArray, List.set_cons_zero, List.set_cons_succ])
        refine wpAnyH_ready (rs := [21]) (by kernel_rfl) (by simp) ?_
        refine AllReadyH.cons rfl (fun K hK => ?_) AllReadyH.nil
        have K5 : Hid (CX w (V9.alloc (.cells #[.int .i64 i0, .int .i64 i1, .int .i64 i2, .int .i64 i3, .int .i64 i4, .int .i64 i5] 60)) q r5 kb n f (.slice za m zc) (.slice oa ny oc) (.slice none 0 0) X.flatten Y []) := K2d.out.below ((Below.refl _ _).alloc (Nat.le_refl _) _)
        have OL5 : Hid (World.ownsRow (V9.alloc (.cells #[.int .i64 i0, .int .i64 i1, .int .i64 i2, .int .i64 i3, .int .i64 i4, .int .i64 i5] 60)) w9.heap.size 2 1 (.slice (some ⟨gl, 0, none⟩) 6 cl) 6 ([i0, i1, i2, i3, i4, i5].map (Value.int .i64))) := OLd.out.alloc _
        have V5 : Hid ((V9.alloc (.cells #[.int .i64 i0, .int .i64 i1, .int .i64 i2, .int .i64 i3, .int .i64 i4, .int .i64 i5] 60)).heap[V9.heap.size]? = some (.cells ([i0, i1, i2, i3, i4, i5].map (Value.int .i64)).toArray 60 (0, 0))) := heap_alloc_new _ _
        go_simp
        refine hK.out _ _ ?_ (fun hHeld => ?_)
        · exact ⟨own_src OL5.out 0 _ rfl, own_src OL5.out 1 _ rfl, own_src OL5.out 2 _ rfl, own_src OL5.out 3 _ rfl, own_src OL5.out 4 _ rfl, own_src OL5.out 5 _ rfl⟩
        clear hK K
        generalize (V9.alloc (.cells #[.int .i64 i0, .int .i64 i1, .int .i64 i2, .int .i64 i3, .int .i64 i4, .int .i64 i5] 60)) = w5 at *
        generalize V9.heap.size = b5 at *
        (try simp only [Act.put, List.setIfInBounds_toArray, List.set_cons_zero, List.set_cons_succ])
        refine wpAnyH_ready (rs := [22]) (by kernel_rfl) (by simp) ?_
        refine AllReadyH.cons rfl (fun K hK => ?_) AllReadyH.nil
        refine step_append_vals Tryz.underlying25 infoO6 (by rfl) (by omega) rfl (.tmp 29) (.tmp 49) rfl (w.heap.size + 1) (.slice oa ny oc) ny (Y.flatten.map (Value.int .i64)) rfl (by have := K5.out.oo; rw [HNY.out] at this; exact this) b5 0 1 1 ([i0, i1, i2, i3, i4, i5].map (Value.int .i64)) rfl rfl (cells6_at _ _ _ _ V5.out) (by intro u hu; obtain ⟨x, -, rfl⟩ := List.mem_map.1 hu; rfl) (by omega) (by omega) K5.out.size ?_
        intro v' w6 ho hg hbk hz
        rcases own_kinds ho with ⟨_, e0⟩ | ⟨g6, c6, e6, -, -⟩
        · omega
        subst e6
        have K6 : Hid (CX w (w6.setCell ⟨kb, 2, none⟩ (.slice (some ⟨g6, 0, none⟩) (ny + 1) c6)) q r5 kb n f (.slice za m zc) (.slice (some ⟨g6, 0, none⟩) (ny + 1) c6) (.slice none 0 0) X.flatten (Y ++ [[i0, i1, i2, i3, i4, i5]]) []) := K5.out.moreO HQ.out hg (by rw [HNY.out, List.map_append]; exact ho)
        have P6 := grown_row hg K5.out.p (fun e => own_othC K5.out.oo K5.out.p (by decide) e.symm)
        have OL6 : Hid (World.ownsRow w6 w9.heap.size 2 1 (.slice (some ⟨gl, 0, none⟩) 6 cl) 6 ([i0, i1, i2, i3, i4, i5].map (Value.int .i64))) := own_rowC OL5.out hg (own_twoC K5.out.oo OL5.out (by decide))
        have OL7 : Hid (World.ownsRow (w6.setCell ⟨kb, 2, none⟩ (.slice (some ⟨g6, 0, none⟩) (ny + 1) c6)) w9.heap.size 2 1 (.slice (some ⟨gl, 0, none⟩) 6 cl) 6 ([i0, i1, i2, i3, i4, i5].map (Value.int .i64))) := own_rowC OL6.out (grown_set _ _ _ _) (fun k e => by cases e; exact own_othC OL6.out P6 (by decide))
        have f6 := fun i => frozen_of_row _ _ i _ _ P6
        obtain ⟨x0, x1, x2, x3, x4⟩ := cells5 P6
        clear ho hg hbk hz
        refine hK.out _ _ ?_ (fun hHeld => ?_)
        · exact ⟨own_src OL6.out 0 _ rfl, own_src OL6.out 1 _ rfl, own_src OL6.out 2 _ rfl, own_src OL6.out 3 _ rfl, own_src OL6.out 4 _ rfl, own_src OL6.out 5 _ rfl⟩
        clear hK K
        change wpAnyH _ _ _ _ _ _ _ (Act.put _ (some 50) _) _
        (try simp only [Act.put, List.setIfInBounds_toArray, List.set_cons_zero, List.set_cons_succ])
        refine tkH 23 hHeld ?_
        refine wpAnyH_ready (rs := [24]) (by kernel_rfl) (by simp) ?_
        refine AllReadyH.cons rfl (fun K hK => ?_) AllReadyH.nil
        go_simp
        refine hK.out _ _ ?_ (fun hHeld => ?_)
        · exact ⟨own_src OL7.out 0 _ rfl, own_src OL7.out 1 _ rfl, own_src OL7.out 2 _ rfl, own_src OL7.out 3 _ rfl, own_src OL7.out 4 _ rfl, own_src OL7.out 5 _ rfl⟩
        clear hK K
        (try simp only [Act.put, List.setIfInBounds_toArray, List.set_cons_zero, List.set_cons_succ])
        refine wpAnyH_done (by kernel_rfl) ?_ _
        have HF3 : Hid (whileF wOrder 6 12 r4 = ppl (Y ++ [[i0, i1, i2, i3, i4, i5]]) (whileF wOrder 6 (12 - (ny + 1)) r5)) := by
         show _ = _
         rw [HF2.out, HV.out, ppl_snoc]
         all_goals rfl
        have hlen : (Y ++ [[i0, i1, i2, i3, i4, i5]]).length = ny + 1 := by rw [List.length_append, HNY.out]; rfl
        clear x0 x1 x2 x3 x4 f6 P6 OL6 OL7
        generalize w6.setCell ⟨kb, 2, none⟩ (.slice (some ⟨g6, 0, none⟩) (ny + 1) c6) = W6 at *
        go_wp2_with fail
        go_roundw
        case rel => exact ⟨Y ++ [[i0, i1, i2, i3, i4, i5]], _, r5, by rw [hlen]; omega, by omega, by rw [hlen]; exact HF3.out, K6.out⟩
        case measure => rw [K6.out.r.len, MW.out]; omega
      refine AllReadyH.cons rfl (fun K hK => ?_) AllReadyH.nil
      have K5 : Hid (CX w (V9.alloc (.cells #[.int .i64 i0, .int .i64 i1, .int .i64 i2, .int .i64 i3, .int .i64 i4, .int .i64 i5] 60)) q r5 kb n f (.slice za m zc) (.slice oa ny oc) (.slice none 0 0) X.flatten Y []) := K2d.out.below ((Below.refl _ _).alloc (Nat.le_refl _) _)
      have OL5 : Hid (World.ownsRow (V9.alloc (.cells #[.int .i64 i0, .int .i64 i1, .int .i64 i2, .int .i64 i3, .int .i64 i4, .int .i64 i5] 60)) w9.heap.size 2 1 (.slice (some ⟨gl, 0, none⟩) 6 cl) 6 ([i0, i1, i2, i3, i4, i5].map (Value.int .i64))) := OLd.out.alloc _
      have V5 : Hid ((V9.alloc (.cells #[.int .i64 i0, .int .i64 i1, .int .i64 i2, .int .i64 i3, .int .i64 i4, .int .i64 i5] 60)).heap[V9.heap.size]? = some (.cells ([i0, i1, i2, i3, i4, i5].map (Value.int .i64)).toArray 60 (0, 0))) := heap_alloc_new _ _
      go_simp
      refine hK.out _ _ ?_ (fun hHeld => ?_)
      · exact ⟨own_src OL5.out 0 _ rfl, own_src OL5.out 1 _ rfl, own_src OL5.out 2 _ rfl, own_src OL5.out 3 _ rfl, own_src OL5.out 4 _ rfl, own_src OL5.out 5 _ rfl⟩
      clear hK K
      generalize (V9.alloc (.cells #[.int .i64 i0, .int .i64 i1, .int .i64 i2, .int .i64 i3, .int .i64 i4, .int .i64 i5] 60)) = w5 at *
      generalize V9.heap.size = b5 at *
      (try simp only [Act.put, List.setIfInBounds_toArray, List.set_cons_zero, List.set_cons_succ])
      refine wpAnyH_ready (rs := [1]) (by kernel_rfl) (by simp) ?_
      refine AllReadyH.cons rfl (fun K hK => ?_) AllReadyH.nil
      obtain ⟨z0, z1, z2, z3, z4⟩ := K5.out.box
      go_simp
      refine hK.out _ _ ?_ (fun hHeld => ?_)
      · exact ⟨own_src OL5.out 0 _ rfl, own_src OL5.out 1 _ rfl, own_src OL5.out 2 _ rfl, own_src OL5.out 3 _ rfl, own_src OL5.out 4 _ rfl, own_src OL5.out 5 _ rfl⟩
      clear hK K
      clear z0 z1 z2 z3 z4
      (try simp only [Act.put, List.setIfInBounds_toArray, List.set_cons_zero, List.set_cons_succ])
      refine wpAnyH_ready (rs := [22]) (by kernel_rfl) (by simp) ?_
      refine AllReadyH.cons rfl (fun K hK => ?_) AllReadyH.nil
      refine step_append_vals Tryz.underlying25 infoO6 (by rfl) (by omega) rfl (.tmp 29) (.tmp 49) rfl (w.heap.size + 1) (.slice oa ny oc) ny (Y.flatten.map (Value.int .i64)) rfl (by have := K5.out.oo; rw [HNY.out] at this; exact this) b5 0 1 1 ([i0, i1, i2, i3, i4, i5].map (Value.int .i64)) rfl rfl (cells6_at _ _ _ _ V5.out) (by intro u hu; obtain ⟨x, -, rfl⟩ := List.mem_map.1 hu; rfl) (by omega) (by omega) K5.out.size ?_
      intro v' w6 ho hg hbk hz
      rcases own_kinds ho with ⟨_, e0⟩ | ⟨g6, c6, e6, -, -⟩
      · omega
      subst e6
      have K6 : Hid (CX w (w6.setCell ⟨kb, 2, none⟩ (.slice (some ⟨g6, 0, none⟩) (ny + 1) c6)) q r5 kb n f (.slice za m zc) (.slice (some ⟨g6, 0, none⟩) (ny + 1) c6) (.slice none 0 0) X.flatten (Y ++ [[i0, i1, i2, i3, i4, i5]]) []) := K5.out.moreO HQ.out hg (by rw [HNY.out, List.map_append]; exact ho)
      have P6 := grown_row hg K5.out.p (fun e => own_othC K5.out.oo K5.out.p (by decide) e.symm)
      have OL6 : Hid (World.ownsRow w6 w9.heap.size 2 1 (.slice (some ⟨gl, 0, none⟩) 6 cl) 6 ([i0, i1, i2, i3, i4, i5].map (Value.int .i64))) := own_rowC OL5.out hg (own_twoC K5.out.oo OL5.out (by decide))
      have OL7 : Hid (World.ownsRow (w6.setCell ⟨kb, 2, none⟩ (.slice (some ⟨g6, 0, none⟩) (ny + 1) c6)) w9.heap.size 2 1 (.slice (some ⟨gl, 0, none⟩) 6 cl) 6 ([i0, i1, i2, i3, i4, i5].map (Value.int .i64))) := own_rowC OL6.out (grown_set _ _ _ _) (fun k e => by cases e; exact own_othC OL6.out P6 (by decide))
      have f6 := fun i => frozen_of_row _ _ i _ _ P6
      obtain ⟨x0, x1, x2, x3, x4⟩ := cells5 P6
      clear ho hg hbk hz
      refine hK.out _ _ ?_ (fun hHeld => ?_)
      · exact ⟨own_src OL6.out 0 _ rfl, own_src OL6.out 1 _ rfl, own_src OL6.out 2 _ rfl, own_src OL6.out 3 _ rfl, own_src OL6.out 4 _ rfl, own_src OL6.out 5 _ rfl⟩
      clear hK K
      change wpAnyH _ _ _ _ _ _ _ (Act.put _ (some 50) _) _
      (try simp only [Act.put, List.setIfInBounds_toArray, List.set_cons_zero, List.set_cons_succ])
      refine tkH 23 hHeld ?_
      refine wpAnyH_ready (rs := [24]) (by kernel_rfl) (by simp) ?_
      refine AllReadyH.cons rfl (fun K hK => ?_) AllReadyH.nil
      go_simp
      refine hK.out _ _ ?_ (fun hHeld => ?_)
      · exact ⟨own_src OL7.out 0 _ rfl, own_src OL7.out 1 _ rfl, own_src OL7.out 2 _ rfl, own_src OL7.out 3 _ rfl, own_src OL7.out 4 _ rfl, own_src OL7.out 5 _ rfl⟩
      clear hK K
      (try simp only [Act.put, List.setIfInBounds_toArray, List.set_cons_zero, List.set_cons_succ])
      refine wpAnyH_done (by kernel_rfl) ?_ _
      have HF3 : Hid (whileF wOrder 6 12 r4 = ppl (Y ++ [[i0, i1, i2, i3, i4, i5]]) (whileF wOrder 6 (12 - (ny + 1)) r5)) := by
       show _ = _
       rw [HF2.out, HV.out, ppl_snoc]
       all_goals rfl
      have hlen : (Y ++ [[i0, i1, i2, i3, i4, i5]]).length = ny + 1 := by rw [List.length_append, HNY.out]; rfl
      clear x0 x1 x2 x3 x4 f6 P6 OL6 OL7
      generalize w6.setCell ⟨kb, 2, none⟩ (.slice (some ⟨g6, 0, none⟩) (ny + 1) c6) = W6 at *
      go_wp2_with fail
      go_roundw
      case rel => exact ⟨Y ++ [[i0, i1, i2, i3, i4, i5]], _, r5, by rw [hlen]; omega, by omega, by rw [hlen]; exact HF3.out, K6.out⟩
      case measure => rw [K6.out.r.len, MW.out]; omega
    · have hnI : decide ((ny : Int) < 12) = false := decide_eq_false (by omega)
      have HNO : Hid (caseF s = none) := by rw [HC3.out]; unfold restF; rw [HFY.out, show 12 - ny = 0 by omega, whileF_full _ _ _ hp]; rfl
      clear hp
      obtain ⟨c0, c1, c2, c3, c4⟩ := KW.out.box
      go_wp2_with fail
      refine C0.mono ?_
      rintro e w' ⟨rfl, rfl⟩
      go_wp2_with fail
      with_reducible refine (must_no _ _).mono ?_
      rintro e w' ⟨rfl, rfl⟩
      exact ⟨rfl, .inr ⟨HNO.out, rfl, KW.out.g⟩⟩
end Go.Proofs.YtcapkcallaajaaaGreatDoor
