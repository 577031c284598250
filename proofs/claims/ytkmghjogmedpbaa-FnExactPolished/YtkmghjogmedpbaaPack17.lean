import Derived.Test.YtkmghjogmedpbaaPack3
import Derived.Test.YtkmghjogmedpbaaPack9
import Derived.Test.YtkmghjogmedpbaaImplBestTwoOpt
namespace Go.Proofs.Ytkmghjogmedpbaa
open Go.RowKit

/-- The moves' box, the box of the route as it is now, the answer's box. -/
def DB (w W : World) (ms rs : Array Value) : Prop := Below w.heap.size w W ∧ W.heap[w.heap.size]? = some (.cells ms 96 (0, 0)) ∧ W.heap[w.heap.size + 1]? = some (.cells rs 33 (0, 0)) ∧ W.heap[w.heap.size + 2]? = some (.cells #[Value.int IntKind.i64 0, Value.slice none 0 0] 33 (0, 0))
theorem DB.new (w : World) (ms rs : Array Value) : DB w (((w.alloc (.cells ms 96)).alloc (.cells rs 33)).alloc (.cells #[Value.int IntKind.i64 0, Value.slice none 0 0] 33)) ms rs := by
  refine ⟨(((Below.refl _ _).alloc (Nat.le_refl _) _).alloc (by simp) _).alloc (by simp; omega) _, ?_, ?_, ?_⟩
  · exact (heap_alloc_old _ _ (by simp; omega)).trans (heap_alloc2_old _ _ _)
  · exact (heap_alloc_old _ _ (by simp)).trans (heap_alloc2_new _ _ _)
  · have := heap_alloc_new ((w.alloc (.cells ms 96)).alloc (.cells rs 33)) (.cells #[Value.int IntKind.i64 0, Value.slice none 0 0] 33)
    simpa using this
theorem DB.below {w W W' : World} {ms rs : Array Value} (h : DB w W ms rs) (hb : Below W.heap.size W W') : DB w W' ms rs := ⟨h.1.trans (hb.mono h.1.size), below_row hb (row_lt h.2.1) h.2.1, below_row hb (row_lt h.2.2.1) h.2.2.1, below_row hb (row_lt h.2.2.2) h.2.2.2⟩
theorem DB.b {w W : World} {ms rs : Array Value} (h : DB w W ms rs) : Below w.heap.size w W := h.1
theorem DB.big {w W : World} {ms rs : Array Value} (h : DB w W ms rs) : w.heap.size + 2 < W.heap.size := row_lt h.2.2.2
theorem DB.put {w W : World} {ms : Array Value} {r0 r1 : Value} (h : DB w W ms #[r0, r1]) (u v : Value) : DB w ((W.setCell ⟨w.heap.size + 1, 0, none⟩ u).setCell ⟨w.heap.size + 1, 1, none⟩ v) ms #[u, v] :=
  ⟨(h.1.setCell (by simp) _).setCell (by simp) _, row_set' (row_set' h.2.1 (by omega)) (by omega), box_set2 h.2.2.1, row_set' (row_set' h.2.2.2 (by omega)) (by omega)⟩
theorem ints_low {W : World} {ad : Option Addr} {xs : List Int} (h : IntsAt W ad xs) {k i : Nat} {v : Value} (hk : ∀ b off, ad = some ⟨b, off, none⟩ → 0 < xs.length → b ≠ k) : IntsAt (W.setCell ⟨k, i, none⟩ v) ad xs := by
  intro j hj
  obtain ⟨b, off, e, hc⟩ := h j hj
  exact ⟨b, off, e, keep_set hc (hk b off e (by omega))⟩
theorem bt_len {c : Bool} {n : Int} {zs os vs : List Int} {ko kv : Nat} {veh : Int} {cur : List Int} (h12 : cur.length ≤ 12) : bst (trB c n zs os vs ko kv veh cur) (trD c n zs os vs ko kv veh cur) (prsTo cur.length cur.length) = btV c n zs os vs ko kv veh cur := by
  unfold btV
  rw [show min cur.length 12 = cur.length by omega]

/-- What descended answers: a route with these stops, wherever they lie, and how often. -/
def DescOk (w : World) (bi : Option Addr) (len : Nat) (veh : Int) (xs : List Int) (e : Ending) (w' : World) : Prop := ∃ ad cc cnt, e = .returned (.tuple #[.agg #[.int .i64 veh, .slice ad xs.length cc], .int .i64 cnt]) ∧ (∃ b off, ad = some ⟨b, off, none⟩) ∧ ((ad = bi ∧ xs.length = len) ∨ ∀ b off, ad = some ⟨b, off, none⟩ → w.heap.size + 2 < b) ∧ Below w.heap.size w w' ∧ IntsAt w' ad xs ∧ xs.length ≤ 12

set_option maxHeartbeats 4000000 in
theorem descended_any (n fine veh : Int) (a ao av bi : Option Addr) (cap ko co kv cv c2 : Nat) (zs os vs ids : List Int) (w : World) (hA : IntsAt w a zs) (hO : IntsAt w ao os) (hV : IntsAt w av vs) (hI : IntsAt w bi ids) (hlo : os.length = ko * 6) (hlv : vs.length = kv * 5) (hko : ko ≤ 9223372036854775807) (hkv : kv ≤ 9223372036854775807) (_hli : ids.length ≤ 9223372036854775807) (hc2 : ids.length ≤ c2) (hbi : ∃ b off, bi = some ⟨b, off, none⟩) (hcB : caseB n zs os vs ko kv fine = true) (pc : Nat) (hpc : w.heap[pc]? = some (.cells #[Value.int IntKind.i64 n, Value.slice a zs.length cap, Value.slice ao ko co, Value.slice av kv cv, Value.int IntKind.i64 fine] 40 (0, 0))) (hcode : codeV true n zs os vs ko kv veh ids = 0) (xs : List Int) (hxs : polV n zs os vs ko kv veh ids = xs) :
    Calls Try.prog 61 #[.agg #[Value.func (.func 82) #[] #[], Value.func (.func 83) #[] #[.pointer (some ⟨pc, 0, none⟩)]], .agg #[.int .i64 veh, .slice bi ids.length c2], .int .i64 130000] w (DescOk w bi ids.length veh xs) := by
  have HA : Hid (IntsAt w a zs) := hA
  have HO : Hid (IntsAt w ao os) := hO
  have HV : Hid (IntsAt w av vs) := hV
  have HI : Hid (IntsAt w bi ids) := hI
  have HLO : Hid _ := hlo
  have HLV : Hid _ := hlv
  clear hA hO hV hI hlo hlv
  have HC : Hid (caseB n zs os vs ko kv fine = true) := hcB
  have HZ : Hid (matB n zs = true) := (caseB_parts hcB).1
  have HXS : Hid (polV n zs os vs ko kv veh ids = xs) := hxs
  have HCO : Hid (codeV true n zs os vs ko kv veh ids = 0) := hcode
  have PC : Hid (w.heap[pc]? = some (.cells #[Value.int IntKind.i64 n, Value.slice a zs.length cap, Value.slice ao ko co, Value.slice av kv cv, Value.int IntKind.i64 fine] 40 (0, 0))) := hpc
  have HRC : Hid (rcV n zs os vs ko kv veh ids ≤ 130000) := (rcV_bd (caseB_parts hcB).1 os vs ko kv veh ids).2
  have HBI : Hid (∃ b off, bi = some ⟨b, off, none⟩) := hbi
  clear hcB hxs hcode hpc hbi
  have D0 : Hid (DB w (((w.alloc (.cells #[Value.func (.func 82) #[] #[], Value.func (.func 83) #[] #[.pointer (some ⟨pc, 0, none⟩)]] 96)).alloc (.cells #[Value.int IntKind.i64 veh, Value.slice bi ids.length c2] 33)).alloc (.cells #[Value.int IntKind.i64 0, Value.slice none 0 0] 33)) #[Value.func (.func 82) #[] #[], Value.func (.func 83) #[] #[.pointer (some ⟨pc, 0, none⟩)]] #[Value.int IntKind.i64 veh, Value.slice bi ids.length c2]) := DB.new w _ _
  go_enter Try.func61, Try.ntmps61
  go_wp2_with fail
  go_loopw [13] (fun t wr => ∃ (k : Nat) (cur : List Int) (ad : Option Addr) (cc : Nat), k ≤ 130000 ∧ t = .int .i64 k ∧ (∃ b off, ad = some ⟨b, off, none⟩) ∧ DB w wr #[Value.func (.func 82) #[] #[], Value.func (.func 83) #[] #[.pointer (some ⟨pc, 0, none⟩)]] #[Value.int IntKind.i64 veh, Value.slice ad cur.length cc] ∧ ((ad = bi ∧ cur.length = ids.length) ∨ ∀ b off, ad = some ⟨b, off, none⟩ → w.heap.size + 2 < b) ∧ IntsAt wr ad cur ∧ cur.length ≤ cc ∧ codeV true n zs os vs ko kv veh cur = 0 ∧ polV n zs os vs ko kv veh cur = xs ∧ rcV n zs os vs ko kv veh cur + k ≤ 130000) (fun t _ => 130000 - (intOf t).toNat)
  case atStart =>
    refine ⟨0, ids, bi, c2, by omega, rfl, HBI.out, D0.out, .inl ⟨rfl, rfl⟩, HI.out.below D0.out.b, hc2, HCO.out, HXS.out, by have := HRC.out; omega⟩
  case round =>
    clear D0
    obtain ⟨k, cur, ad, cc, hk, rfl, hadr, hD, hlow, hcur, hcc, hco, hpo, hrc⟩ := hrel
    have ADR : Hid (∃ b off, ad = some ⟨b, off, none⟩) := hadr
    clear hadr
    have D1 : Hid (DB w wr #[Value.func (.func 82) #[] #[], Value.func (.func 83) #[] #[.pointer (some ⟨pc, 0, none⟩)]] #[Value.int IntKind.i64 veh, Value.slice ad cur.length cc]) := hD
    have LOW0 : Hid ((ad = bi ∧ cur.length = ids.length) ∨ ∀ b off, ad = some ⟨b, off, none⟩ → w.heap.size + 2 < b) := hlow
    have LOW : Hid (∀ b off, ad = some ⟨b, off, none⟩ → 0 < cur.length → b < w.heap.size ∨ w.heap.size + 2 < b) := fun b' off' e h => by
      rcases hlow with ⟨h1, h2⟩ | h1
      · refine .inl ?_
        obtain ⟨b2, off2, e2, hc⟩ := HI.out 0 (by omega)
        rw [← h1, e] at e2
        simp at e2
        obtain ⟨rfl, rfl⟩ := e2
        have := block_lt_of_cell hc
        simpa using this
      · exact .inr (h1 b' off' e)
    have CUR : Hid (IntsAt wr ad cur) := hcur
    have CO : Hid (codeV true n zs os vs ko kv veh cur = 0) := hco
    have PO : Hid (polV n zs os vs ko kv veh cur = xs) := hpo
    have h12 := code12 hco
    have RC : Hid (rcV n zs os vs ko kv veh cur + (k : Int) ≤ 130000) := hrc
    clear hD hlow hcur hco hpo hrc
    obtain ⟨q0, q1⟩ := cells2 D1.out.2.2.1
    by_cases hlt : k < 130000
    · have hlt' : (k : Int) < 130000 := by omega
      have hwk : IntKind.i64.wrap ((k : Int) + 1) = ((k + 1 : Nat) : Int) := by rw [IntWalk.i64_in _ (by omega)]; omega
      obtain ⟨m0, m1⟩ := cells2 D1.out.2.1
      obtain ⟨s, HS⟩ : ∃ t, Hid (btV true n zs os vs ko kv veh cur = t) := ⟨_, rfl⟩
      have hbv := bt_v (os := os) (vs := vs) (ko := ko) (kv := kv) (veh := veh) (ids := cur) HZ.out
      rw [HS.out] at hbv
      have HBV : Hid (-130000 ≤ s.v ∧ s.v ≤ 0 ∧ (s.f = false → s.v = 0) ∧ (s.f = true → s.v < 0)) := hbv
      clear hbv
      go_wp2_with fail
      clear m0 m1 q0 q1
      refine (best_any n fine veh a ao av ad cap ko co kv cv cc zs os vs cur wr (HA.out.below D1.out.b) (HO.out.below D1.out.b) (HV.out.below D1.out.b) CUR.out HLO.out HLV.out hko hkv (by omega) hcc HC.out h12 pc (below_row D1.out.b (row_lt PC.out) PC.out) s ((bt_len h12).trans HS.out)).mono ?_
      rintro e w2 ⟨rfl, hb⟩
      obtain ⟨sf, si, sj, sv⟩ := s
      dsimp only
      have D2 : Hid (DB w (w2.alloc (.cells #[Value.int IntKind.i64 si, Value.int IntKind.i64 sj] 91)) #[Value.func (.func 82) #[] #[], Value.func (.func 83) #[] #[.pointer (some ⟨pc, 0, none⟩)]] #[Value.int IntKind.i64 veh, Value.slice ad cur.length cc]) := (D1.out.below hb).below ((Below.refl _ _).alloc (Nat.le_refl _) _)
      have N2 : Hid ((w2.alloc (.cells #[Value.int IntKind.i64 si, Value.int IntKind.i64 sj] 91)).heap[w2.heap.size]? = some (.cells #[Value.int IntKind.i64 si, Value.int IntKind.i64 sj] 91 (0, 0))) := heap_alloc_new _ _
      have CU2 : Hid (IntsAt (w2.alloc (.cells #[Value.int IntKind.i64 si, Value.int IntKind.i64 sj] 91)) ad cur) := (CUR.out.below hb).below ((Below.refl _ _).alloc (Nat.le_refl _) _)
      clear hb D1 CUR
      obtain ⟨q0, q1⟩ := cells2 D2.out.2.2.1
      cases sf
      · have hst : (btV true n zs os vs ko kv veh cur).f = false := by rw [HS.out]
        have hx := PO.out
        rw [polV_stop hst] at hx
        subst hx
        obtain ⟨t0, t1⟩ := cells2 D2.out.2.2.2
        have tf := fun i => frozen_of_row _ _ i _ _ D2.out.2.2.2
        clear hst
        go_wp2
        refine bodyPost_ret (v := .tuple #[.agg #[.int .i64 veh, .slice ad cur.length cc], .int .i64 k]) (by simp [results, Try.results61, go_sem, t0, t1]) rfl ⟨ad, cc, k, rfl, ADR.out, LOW0.out, ?_, ?_, h12⟩
        · repeat (first | with_reducible exact D2.out.b | refine Below.setCell ?_ (by simp <;> omega) _)
        · refine ints_low (ints_low CU2.out ?_) ?_
          · intro b off e h
            have := LOW.out b off e h
            omega
          · intro b off e h
            have := LOW.out b off e h
            omega
      · have hst : (btV true n zs os vs ko kv veh cur).f = true := by rw [HS.out]
        obtain ⟨a1, a2, a3, a4⟩ := bt_made hst
        have hx := PO.out
        rw [polV_step HZ.out hst] at hx
        rw [HS.out] at a1 a2 a3 a4 hx
        dsimp only at a1 a2 a3 a4 hx
        obtain ⟨nx, HNX⟩ : ∃ t, Hid (revL cur si sj = t) := ⟨_, rfl⟩
        have hsv : Hid (sv < 0) := HBV.out.2.2.2 rfl
        have A4 : Hid (rcV n zs os vs ko kv veh nx - rcV n zs os vs ko kv veh cur = sv) := by rw [← HNX.out]; exact a4
        rw [HNX.out] at a1 hx
        have htb := turnB_true a2
        have HNL : Hid (nx.length = cur.length ∧ 0 < cur.length) := by
          refine ⟨?_, by omega⟩
          rw [← HNX.out]
          exact revL_length (by omega) (by omega)
        clear htb
        have A1 : Hid (codeV true n zs os vs ko kv veh nx = 0) := a1
        have A3 : Hid (trB true n zs os vs ko kv veh cur si sj = true) := a3
        have HX2 : Hid (polV n zs os vs ko kv veh nx = xs) := hx
        clear hst hx a1 a2 a3 a4
        obtain ⟨m0, m1⟩ := cells2 D2.out.2.1
        obtain ⟨n0, n1⟩ := cells2 N2.out
        have qf := fun i => frozen_of_row _ _ i _ _ D2.out.2.2.1
        go_wp2_with fail
        clear m0 m1 n0 n1 q0 q1 qf
        refine (turns1_any n fine veh a ao av ad cap ko co kv cv cc zs os vs cur (w2.alloc (.cells #[Value.int IntKind.i64 si, Value.int IntKind.i64 sj] 91)) (HA.out.below D2.out.b) (HO.out.below D2.out.b) (HV.out.below D2.out.b) CU2.out HLO.out HLV.out hko hkv (by omega) hcc HC.out pc (below_row D2.out.b (row_lt PC.out) PC.out) (si : Int) (sj : Int) true A3.out _ rfl nx (by rw [← HNX.out]; rfl)).mono ?_
        rintro e w4 ⟨hb, ad2, cc2, rfl, ho⟩
        have hvv : chI true veh = veh := rfl
        rw [hvv]
        clear hvv
        obtain ⟨DD, HDD⟩ : ∃ t, Hid (chD true n zs os vs ko kv veh cur (revL cur ((si : Int).toNat) ((sj : Int).toNat)) = t) := ⟨_, rfl⟩
        rw [HDD.out]
        have D4 : Hid (DB w w4 #[Value.func (.func 82) #[] #[], Value.func (.func 83) #[] #[.pointer (some ⟨pc, 0, none⟩)]] #[Value.int IntKind.i64 veh, Value.slice ad cur.length cc]) := D2.out.below hb
        have O4 : Hid (w4.ownsRow (w2.alloc (.cells #[Value.int IntKind.i64 si, Value.int IntKind.i64 sj] 91)).heap.size 2 1 (.slice ad2 nx.length cc2) nx.length _) := ho
        have L4 : Hid (w.heap.size + 2 < (w2.alloc (.cells #[Value.int IntKind.i64 si, Value.int IntKind.i64 sj] 91)).heap.size) := D2.out.big
        clear hb ho D2 CU2 N2
        have D5 : Hid (DB w _ #[Value.func (.func 82) #[] #[], Value.func (.func 83) #[] #[.pointer (some ⟨pc, 0, none⟩)]] #[Value.int IntKind.i64 veh, Value.slice ad2 nx.length cc2]) := D4.out.put (.int .i64 veh) (.slice ad2 nx.length cc2)
        obtain ⟨q0, q1⟩ := cells2 D4.out.2.2.1
        have qf := fun i => frozen_of_row _ _ i _ _ D4.out.2.2.1
        go_wp2
        go_roundw
        case rel =>
          obtain ⟨ad3, cc3, e3, _, hi3⟩ := owns_at1 O4.out
          simp only [Value.slice.injEq] at e3
          obtain ⟨rfl, _, rfl⟩ := e3
          have hlow3 : ∀ b off, ad2 = some ⟨b, off, none⟩ → w.heap.size + 2 < b := by
            intro b off e
            have := (O4.out.lt b (by rw [e]; rfl)).1
            have := L4.out
            omega
          have hlow2 : ∀ b off, ad2 = some ⟨b, off, none⟩ → 0 < nx.length → b < w.heap.size ∨ w.heap.size + 2 < b := fun b off e _ => .inr (hlow3 b off e)
          have hadr2 : ∃ b off, ad2 = some ⟨b, off, none⟩ := by
            rcases own_shape O4.out with h | ⟨g, c, h⟩
            · simp only [Value.slice.injEq] at h
              have := HNL.out
              omega
            · simp only [Value.slice.injEq] at h
              exact ⟨g, 0, h.1⟩
          refine ⟨k + 1, nx, ad2, cc2, by omega, by first | rfl | go_num, hadr2, D5.out, .inr hlow3, ?_, ?_, A1.out, HX2.out, by have h1 := RC.out; have h2 := A4.out; have h3 := hsv.out; omega⟩
          · refine ints_low (ints_low hi3 ?_) ?_
            · intro b off e h
              have := hlow2 b off e h
              omega
            · intro b off e h
              have := hlow2 b off e h
              omega
          · rcases own_shape O4.out with h | ⟨g, c, h⟩
            · simp only [Value.slice.injEq] at h
              omega
            · simp only [Value.slice.injEq] at h
              obtain ⟨rfl, _, rfl⟩ := h
              exact (own_bd O4.out).1
        case measure => simp [intOf]; omega
    · have hke : k = 130000 := by omega
      subst hke
      have hst := bt_free (os := os) (vs := vs) (ko := ko) (kv := kv) (veh := veh) (ids := cur) HZ.out (by have := RC.out; omega)
      have hx := PO.out
      rw [polV_stop hst] at hx
      subst hx
      obtain ⟨t0, t1⟩ := cells2 D1.out.2.2.2
      have tf := fun i => frozen_of_row _ _ i _ _ D1.out.2.2.2
      clear hst
      go_wp2
      refine bodyPost_ret (v := .tuple #[.agg #[.int .i64 veh, .slice ad cur.length cc], .int .i64 130000]) (by simp [results, Try.results61, go_sem, t0, t1]) rfl ⟨ad, cc, 130000, rfl, ADR.out, LOW0.out, ?_, ?_, h12⟩
      · repeat (first | with_reducible exact D1.out.b | refine Below.setCell ?_ (by simp <;> omega) _)
      · refine ints_low (ints_low CUR.out ?_) ?_
        · intro b off e h
          have := LOW.out b off e h
          omega
        · intro b off e h
          have := LOW.out b off e h
          omega

end Go.Proofs.Ytkmghjogmedpbaa

namespace Go.Proofs.Ytkmghjogmedpbaa
open Go.RowKit

/-- A route and the answer's route, in their boxes. -/
def RB2 (w W : World) (rs : Array Value) : Prop := Below w.heap.size w W ∧ W.heap[w.heap.size]? = some (.cells rs 33 (0, 0)) ∧ W.heap[w.heap.size + 1]? = some (.cells #[Value.int IntKind.i64 0, Value.slice none 0 0] 33 (0, 0))
theorem RB2.new (w : World) (rs : Array Value) : RB2 w ((w.alloc (.cells rs 33)).alloc (.cells #[Value.int IntKind.i64 0, Value.slice none 0 0] 33)) rs := ⟨((Below.refl _ _).alloc (Nat.le_refl _) _).alloc (by simp) _, heap_alloc2_old _ _ _, heap_alloc2_new _ _ _⟩
theorem RB2.below {w W W' : World} {rs : Array Value} (h : RB2 w W rs) (hb : Below W.heap.size W W') : RB2 w W' rs := ⟨h.1.trans (hb.mono h.1.size), below_row hb (row_lt h.2.1) h.2.1, below_row hb (row_lt h.2.2) h.2.2⟩
theorem RB2.b {w W : World} {rs : Array Value} (h : RB2 w W rs) : Below w.heap.size w W := h.1
theorem RB2.cells {w W : World} {r0 r1 : Value} (h : RB2 w W #[r0, r1]) : W.cell? ⟨w.heap.size, 0, none⟩ = some r0 ∧ W.cell? ⟨w.heap.size, 1, none⟩ = some r1 := cells2 h.2.1
theorem RB2.cellss {w W : World} {r0 r1 : Value} (h : RB2 w W #[r0, r1]) (u v : Value) :
    (fun X : World => X.cell? ⟨w.heap.size, 0, none⟩ = some r0 ∧ X.cell? ⟨w.heap.size, 1, none⟩ = some r1) ((W.setCell ⟨w.heap.size + 1, 0, none⟩ u).setCell ⟨w.heap.size + 1, 1, none⟩ v) :=
  ⟨keep_set (keep_set h.cells.1 (by omega)) (by omega), keep_set (keep_set h.cells.2 (by omega)) (by omega)⟩

theorem CRR.r {w W : World} {cs rs ts : Array Value} (h : CRR w W cs rs ts) : CR w W cs rs := h.1
theorem CRR.bg {w W : World} {cs rs ts : Array Value} (h : CRR w W cs rs ts) : w.heap.size + 1 < W.heap.size := row_lt h.1.2.2
/-- Where the stops that descended tells do not lie. -/
theorem stops_off {w w3 : World} {b off k : Nat} {ad : Option Addr} {ids xs : List Int} (hI : IntsAt w (some ⟨b, off, none⟩) ids) (hl : (ad = some ⟨b, off, none⟩ ∧ xs.length = ids.length) ∨ ∀ b' off', ad = some ⟨b', off', none⟩ → w3.heap.size + 2 < b') (h1 : w.heap.size ≤ k) (h2 : k ≤ w3.heap.size) :
    ∀ b' off', ad = some ⟨b', off', none⟩ → 0 < xs.length → b' ≠ k := by
  intro b' off' e h
  rcases hl with ⟨ha, hx⟩ | ha
  · obtain ⟨b2, off2, e2, hc⟩ := hI 0 (by omega)
    rw [← ha, e] at e2
    simp at e2
    obtain ⟨rfl, rfl⟩ := e2
    have := block_lt_of_cell hc
    simp at this
    omega
  · have := ha b' off' e
    omega

set_option maxHeartbeats 1000000 in
theorem copyOfRoute_any (veh : Int) (b off cc : Nat) (xs : List Int) (w : World) (hI : IntsAt w (some ⟨b, off, none⟩) xs) (hl : xs.length ≤ 12) :
    Calls Try.prog 62 #[.agg #[.int .i64 veh, .slice (some ⟨b, off, none⟩) xs.length cc]] w fun e w' => ∃ g c, e = .returned (.agg #[.int .i64 veh, .slice (some ⟨g, 0, none⟩) xs.length c]) ∧ Below w.heap.size w w' ∧ w'.ownsRow w.heap.size 2 1 (.slice (some ⟨g, 0, none⟩) xs.length c) xs.length (xs.map (Value.int .i64)) := by
  have HI : Hid (IntsAt w (some ⟨b, off, none⟩) xs) := hI
  clear hI
  have C0 : Hid (RB2 w ((w.alloc (.cells #[Value.int IntKind.i64 veh, Value.slice (some ⟨b, off, none⟩) xs.length cc] 33)).alloc (.cells #[Value.int IntKind.i64 0, Value.slice none 0 0] 33)) #[Value.int IntKind.i64 veh, Value.slice (some ⟨b, off, none⟩) xs.length cc]) := RB2.new w _
  go_enter Try.func62, Try.ntmps62
  go_wp2_with fail
  generalize ((w.alloc (.cells #[Value.int IntKind.i64 veh, Value.slice (some ⟨b, off, none⟩) xs.length cc] 33)).alloc (.cells #[Value.int IntKind.i64 0, Value.slice none 0 0] 33)) = W0 at *
  have kS := (C0.out.below (Below.refl _ _).drew).cells
  go_region_held3 (fun W => W.cell? ⟨w.heap.size, 0, none⟩ = some (.int .i64 veh) ∧ W.cell? ⟨w.heap.size, 1, none⟩ = some (.slice (some ⟨b, off, none⟩) xs.length cc)) (first | with_reducible exact kS | with_reducible exact RB2.cellss C1.out _ _) ((first
    | (go_at_call 73
       with_reducible refine (clone_ints b off cc xs W0.drew ((HI.out.below C0.out.b).below (Below.refl _ _).drew) (by omega)).mono ?_
       rintro e w1 ⟨g, cg, rfl, hb, ho⟩
       have C1 : Hid (RB2 w w1 #[Value.int IntKind.i64 veh, Value.slice (some ⟨b, off, none⟩) xs.length cc]) := C0.out.below ((Below.refl _ _).drew.trans (hb.mono (Nat.le_refl _)))
       have O1 : Hid (w1.ownsRow W0.heap.size 2 1 (.slice (some ⟨g, 0, none⟩) xs.length cg) xs.length (xs.map (Value.int .i64))) := ho
       have kS := C1.out.cells
       obtain ⟨u0, u1⟩ := cells2 C1.out.2.2
       have uf := fun i => frozen_of_row _ _ i _ _ C1.out.2.2
       clear hb ho)))
  all_goals
    clear kS
    have LG : Hid (w.heap.size + 1 < W0.heap.size) := row_lt C0.out.2.2
    go_wp2
    refine bodyPost_ret (v := .agg #[.int .i64 veh, .slice (some ⟨g, 0, none⟩) xs.length cg]) (by simp [results, Try.results62, go_sem, u0, u1]) rfl ⟨g, cg, rfl, ?_, ?_⟩
    · repeat (first | with_reducible exact C1.out.b | refine Below.setCell ?_ (by simp <;> omega) _)
    · exact owns_base (owns_set (owns_set O1.out LG.out) LG.out) (by have := LG.out; omega)

set_option maxHeartbeats 4000000 in
theorem implPolished_any (n fine veh : Int) (a ao av : Option Addr) (b off : Nat) (cap ko co kv cv c2 : Nat) (zs os vs ids : List Int) (w : World) (hA : IntsAt w a zs) (hO : IntsAt w ao os) (hV : IntsAt w av vs) (hI : IntsAt w (some ⟨b, off, none⟩) ids) (hlo : os.length = ko * 6) (hlv : vs.length = kv * 5) (hko : ko ≤ 9223372036854775807) (hkv : kv ≤ 9223372036854775807) (hli : ids.length ≤ 9223372036854775807) (hc2 : ids.length ≤ c2) (ok : Bool) (hok : decide (codeV (caseB n zs os vs ko kv fine) n zs os vs ko kv veh ids = 0) = ok) (xs : List Int) (hxs : chL ok (polV n zs os vs ko kv veh ids) = xs) :
    Calls Try.prog 29 #[.agg #[.int .i64 n, .slice a zs.length cap, .slice ao ko co, .slice av kv cv, .int .i64 fine], .agg #[.int .i64 veh, .slice (some ⟨b, off, none⟩) ids.length c2]] w (PolOk w ok veh xs) := by
  have HA : Hid (IntsAt w a zs) := hA
  have HO : Hid (IntsAt w ao os) := hO
  have HV : Hid (IntsAt w av vs) := hV
  have HI : Hid (IntsAt w (some ⟨b, off, none⟩) ids) := hI
  have HLO : Hid _ := hlo
  have HLV : Hid _ := hlv
  clear hA hO hV hI hlo hlv
  have HOK : Hid (decide (codeV (caseB n zs os vs ko kv fine) n zs os vs ko kv veh ids = 0) = ok) := hok
  have HXs : Hid (chL ok (polV n zs os vs ko kv veh ids) = xs) := hxs
  clear hok hxs
  have C0 : Hid (CRR w (((w.alloc (.cells #[Value.int IntKind.i64 n, Value.slice a zs.length cap, Value.slice ao ko co, Value.slice av kv cv, Value.int IntKind.i64 fine] 40)).alloc (.cells #[Value.int IntKind.i64 veh, Value.slice (some ⟨b, off, none⟩) ids.length c2] 33)).alloc (.cells #[Value.int IntKind.i64 0, Value.slice none 0 0] 33)) #[Value.int IntKind.i64 n, Value.slice a zs.length cap, Value.slice ao ko co, Value.slice av kv cv, Value.int IntKind.i64 fine] #[Value.int IntKind.i64 veh, Value.slice (some ⟨b, off, none⟩) ids.length c2] #[Value.int IntKind.i64 0, Value.slice none 0 0]) := CRR.new w _ _ _
  go_enter Try.func29, Try.ntmps29
  obtain ⟨c0, c1, c2', c3, c4⟩ := cells5 C0.out.1.2.1
  obtain ⟨d0, d1⟩ := cells2 C0.out.1.2.2
  go_wp2_with fail
  clear c0 c1 c2' c3 c4 d0 d1
  refine (checkedTour_any n fine veh a ao av _ cap ko co kv cv c2 zs os vs ids _ (HA.out.below C0.out.b) (HO.out.below C0.out.b) (HV.out.below C0.out.b) (HI.out.below C0.out.b) HLO.out HLV.out hko hkv hli hc2).mono ?_
  rintro e w1 ⟨hb, ⟨hf, rfl⟩ | ⟨hf, g, _, rfl, _⟩⟩
  · have C1 : Hid (CRR w (w1.alloc (.cells #[Value.int IntKind.i64 0, Value.slice none 0 0, Value.int IntKind.i64 0, Value.int IntKind.i64 0, Value.int IntKind.i64 0, Value.int IntKind.i64 0, Value.int IntKind.i64 0, Value.slice none 0 0] 83)) #[Value.int IntKind.i64 n, Value.slice a zs.length cap, Value.slice ao ko co, Value.slice av kv cv, Value.int IntKind.i64 fine] #[Value.int IntKind.i64 veh, Value.slice (some ⟨b, off, none⟩) ids.length c2] #[Value.int IntKind.i64 0, Value.slice none 0 0]) := (C0.out.below hb).alloc _
    have hk : ok = false := HOK.out.symm.trans (decide_eq_false hf)
    subst hk
    have HX : Hid (xs = []) := HXs.out.symm
    obtain ⟨fv, HFV⟩ : ∃ t, Hid (codeV (caseB n zs os vs ko kv fine) n zs os vs ko kv veh ids = t) := ⟨_, rfl⟩
    rw [HFV.out] at hf ⊢
    have hfb : (fv != 0) = true := by simp [hf]
    clear hb hf
    obtain ⟨t0, t1⟩ := cells2 C1.out.2
    have tf := fun i => frozen_of_row _ _ i _ _ C1.out.2
    go_wp2
    refine bodyPost_ret (v := .tuple #[.agg #[Value.int IntKind.i64 0, Value.slice none 0 0], .bool false]) (by simp [results, Try.results29, go_sem, t0, t1]) rfl ⟨?_, none, 0, ?_, ?_⟩
    · repeat (first | with_reducible exact C1.out.b | refine Below.setCell ?_ (by simp <;> omega) _)
    · rw [HX.out]; rfl
    · rw [HX.out]; exact World.ownsRow_nil _ _ _ _
  · have hcb := code_case hf
    have hk : ok = true := HOK.out.symm.trans (decide_eq_true hf)
    subst hk
    have HPO : Hid (polV n zs os vs ko kv veh ids = xs) := HXs.out
    have HC : Hid (caseB n zs os vs ko kv fine = true) := hcb
    have hz2 := hf
    rw [hcb] at hz2
    have HZ1 : Hid (codeV true n zs os vs ko kv veh ids = 0) := hz2
    obtain ⟨v0, G0⟩ : ∃ t, Hid (fnd5F vs kv veh 0 = t) := ⟨_, rfl⟩
    obtain ⟨v1, G1⟩ : ∃ t, Hid (fnd5F vs kv veh 1 = t) := ⟨_, rfl⟩
    obtain ⟨v2, G2⟩ : ∃ t, Hid (fnd5F vs kv veh 2 = t) := ⟨_, rfl⟩
    obtain ⟨v3, G3⟩ : ∃ t, Hid (fnd5F vs kv veh 3 = t) := ⟨_, rfl⟩
    obtain ⟨v4, G4⟩ : ∃ t, Hid (fnd5F vs kv veh 4 = t) := ⟨_, rfl⟩
    rw [G0.out, G1.out, G2.out, G3.out, G4.out]
    have C1 : Hid (CRR w (w1.alloc (.cells #[Value.int IntKind.i64 n, Value.slice a zs.length cap, Value.int IntKind.i64 v0, Value.int IntKind.i64 v1, Value.int IntKind.i64 v2, Value.int IntKind.i64 v3, Value.int IntKind.i64 v4, Value.slice (some ⟨g, 0, none⟩) ids.length ids.length] 83)) #[Value.int IntKind.i64 n, Value.slice a zs.length cap, Value.slice ao ko co, Value.slice av kv cv, Value.int IntKind.i64 fine] #[Value.int IntKind.i64 veh, Value.slice (some ⟨b, off, none⟩) ids.length c2] #[Value.int IntKind.i64 0, Value.slice none 0 0]) := (C0.out.below hb).alloc _
    clear hb hf hcb hz2 G0 G1 G2 G3 G4
    go_wp2_with fail
    generalize w1.alloc (.cells #[Value.int IntKind.i64 n, Value.slice a zs.length cap, Value.int IntKind.i64 v0, Value.int IntKind.i64 v1, Value.int IntKind.i64 v2, Value.int IntKind.i64 v3, Value.int IntKind.i64 v4, Value.slice (some ⟨g, 0, none⟩) ids.length ids.length] 83) = w2 at *
    have kS := cr7 (C1.out.below (Below.refl _ _).drew).1
    go_region_held3 (fun W => W.cell? ⟨w.heap.size, 0, none⟩ = some (.int .i64 n) ∧ W.cell? ⟨w.heap.size, 1, none⟩ = some (.slice a zs.length cap) ∧ W.cell? ⟨w.heap.size, 2, none⟩ = some (.slice ao ko co) ∧ W.cell? ⟨w.heap.size, 3, none⟩ = some (.slice av kv cv) ∧ W.cell? ⟨w.heap.size, 4, none⟩ = some (.int .i64 fine) ∧ W.cell? ⟨w.heap.size + 1, 0, none⟩ = some (.int .i64 veh) ∧ W.cell? ⟨w.heap.size + 1, 1, none⟩ = some (.slice (some ⟨b, off, none⟩) ids.length c2)) (first | with_reducible exact kS | with_reducible exact cr7s C4.out.r C1.out.bg _ _ | with_reducible exact cr7s C4.out.r C3.out.bg _ _ | with_reducible exact cr7 (CR.alloc C4.out.r _) | with_reducible exact cr7 (CR.alloc C3.out.r _) | with_reducible exact cr7 (CR.drew (CR.alloc C1.out.r _))) ((first
      | (go_at_call 59
         with_reducible refine (turns_any _ w2.drew n fine a ao av cap ko co kv cv zs.length rfl).mono ?_
         rintro e w3 ⟨pc, rfl, hb, hpc⟩
         have C3 : Hid (CRR w w3 #[Value.int IntKind.i64 n, Value.slice a zs.length cap, Value.slice ao ko co, Value.slice av kv cv, Value.int IntKind.i64 fine] #[Value.int IntKind.i64 veh, Value.slice (some ⟨b, off, none⟩) ids.length c2] #[Value.int IntKind.i64 0, Value.slice none 0 0]) := (C1.out.below (Below.refl _ _).drew).below hb
         have P3 : Hid (w3.heap[pc]? = some (.cells #[Value.int IntKind.i64 n, Value.slice a zs.length cap, Value.slice ao ko co, Value.slice av kv cv, Value.int IntKind.i64 fine] 40 (0, 0))) := hpc
         have kS := cr7 C3.out.r
         clear hb hpc)
      | (go_at_call 59
         with_reducible refine (turns_any _ (w2.alloc (Obj.cells #[Value.int IntKind.i64 0, Value.slice none 0 0] 33)).drew n fine a ao av cap ko co kv cv zs.length rfl).mono ?_
         rintro e w3 ⟨pc, rfl, hb, hpc⟩
         have C3 : Hid (CRR w w3 #[Value.int IntKind.i64 n, Value.slice a zs.length cap, Value.slice ao ko co, Value.slice av kv cv, Value.int IntKind.i64 fine] #[Value.int IntKind.i64 veh, Value.slice (some ⟨b, off, none⟩) ids.length c2] #[Value.int IntKind.i64 0, Value.slice none 0 0]) := ((C1.out.alloc (Obj.cells #[Value.int IntKind.i64 0, Value.slice none 0 0] 33)).below (Below.refl _ _).drew).below hb
         have P3 : Hid (w3.heap[pc]? = some (.cells #[Value.int IntKind.i64 n, Value.slice a zs.length cap, Value.slice ao ko co, Value.slice av kv cv, Value.int IntKind.i64 fine] 40 (0, 0))) := hpc
         have V3 := below_row hb (k := w2.heap.size) (by simp) (heap_alloc_new w2 (Obj.cells #[Value.int IntKind.i64 0, Value.slice none 0 0] 33))
         have kS := cr7 C3.out.r
         clear hb hpc)
      | (go_at_call 61
         with_reducible refine (descended_any n fine veh a ao av (some ⟨b, off, none⟩) cap ko co kv cv c2 zs os vs ids w3 (HA.out.below C3.out.b) (HO.out.below C3.out.b) (HV.out.below C3.out.b) (HI.out.below C3.out.b) HLO.out HLV.out hko hkv hli hc2 ⟨b, off, rfl⟩ HC.out pc P3.out HZ1.out xs HPO.out).mono ?_
         rintro e w4 ⟨ad, cc, cnt, rfl, hadr, hlw, hb, hix, hx12⟩
         have C4 : Hid (CRR w w4 #[Value.int IntKind.i64 n, Value.slice a zs.length cap, Value.slice ao ko co, Value.slice av kv cv, Value.int IntKind.i64 fine] #[Value.int IntKind.i64 veh, Value.slice (some ⟨b, off, none⟩) ids.length c2] #[Value.int IntKind.i64 0, Value.slice none 0 0]) := C3.out.below hb
         have I4 : Hid ((∃ b off, ad = some ⟨b, off, none⟩) ∧ IntsAt w4 ad xs ∧ xs.length ≤ 12 ∧ w3.heap.size ≤ w4.heap.size) := ⟨hadr, hix, hx12, hb.size⟩
         try (have V4 := below_row hb (row_lt V3) V3
              obtain ⟨z0, z1⟩ := cells2 V4
              have zf := fun i => frozen_of_row _ _ i _ _ V4
              have L4 : Hid (∀ b off, ad = some ⟨b, off, none⟩ → 0 < xs.length → b ≠ w2.heap.size) := stops_off HI.out hlw (by have := C1.out.big; omega) (Nat.le_of_lt (row_lt V3)))
         have kS := cr7 C4.out.r
         clear hb hadr hlw hix hx12)
      | (go_at_call 61
         with_reducible refine (descended_any n fine veh a ao av (some ⟨b, off, none⟩) cap ko co kv cv c2 zs os vs ids (w3.alloc (Obj.cells #[Value.int IntKind.i64 0, Value.slice none 0 0] 33)) (HA.out.below (C3.out.alloc (Obj.cells #[Value.int IntKind.i64 0, Value.slice none 0 0] 33)).b) (HO.out.below (C3.out.alloc (Obj.cells #[Value.int IntKind.i64 0, Value.slice none 0 0] 33)).b) (HV.out.below (C3.out.alloc (Obj.cells #[Value.int IntKind.i64 0, Value.slice none 0 0] 33)).b) (HI.out.below (C3.out.alloc (Obj.cells #[Value.int IntKind.i64 0, Value.slice none 0 0] 33)).b) HLO.out HLV.out hko hkv hli hc2 ⟨b, off, rfl⟩ HC.out pc (below_row ((Below.refl _ _).alloc (Nat.le_refl _) _) (row_lt P3.out) P3.out) HZ1.out xs HPO.out).mono ?_
         rintro e w4 ⟨ad, cc, cnt, rfl, hadr, hlw, hb, hix, hx12⟩
         have C4 : Hid (CRR w w4 #[Value.int IntKind.i64 n, Value.slice a zs.length cap, Value.slice ao ko co, Value.slice av kv cv, Value.int IntKind.i64 fine] #[Value.int IntKind.i64 veh, Value.slice (some ⟨b, off, none⟩) ids.length c2] #[Value.int IntKind.i64 0, Value.slice none 0 0]) := (C3.out.alloc (Obj.cells #[Value.int IntKind.i64 0, Value.slice none 0 0] 33)).below hb
         have I4 : Hid ((∃ b off, ad = some ⟨b, off, none⟩) ∧ IntsAt w4 ad xs ∧ xs.length ≤ 12 ∧ w3.heap.size ≤ w4.heap.size) := ⟨hadr, hix, hx12, by have := hb.size; simp at this; omega⟩
         have V4 := below_row hb (k := w3.heap.size) (by simp) (heap_alloc_new w3 (Obj.cells #[Value.int IntKind.i64 0, Value.slice none 0 0] 33))
         obtain ⟨z0, z1⟩ := cells2 V4
         have zf := fun i => frozen_of_row _ _ i _ _ V4
         have L4 : Hid (∀ b off, ad = some ⟨b, off, none⟩ → 0 < xs.length → b ≠ w3.heap.size) := stops_off HI.out hlw (by have := C3.out.big; omega) (by simp)
         have kS := cr7 C4.out.r
         clear hb hadr hlw hix hx12)))
    all_goals
      clear kS
      obtain ⟨⟨b5, off5, rfl⟩, hix, hx12, _⟩ := I4.out
      have IX : Hid (IntsAt w4 (some ⟨b5, off5, none⟩) xs) := hix
      clear hix
      first
        | (have V5 : w4.heap[w2.heap.size]? = _ := V4
           have CF : Hid (CRR w ((w4.setCell ⟨w2.heap.size, 0, none⟩ (.int .i64 veh)).setCell ⟨w2.heap.size, 1, none⟩ (.slice (some ⟨b5, off5, none⟩) xs.length cc)) #[Value.int IntKind.i64 n, Value.slice a zs.length cap, Value.slice ao ko co, Value.slice av kv cv, Value.int IntKind.i64 fine] #[Value.int IntKind.i64 veh, Value.slice (some ⟨b, off, none⟩) ids.length c2] #[Value.int IntKind.i64 0, Value.slice none 0 0]) := (C4.out.put C1.out.big).put C1.out.big
           have VF : Hid (((w4.setCell ⟨w2.heap.size, 0, none⟩ (.int .i64 veh)).setCell ⟨w2.heap.size, 1, none⟩ (.slice (some ⟨b5, off5, none⟩) xs.length cc)).heap[w2.heap.size]? = some (.cells #[Value.int IntKind.i64 veh, Value.slice (some ⟨b5, off5, none⟩) xs.length cc] 33 (0, 0))) := box_set2 V4
           have IF : Hid (IntsAt ((w4.setCell ⟨w2.heap.size, 0, none⟩ (.int .i64 veh)).setCell ⟨w2.heap.size, 1, none⟩ (.slice (some ⟨b5, off5, none⟩) xs.length cc)) (some ⟨b5, off5, none⟩) xs) := ints_low (ints_low IX.out L4.out) L4.out
           clear z0 z1 zf V5
           generalize ((w4.setCell ⟨w2.heap.size, 0, none⟩ (.int .i64 veh)).setCell ⟨w2.heap.size, 1, none⟩ (.slice (some ⟨b5, off5, none⟩) xs.length cc)) = WF at *
           generalize w2.heap.size = bt at *)
        | (have V5 : w4.heap[w3.heap.size]? = _ := V4
           have CF : Hid (CRR w ((w4.setCell ⟨w3.heap.size, 0, none⟩ (.int .i64 veh)).setCell ⟨w3.heap.size, 1, none⟩ (.slice (some ⟨b5, off5, none⟩) xs.length cc)) #[Value.int IntKind.i64 n, Value.slice a zs.length cap, Value.slice ao ko co, Value.slice av kv cv, Value.int IntKind.i64 fine] #[Value.int IntKind.i64 veh, Value.slice (some ⟨b, off, none⟩) ids.length c2] #[Value.int IntKind.i64 0, Value.slice none 0 0]) := (C4.out.put C3.out.big).put C3.out.big
           have VF : Hid (((w4.setCell ⟨w3.heap.size, 0, none⟩ (.int .i64 veh)).setCell ⟨w3.heap.size, 1, none⟩ (.slice (some ⟨b5, off5, none⟩) xs.length cc)).heap[w3.heap.size]? = some (.cells #[Value.int IntKind.i64 veh, Value.slice (some ⟨b5, off5, none⟩) xs.length cc] 33 (0, 0))) := box_set2 V4
           have IF : Hid (IntsAt ((w4.setCell ⟨w3.heap.size, 0, none⟩ (.int .i64 veh)).setCell ⟨w3.heap.size, 1, none⟩ (.slice (some ⟨b5, off5, none⟩) xs.length cc)) (some ⟨b5, off5, none⟩) xs) := ints_low (ints_low IX.out L4.out) L4.out
           clear z0 z1 zf V5
           generalize ((w4.setCell ⟨w3.heap.size, 0, none⟩ (.int .i64 veh)).setCell ⟨w3.heap.size, 1, none⟩ (.slice (some ⟨b5, off5, none⟩) xs.length cc)) = WF at *
           generalize w3.heap.size = bt at *)
        | (have CF : Hid (CRR w (w4.alloc (Obj.cells #[Value.int IntKind.i64 veh, Value.slice (some ⟨b5, off5, none⟩) xs.length cc] 33)) #[Value.int IntKind.i64 n, Value.slice a zs.length cap, Value.slice ao ko co, Value.slice av kv cv, Value.int IntKind.i64 fine] #[Value.int IntKind.i64 veh, Value.slice (some ⟨b, off, none⟩) ids.length c2] #[Value.int IntKind.i64 0, Value.slice none 0 0]) := C4.out.alloc _
           have VF : Hid ((w4.alloc (Obj.cells #[Value.int IntKind.i64 veh, Value.slice (some ⟨b5, off5, none⟩) xs.length cc] 33)).heap[w4.heap.size]? = some (.cells #[Value.int IntKind.i64 veh, Value.slice (some ⟨b5, off5, none⟩) xs.length cc] 33 (0, 0))) := heap_alloc_new _ _
           have IF : Hid (IntsAt (w4.alloc (Obj.cells #[Value.int IntKind.i64 veh, Value.slice (some ⟨b5, off5, none⟩) xs.length cc] 33)) (some ⟨b5, off5, none⟩) xs) := IX.out.below ((Below.refl _ _).alloc (Nat.le_refl _) _)
           generalize w4.alloc (Obj.cells #[Value.int IntKind.i64 veh, Value.slice (some ⟨b5, off5, none⟩) xs.length cc] 33) = WF at *
           generalize w4.heap.size = bt at *)
      obtain ⟨f0, f1⟩ := cells2 VF.out
      go_wp2_with fail
      clear f0 f1
      refine (copyOfRoute_any veh b5 off5 cc xs WF IF.out hx12).mono ?_
      rintro e w5 ⟨g5, c5, rfl, hb, ho⟩
      have CG : Hid (CRR w w5 #[Value.int IntKind.i64 n, Value.slice a zs.length cap, Value.slice ao ko co, Value.slice av kv cv, Value.int IntKind.i64 fine] #[Value.int IntKind.i64 veh, Value.slice (some ⟨b, off, none⟩) ids.length c2] #[Value.int IntKind.i64 0, Value.slice none 0 0]) := CF.out.below hb
      have OG : Hid (w5.ownsRow WF.heap.size 2 1 (.slice (some ⟨g5, 0, none⟩) xs.length c5) xs.length _) := ho
      have LG : Hid (w.heap.size + 2 < WF.heap.size) := CF.out.big
      clear hb ho
      obtain ⟨t0, t1⟩ := cells2 CG.out.2
      have tf := fun i => frozen_of_row _ _ i _ _ CG.out.2
      go_wp2
      refine bodyPost_ret (v := .tuple #[.agg #[.int .i64 veh, .slice (some ⟨g5, 0, none⟩) xs.length c5], .bool true]) (by simp [results, Try.results29, go_sem, t0, t1]) rfl ⟨?_, some ⟨g5, 0, none⟩, c5, rfl, ?_⟩
      · repeat (first | with_reducible exact CG.out.b | refine Below.setCell ?_ (by simp <;> omega) _)
      · exact owns_base (owns_set (owns_set OG.out LG.out) LG.out) (by have := LG.out; omega)

end Go.Proofs.Ytkmghjogmedpbaa
