import Derived.Test.YtehfjfmfpdgibaaGreatDoorPack0
import Derived.Test.YtehfjfmfpdgibaaGreatDoorPack1
import Derived.Test.YtehfjfmfpdgibaaGreatDoorPack3
import Derived.Test.YtehfjfmfpdgibaaGreatDoorPack4
namespace Go.Proofs.YtehfjfmfpdgibaaGreatDoor
open Go.RowKit
def RX (w : World) (q : Nat) (s : List UInt8) : Prop := w.heap[q]? = some (.cells #[.string (txt s)] 160 (0, 0))
theorem txt_drop (s : List UInt8) (k : Nat) : (txt s).extract k s.length = txt (s.drop k) := by
 apply ByteArray.ext
 simp [txt]
 exact List.take_of_length_le (by simp)
theorem txt_take (s : List UInt8) (k : Nat) : (txt s).extract 0 k = txt (s.take k) := by
 apply ByteArray.ext
 simp [txt]
def wVers : List UInt8 := [118, 101, 114, 115, 105, 111, 110]
def wTen : List UInt8 := [116, 101, 110, 97, 110, 116, 32]
def wStore : List UInt8 := [115, 116, 111, 114, 101]
def caseW (c : CV) : List UInt8 := if c.ok = true then c.tx else []
def planW (R : List RT) (L : List Int) : List UInt8 := if formB R L = true then planL R L else []
def snL (s : SN) : List UInt8 := lineL wSnap [s.id] ++ caseW s.c
def vnL (v : VN) : List UInt8 := lineL wVers [v.id, v.sn] ++ planW v.R v.L
def tnH (t : TN) : List UInt8 := lineL (wTen ++ t.nm) [t.nx, t.pub]
def tnL (t : TN) : List UInt8 := tnH t ++ (t.S.flatMap snL ++ t.V.flatMap vnL)
def stH (T : List TN) : List UInt8 := lineL wStore [(T.length : Int)]
def stL (T : List TN) : List UInt8 := stH T ++ T.flatMap tnL
noncomputable def stW (T : List TN) : List UInt8 := if storeB T = true then stL T else []
theorem planW_plain (R : List RT) (L : List Int) : planW (R.map RT.plain) L = planW R L := by
 have h : (R.map RT.plain).map RT.key = R.map RT.key := by rw [List.map_map]; rfl
 unfold planW
 rw [formB_key L h, planL_key L h]
theorem vnL_plain (v : VN) : vnL v.plain = vnL v := by
 unfold vnL VN.plain
 simp only [planW_plain]
theorem tnL_plain (t : TN) : tnL t.plain = tnL t := by
 have e1 : (t.S.map SN.plain).flatMap snL = t.S.flatMap snL := by rw [List.flatMap_map]; rfl
 have e2 : (t.V.map VN.plain).flatMap vnL = t.V.flatMap vnL := by
  rw [List.flatMap_map]
  congr 1
  funext v
  exact vnL_plain v
 unfold tnL TN.plain tnH
 simp only [e1, e2]
theorem stL_plain (T : List TN) : stL (T.map TN.plain) = stL T := by
 have e1 : (T.map TN.plain).flatMap tnL = T.flatMap tnL := by
  rw [List.flatMap_map]
  congr 1
  funext t
  exact tnL_plain t
 unfold stL stH
 rw [e1, List.length_map]
theorem stW_same {S T : List TN} (h : S.map TN.plain = T.map TN.plain) : stW S = stW T := by
 unfold stW
 rw [storeB_same h, <- stL_plain S, h, stL_plain]
structure TNR (t : TN) : Prop where
 nm : t.nm.length <= 12
 nx : 0 <= t.nx /\ t.nx <= 1000000000
 pb : 0 <= t.pub /\ t.pub <= 1000000000
 s8 : t.S.length <= 8
 v8 : t.V.length <= 8
 si : ∀ s ∈ t.S, 0 <= s.id /\ s.id <= 1000000000
 vi : ∀ v ∈ t.V, 0 <= v.id /\ v.id <= 1000000000
 vs : ∀ v ∈ t.V, 0 <= v.sn /\ v.sn <= 1000000000
theorem kTo_in {nx : Int} {ids : List Int} : ∀ {k : Nat}, kTo nx ids k = true -> ∀ i, i < k -> inB (ids.getD i 0) 1 (nx - 1) = true
 | k + 1, h, i, hi => by
   simp only [kTo, Bool.and_eq_true] at h
   by_cases e : i = k
   · subst e
     have := h.2
     unfold stepK at this
     rw [Bool.and_eq_true] at this
     exact this.1
   · exact kTo_in h.1 i (by omega)
theorem rowB9_in {α : Type} {f : α -> Int} {nx : Int} {l : List α} (h : rowB9 nx (l.map f) = true) : l.length <= 8 /\ ∀ x ∈ l, 1 <= f x /\ f x <= nx - 1 := by
 unfold rowB9 at h
 rw [Bool.and_eq_true, List.length_map] at h
 refine ⟨of_decide_eq_true h.1, fun x hx => ?_⟩
 obtain ⟨i, hi, rfl⟩ := List.getElem_of_mem hx
 have := kTo_in h.2 i hi
 rw [getD_map hi] at this
 simpa [inB] using this
theorem tenB_right {t : TN} (h : tenB t = true) : TNR t := by
 unfold tenB at h
 simp only [Bool.and_eq_true] at h
 obtain ⟨h1, h2, h3, h4, h5⟩ := h
 have h1' : 1 <= t.nm.length /\ t.nm.length <= 12 := by
  unfold nmB at h1
  rw [Bool.and_eq_true] at h1
  exact of_decide_eq_true h1.1
 have h2' : 1 <= t.nx /\ t.nx <= 1000000000 := by simpa [inB] using h2
 unfold snapsB at h3
 unfold versB at h4
 rw [Bool.and_eq_true] at h3 h4
 obtain ⟨k1, k2⟩ := rowB9_in h3.1
 obtain ⟨m1, m2⟩ := rowB9_in h4.1
 refine ⟨h1'.2, by omega, ?_, k1, m1, fun s hs => by have := k2 s hs; omega, fun v hv => by have := m2 v hv; omega, fun v hv => ?_⟩
 · unfold pubB at h5
   rw [Bool.or_eq_true] at h5
   rcases h5 with h5 | h5
   · have := of_decide_eq_true h5; omega
   · obtain ⟨v, hv⟩ := Option.isSome_iff_exists.1 h5
     have := m2 v (List.mem_of_find?_eq_some hv)
     have e : v.id = t.pub := by simpa using List.find?_some (show List.find? (fun v => decide (v.id = t.pub)) t.V = some v from hv)
     omega
 · obtain ⟨i, hi, rfl⟩ := List.getElem_of_mem hv
   have := allB_mem h4.2 i hi hi
   unfold vOk at this
   rw [Bool.and_eq_true] at this
   obtain ⟨s, hs⟩ := Option.isSome_iff_exists.1 this.1
   have h6 := k2 s (List.mem_of_find?_eq_some hs)
   have e : s.id = t.V[i].sn := by simpa using List.find?_some (show List.find? (fun s => decide (s.id = t.V[i].sn)) t.S = some s from hs)
   omega
theorem tTo_all {T : List TN} : ∀ {k : Nat}, tTo T k = true -> ∀ i, i < k -> tenB (T.getD i tn0) = true
 | k + 1, h, i, hi => by
   simp only [tTo, Bool.and_eq_true] at h
   by_cases e : i = k
   · subst e
     have := h.2
     unfold stepT at this
     rw [Bool.and_eq_true] at this
     exact this.1
   · exact tTo_all h.1 i (by omega)
theorem storeB_right {T : List TN} (h : storeB T = true) : T.length <= 5 /\ ∀ t ∈ T, TNR t := by
 unfold storeB at h
 rw [Bool.and_eq_true] at h
 refine ⟨of_decide_eq_true h.1, fun t ht => ?_⟩
 obtain ⟨i, hi, rfl⟩ := List.getElem_of_mem ht
 have := tTo_all h.2 i hi
 rw [List.getD_eq_getElem?_getD, List.getElem?_eq_getElem hi] at this
 exact tenB_right this
theorem caseW_len (c : CV) : (caseW c).length <= 20000 := by
 unfold caseW
 split
 · rename_i h
   obtain ⟨n, f, zs, os, vs, ko, kv⟩ := c
   have hc : caseB n zs os vs ko kv f = true := h
   obtain ⟨hmat, hords, hvehs, hn1, hf0, hf1⟩ := caseB_parts hc
   obtain ⟨-, hn2, -⟩ := matB_true hmat
   have h1 := timesL_len hmat n.toNat (Nat.le_refl _)
   have h2 := ordersL_len hords hn2 ko (Nat.le_refl _)
   have h3 := vehiclesL_len hvehs hn2 kv (Nat.le_refl _)
   have hk12 := (ordsB_true hords).1
   have hk5 := (vehsB_true hvehs).1
   have h4 : (headL n f).length <= 100 := by
    have := lineL_len wCase [n, f] (fun v hv => by simp at hv; rcases hv with rfl | rfl <;> omega)
    have e : wCase.length = 4 := rfl
    simp at this
    show (lineL wCase [n, f]).length <= 100
    omega
   show (caseL n f zs os vs ko kv).length <= 20000
   unfold caseL
   simp only [List.length_append]
   omega
 · simp
theorem planW_len (R : List RT) (L : List Int) : (planW R L).length <= 2000 := by
 unfold planW
 split
 · rename_i h
   exact planL_len h
 · simp
theorem flat_lenS {α : Type} {f : α -> List UInt8} {M : Nat} : ∀ {l : List α}, (∀ x ∈ l, (f x).length <= M) -> ∀ k, ((l.take k).flatMap f).length <= k * M
 | [], _, k => by simp
 | x :: l, h, 0 => by simp
 | x :: l, h, k + 1 => by
   have := flat_lenS (l := l) (fun y hy => h y (List.mem_cons_of_mem _ hy)) k
   have h1 := h x (List.mem_cons_self ..)
   rw [List.take_succ_cons, List.flatMap_cons, List.length_append, Nat.succ_mul]
   omega
theorem flat_step {α : Type} (f : α -> List UInt8) {l : List α} {k : Nat} (hk : k < l.length) : (l.take (k + 1)).flatMap f = (l.take k).flatMap f ++ f l[k] := by
 rw [List.take_succ_eq_append_getElem hk, List.flatMap_append]
 simp
theorem snL_len {s : SN} (h : 0 <= s.id /\ s.id <= 1000000000) : (snL s).length <= 20100 := by
 have h1 := lineL_len wSnap [s.id] (fun v hv => by simp at hv; subst hv; exact h)
 have h2 := caseW_len s.c
 have e : wSnap.length = 4 := rfl
 simp at h1
 unfold snL
 rw [List.length_append]
 omega
theorem vnL_len {v : VN} (h : 0 <= v.id /\ v.id <= 1000000000) (h' : 0 <= v.sn /\ v.sn <= 1000000000) : (vnL v).length <= 2100 := by
 have h1 := lineL_len wVers [v.id, v.sn] (fun x hx => by simp at hx; rcases hx with rfl | rfl <;> assumption)
 have h2 := planW_len v.R v.L
 have e : wVers.length = 7 := rfl
 simp at h1
 unfold vnL
 rw [List.length_append]
 omega
theorem tnH_len {t : TN} (h : TNR t) : (tnH t).length <= 100 := by
 have h1 := lineL_len (wTen ++ t.nm) [t.nx, t.pub] (fun x hx => by simp at hx; rcases hx with rfl | rfl <;> first | exact h.nx | exact h.pb)
 have e : wTen.length = 7 := rfl
 have h2 := h.nm
 simp at h1
 unfold tnH
 omega
theorem snS_len {t : TN} (h : TNR t) (k : Nat) (hk : k <= 8) : ((t.S.take k).flatMap snL).length <= 160800 := by
 have := flat_lenS (f := snL) (fun s hs => snL_len (h.si s hs)) k
 omega
theorem vnS_len {t : TN} (h : TNR t) (k : Nat) (hk : k <= 8) : ((t.V.take k).flatMap vnL).length <= 16800 := by
 have := flat_lenS (f := vnL) (fun v hv => vnL_len (h.vi v hv) (h.vs v hv)) k
 omega
theorem tnL_len {t : TN} (h : TNR t) : (tnL t).length <= 200000 := by
 have h1 := tnH_len h
 have h2 := snS_len h t.S.length h.s8
 have h3 := vnS_len h t.V.length h.v8
 rw [List.take_length] at h2 h3
 unfold tnL
 rw [List.length_append, List.length_append]
 omega
theorem tnS_len {T : List TN} (h : ∀ t ∈ T, TNR t) (k : Nat) (hk : k <= 5) : ((T.take k).flatMap tnL).length <= 1000000 := by
 have := flat_lenS (f := tnL) (fun t ht => tnL_len (h t ht)) k
 omega
theorem stH_len {T : List TN} (h : T.length <= 5) : (stH T).length <= 100 := by
 have h1 := lineL_len wStore [(T.length : Int)] (fun x hx => by simp at hx; subst hx; omega)
 have e : wStore.length = 5 := rfl
 simp at h1
 unfold stH
 omega
def PX (w W : World) (cs : Array Value) : Prop := Below w.heap.size w W /\ W.heap[w.heap.size]? = some (.cells cs 46 (0, 0))
theorem PX.new (w : World) (cs : Array Value) : PX w (w.alloc (.cells cs 46)) cs := ⟨(Below.refl _ _).alloc (Nat.le_refl _) _, heap_alloc_new _ _⟩
theorem PX.below {w W W' : World} {cs : Array Value} (h : PX w W cs) (hb : Below W.heap.size W W') : PX w W' cs := ⟨h.1.trans (hb.mono h.1.size), below_row hb (row_lt h.2) h.2⟩
set_option maxHeartbeats 1000000 in
theorem l4Ids_any (a : Option Addr) (cap : Nat) (ids : List Int) (w : World) (hA : IntsAt w a ids) (hn : ids.length <= 1048576) :
 Calls Tryz.prog 144 #[.slice a ids.length cap] w fun e w' => e = .returned (.bool (idsB ids)) /\ w' = w := by
 have HA : Hid (IntsAt w a ids) := hA
 clear hA
 obtain ⟨n, HN⟩ : ∃ n, Hid (ids.length = n) := ⟨_, rfl⟩
 rw [HN.out] at hn ⊢
 obtain ⟨x, HX⟩ : ∃ x, Hid (idsB ids = x) := ⟨_, rfl⟩
 rw [HX.out]
 go_enter Tryz.func144, Tryz.ntmps144
 go_wp2_with fail
 go_loop [3] (fun t => ∃ k : Nat, k <= n /\ t = .int .i64 k /\ idsTo ids k = true) (fun t => n - (intOf t).toNat)
 case atStart => exact ⟨0, Nat.zero_le _, rfl, idsTo_zero _⟩
 case round =>
  obtain ⟨k, hk, rfl, ht⟩ := hrel
  have HT : Hid (idsTo ids k = true) := ht
  clear ht
  by_cases hlt : k < n
  · have hkl : k < ids.length := by rw [HN.out]; exact hlt
    obtain ⟨b, off, rfl, hc⟩ := HA.out k hkl
    have HS : Hid (idsTo ids (k + 1) = (idsTo ids k && inB (ids.getD k 0) 1 1000000000)) := idsTo_succ ids k hkl
    have HBAD : Hid (inB (ids.getD k 0) 1 1000000000 = false -> idsB ids = false) := idsB_bad hkl
    obtain ⟨v, HV⟩ : ∃ v, Hid (ids.getD k 0 = v) := ⟨_, rfl⟩
    rw [HV.out] at hc HS HBAD
    clear hkl
    have C := l1In_any v 1 1000000000 w
    cases h1 : inB v 1 1000000000
    · rw [h1] at C
      have hx : x = false := by rw [<- HX.out]; exact HBAD.out h1
      subst hx
      clear h1
      go_wp2_with (go_at_call 76; refine C.mono ?_; rintro e w' ⟨rfl, rfl⟩)
      go_ret
      exact ⟨rfl, rfl⟩
    · rw [h1] at C
      have HS2 : Hid (idsTo ids (k + 1) = true) := by show _ = _; rw [HS.out, HT.out, h1]; rfl
      clear h1
      go_wp2_with (go_at_call 76; refine C.mono ?_; rintro e w' ⟨rfl, rfl⟩)
      go_round
      case rel => exact ⟨k + 1, by omega, by go_num, HS2.out⟩
      case measure => simp [intOf]; omega
  · have hkm : k = n := by omega
    have HE : Hid (x = decide ((n : Int) <= 12)) := by
     show _ = _
     rw [<- HX.out]
     unfold idsB
     rw [HN.out, <- hkm, HT.out, Bool.and_true]
     by_cases h : k <= 12
     · rw [decide_eq_true h, decide_eq_true (by omega)]
     · rw [decide_eq_false h, decide_eq_false (by omega)]
    clear hkm
    go_wp2
    go_ret
    exact ⟨by rw [HE.out]; rfl, rfl⟩
set_option maxHeartbeats 2000000 in
theorem l4Form_any (ra la : Option Addr) (rc lc : Nat) (R : List RT) (L : List Int) (w : World) (hR : RoutesAt w ra R) (hL : IntsAt w la L) (hn : R.length <= 1048576) (hl : L.length <= 1048576) (hi : ∀ r ∈ R, r.ids.length <= 1048576) :
 Calls Tryz.prog 103 #[.agg #[.slice ra R.length rc, .slice la L.length lc]] w fun e w' => e = .returned (.bool (formB R L)) /\ Below w.heap.size w w' := by
 have HR : Hid (RoutesAt w ra R) := hR
 have HL : Hid (IntsAt w la L) := hL
 have HI : Hid (∀ r ∈ R, r.ids.length <= 1048576) := hi
 have HLB : Hid (L.length <= 1048576) := hl
 clear hR hL hi
 obtain ⟨n, HN⟩ : ∃ n, Hid (R.length = n) := ⟨_, rfl⟩
 obtain ⟨l, HLL⟩ : ∃ l, Hid (L.length = l) := ⟨_, rfl⟩
 rw [HN.out] at hn ⊢
 rw [HLL.out] at hl ⊢
 obtain ⟨x, HX⟩ : ∃ x, Hid (formB R L = x) := ⟨_, rfl⟩
 rw [HX.out]
 have C0 : Hid (PX w (w.alloc (.cells #[.slice ra n rc, .slice la l lc] 46)) #[.slice ra n rc, .slice la l lc]) := PX.new w _
 obtain ⟨c0, c1⟩ := cells2 C0.out.2
 have CL := l4Ids_any la lc L (w.alloc (.cells #[.slice ra n rc, .slice la l lc] 46)) (HL.out.below C0.out.1) HLB.out
 rw [HLL.out] at CL
 by_cases hm : (5 : Int) < n
 · have hx : x = false := by rw [<- HX.out]; exact formB_many (by rw [HN.out]; omega)
   subst hx
   clear CL
   go_enter Tryz.func103, Tryz.ntmps103
   go_wp2
   go_ret
   exact ⟨rfl, C0.out.1⟩
 cases hl1 : idsB L
 · have hx : x = false := by rw [<- HX.out]; exact formB_left hl1
   subst hx
   rw [hl1] at CL
   clear hl1
   go_enter Tryz.func103, Tryz.ntmps103
   go_wp2_with (go_at_call 144; refine CL.mono ?_; rintro e w' ⟨rfl, rfl⟩)
   go_ret
   exact ⟨rfl, C0.out.1⟩
 have HLI : Hid (idsB L = true) := hl1
 rw [hl1] at CL
 clear hl1
 go_enter Tryz.func103, Tryz.ntmps103
 go_wp2_with (go_at_call 144; refine CL.mono ?_; rintro e w' ⟨rfl, rfl⟩)
 clear c0 c1 CL
 generalize w.alloc (.cells #[.slice ra n rc, .slice la l lc] 46) = W0 at *
 go_loopw [3] (fun t wr => ∃ k : Nat, k <= n /\ t = .int .i64 k /\ rtsTo R k = true /\ PX w wr #[.slice ra n rc, .slice la l lc]) (fun t _ => n - (intOf t).toNat)
 case atStart => exact ⟨0, Nat.zero_le _, rfl, rtsTo_zero _, C0.out⟩
 case round =>
  clear C0
  obtain ⟨k, hk, rfl, ht, hp⟩ := hrel
  have HT : Hid (rtsTo R k = true) := ht
  have CW : Hid (PX w wr #[.slice ra n rc, .slice la l lc]) := hp
  clear ht hp
  obtain ⟨c0, c1⟩ := cells2 CW.out.2
  by_cases hlt : k < n
  · have hkl : k < R.length := by rw [HN.out]; exact hlt
    have hkn : (k : Int) < n := by omega
    obtain ⟨b, off, rfl, r0, r1, hI⟩ := (HR.out.below CW.out.1) k hkl
    have HS : Hid (rtsTo R (k + 1) = (rtsTo R k && (inB (R.getD k rt0).v 1 1000000000 && idsB (R.getD k rt0).ids))) := rtsTo_succ R k hkl
    have HBAD : Hid ((inB (R.getD k rt0).v 1 1000000000 && idsB (R.getD k rt0).ids) = false -> formB R L = false) := formB_bad hkl
    have hil : (R.getD k rt0).ids.length <= 1048576 := HI.out _ (by rw [List.getD_eq_getElem?_getD, List.getElem?_eq_getElem hkl]; simp)
    generalize R.getD k rt0 = r at *
    obtain ⟨rv, rra, rids, rcc⟩ := r
    simp only at r0 r1 hI hil HS HBAD
    clear hkl
    have C1 := l1In_any rv 1 1000000000 wr
    have C2 := l4Ids_any rra rcc rids wr (hI) hil
    have HBW : Hid (Below wr.heap.size wr wr) := Below.refl _ _
    clear hI
    obtain ⟨m, HM⟩ : ∃ m, Hid (rids.length = m) := ⟨_, rfl⟩
    rw [HM.out] at r1 hil C2
    cases h1 : inB rv 1 1000000000
    · rw [h1] at C1
      have hx : x = false := by rw [<- HX.out]; exact HBAD.out (by rw [h1]; rfl)
      subst hx
      clear h1 C2
      go_wp2_with (go_at_call 76; refine C1.mono ?_; rintro e w' ⟨rfl, rfl⟩)
      go_ret
      exact ⟨rfl, (CW.out.below HBW.out).1⟩
    · rw [h1] at C1 HS HBAD
      clear h1
      cases h2 : idsB rids
      · rw [h2] at C2
        have hx : x = false := by rw [<- HX.out]; exact HBAD.out (by rw [h2]; rfl)
        subst hx
        clear h2
        go_wp2_with (first | (go_at_call 76; refine C1.mono ?_; rintro e w' ⟨rfl, rfl⟩) | (go_at_call 144; refine C2.mono ?_; rintro e w' ⟨rfl, rfl⟩))
        go_ret
        exact ⟨rfl, (CW.out.below HBW.out).1⟩
      · rw [h2] at C2
        have HS2 : Hid (rtsTo R (k + 1) = true) := by show _ = _; rw [HS.out, HT.out, h2]; rfl
        clear h2
        go_wp2_with (first | (go_at_call 76; refine C1.mono ?_; rintro e w' ⟨rfl, rfl⟩) | (go_at_call 144; refine C2.mono ?_; rintro e w' ⟨rfl, rfl⟩))
        go_roundw
        case rel => exact ⟨k + 1, by omega, by go_num, HS2.out, CW.out.below HBW.out⟩
        case measure => simp [intOf]; omega
  · have hkm : k = n := by omega
    have hx : x = true := by
     rw [<- HX.out]
     exact formB_is (by rw [HN.out]; omega) HLI.out (by rw [HN.out, <- hkm]; exact HT.out)
    subst hx
    have hnlt : ¬ ((k : Int) < (n : Int)) := by omega
    clear hkm
    go_wp2
    go_ret
    exact ⟨rfl, CW.out.1⟩
set_option maxHeartbeats 1000000 in
theorem idsOk_any (a : Option Addr) (cap : Nat) (ids : List Int) (w : World) (hA : IntsAt w a ids) (hn : ids.length <= 1048576) :
 Calls Tryz.prog 150 #[.slice a ids.length cap] w fun e w' => e = .returned (.bool (idsB ids)) /\ w' = w := by
 have HA : Hid (IntsAt w a ids) := hA
 clear hA
 obtain ⟨n, HN⟩ : ∃ n, Hid (ids.length = n) := ⟨_, rfl⟩
 rw [HN.out] at hn ⊢
 obtain ⟨x, HX⟩ : ∃ x, Hid (idsB ids = x) := ⟨_, rfl⟩
 rw [HX.out]
 by_cases hm : (12 : Int) < n
 · have hx : x = false := by rw [<- HX.out]; unfold idsB; rw [HN.out, decide_eq_false (by omega)]; rfl
   subst hx
   go_enter Tryz.func150, Tryz.ntmps150
   go_wp2
   go_ret
   exact ⟨rfl, rfl⟩
 go_enter Tryz.func150, Tryz.ntmps150
 go_wp2_with fail
 go_loop [10] (fun t => ∃ k : Nat, k <= n /\ t = .int .i64 k /\ idsTo ids k = true) (fun t => n - (intOf t).toNat)
 case atStart => exact ⟨0, Nat.zero_le _, rfl, idsTo_zero _⟩
 case round =>
  obtain ⟨k, hk, rfl, ht⟩ := hrel
  have HT : Hid (idsTo ids k = true) := ht
  clear ht
  by_cases hlt : k < n
  · have hkl : k < ids.length := by rw [HN.out]; exact hlt
    obtain ⟨b, off, rfl, hc⟩ := HA.out k hkl
    have HS : Hid (idsTo ids (k + 1) = (idsTo ids k && inB (ids.getD k 0) 1 1000000000)) := idsTo_succ ids k hkl
    have HBAD : Hid (inB (ids.getD k 0) 1 1000000000 = false -> idsB ids = false) := idsB_bad hkl
    obtain ⟨v, HV⟩ : ∃ v, Hid (ids.getD k 0 = v) := ⟨_, rfl⟩
    rw [HV.out] at hc HS HBAD
    clear hkl
    have C := within_any v 1 1000000000 w
    cases h1 : inB v 1 1000000000
    · rw [h1] at C
      have hx : x = false := by rw [<- HX.out]; exact HBAD.out h1
      subst hx
      clear h1
      go_wp2_with (go_at_call 81; refine C.mono ?_; rintro e w' ⟨rfl, rfl⟩)
      go_ret
      exact ⟨rfl, rfl⟩
    · rw [h1] at C
      have HS2 : Hid (idsTo ids (k + 1) = true) := by show _ = _; rw [HS.out, HT.out, h1]; rfl
      clear h1
      go_wp2_with (go_at_call 81; refine C.mono ?_; rintro e w' ⟨rfl, rfl⟩)
      go_round
      case rel => exact ⟨k + 1, by omega, by go_num, HS2.out⟩
      case measure => simp [intOf]; omega
  · have hkm : k = n := by omega
    have hx : x = true := by
     rw [<- HX.out]
     unfold idsB
     rw [HN.out, <- hkm, HT.out, Bool.and_true, decide_eq_true (by omega)]
    subst hx
    clear hkm
    go_wp2
    go_ret
    exact ⟨rfl, rfl⟩
set_option maxHeartbeats 2000000 in
theorem canBe_any (ra la : Option Addr) (rc lc : Nat) (R : List RT) (L : List Int) (w : World) (hR : RoutesAt w ra R) (hL : IntsAt w la L) (hn : R.length <= 1048576) (hl : L.length <= 1048576) (hi : ∀ r ∈ R, r.ids.length <= 1048576) :
 Calls Tryz.prog 108 #[.agg #[.slice ra R.length rc, .slice la L.length lc]] w fun e w' => e = .returned (.bool (formB R L)) /\ Below w.heap.size w w' := by
 have HR : Hid (RoutesAt w ra R) := hR
 have HL : Hid (IntsAt w la L) := hL
 have HI : Hid (∀ r ∈ R, r.ids.length <= 1048576) := hi
 have HLB : Hid (L.length <= 1048576) := hl
 clear hR hL hi
 obtain ⟨n, HN⟩ : ∃ n, Hid (R.length = n) := ⟨_, rfl⟩
 obtain ⟨l, HLL⟩ : ∃ l, Hid (L.length = l) := ⟨_, rfl⟩
 rw [HN.out] at hn ⊢
 rw [HLL.out] at hl ⊢
 obtain ⟨x, HX⟩ : ∃ x, Hid (formB R L = x) := ⟨_, rfl⟩
 rw [HX.out]
 have C0 : Hid (PX w (w.alloc (.cells #[.slice ra n rc, .slice la l lc] 46)) #[.slice ra n rc, .slice la l lc]) := PX.new w _
 obtain ⟨c0, c1⟩ := cells2 C0.out.2
 have CL := idsOk_any la lc L (w.alloc (.cells #[.slice ra n rc, .slice la l lc] 46)) (HL.out.below C0.out.1) HLB.out
 rw [HLL.out] at CL
 by_cases hm : (5 : Int) < n
 · have hx : x = false := by rw [<- HX.out]; exact formB_many (by rw [HN.out]; omega)
   subst hx
   clear CL
   go_enter Tryz.func108, Tryz.ntmps108
   go_wp2
   go_ret
   exact ⟨rfl, C0.out.1⟩
 cases hl1 : idsB L
 · have hx : x = false := by rw [<- HX.out]; exact formB_left hl1
   subst hx
   rw [hl1] at CL
   clear hl1
   go_enter Tryz.func108, Tryz.ntmps108
   go_wp2_with (go_at_call 150; refine CL.mono ?_; rintro e w' ⟨rfl, rfl⟩)
   go_ret
   exact ⟨rfl, C0.out.1⟩
 have HLI : Hid (idsB L = true) := hl1
 rw [hl1] at CL
 clear hl1
 go_enter Tryz.func108, Tryz.ntmps108
 go_wp2_with (go_at_call 150; refine CL.mono ?_; rintro e w' ⟨rfl, rfl⟩)
 clear c0 c1 CL
 generalize w.alloc (.cells #[.slice ra n rc, .slice la l lc] 46) = W0 at *
 go_loopw [18] (fun t wr => ∃ k : Nat, k <= n /\ t = .int .i64 k /\ rtsTo R k = true /\ PX w wr #[.slice ra n rc, .slice la l lc]) (fun t _ => n - (intOf t).toNat)
 case atStart => exact ⟨0, Nat.zero_le _, rfl, rtsTo_zero _, C0.out⟩
 case round =>
  clear C0
  obtain ⟨k, hk, rfl, ht, hp⟩ := hrel
  have HT : Hid (rtsTo R k = true) := ht
  have CW : Hid (PX w wr #[.slice ra n rc, .slice la l lc]) := hp
  clear ht hp
  obtain ⟨c0, c1⟩ := cells2 CW.out.2
  by_cases hlt : k < n
  · have hkl : k < R.length := by rw [HN.out]; exact hlt
    have hkn : (k : Int) < n := by omega
    obtain ⟨b, off, rfl, r0, r1, hI⟩ := (HR.out.below CW.out.1) k hkl
    have HS : Hid (rtsTo R (k + 1) = (rtsTo R k && (inB (R.getD k rt0).v 1 1000000000 && idsB (R.getD k rt0).ids))) := rtsTo_succ R k hkl
    have HBAD : Hid ((inB (R.getD k rt0).v 1 1000000000 && idsB (R.getD k rt0).ids) = false -> formB R L = false) := formB_bad hkl
    have hil : (R.getD k rt0).ids.length <= 1048576 := HI.out _ (by rw [List.getD_eq_getElem?_getD, List.getElem?_eq_getElem hkl]; simp)
    generalize R.getD k rt0 = r at *
    obtain ⟨rv, rra, rids, rcc⟩ := r
    simp only at r0 r1 hI hil HS HBAD
    clear hkl
    have C1 := within_any rv 1 1000000000 (wr.alloc (.cells #[.int .i64 rv, .slice rra rids.length rcc] 134))
    have C2 := idsOk_any rra rcc rids (wr.alloc (.cells #[.int .i64 rv, .slice rra rids.length rcc] 134)) (hI.below ((Below.refl _ _).alloc (Nat.le_refl _) _)) hil
    have HBW : Hid (Below wr.heap.size wr (wr.alloc (.cells #[.int .i64 rv, .slice rra rids.length rcc] 134))) := (Below.refl _ _).alloc (Nat.le_refl _) _
    clear hI
    obtain ⟨m, HM⟩ : ∃ m, Hid (rids.length = m) := ⟨_, rfl⟩
    rw [HM.out] at r1 hil C2
    rw [HM.out] at C1 HBW
    cases h1 : inB rv 1 1000000000
    · rw [h1] at C1
      have hx : x = false := by rw [<- HX.out]; exact HBAD.out (by rw [h1]; rfl)
      subst hx
      clear h1 C2
      go_wp2_with (go_at_call 81; refine C1.mono ?_; rintro e w' ⟨rfl, rfl⟩)
      go_ret
      exact ⟨rfl, (CW.out.below HBW.out).1⟩
    · rw [h1] at C1 HS HBAD
      clear h1
      cases h2 : idsB rids
      · rw [h2] at C2
        have hx : x = false := by rw [<- HX.out]; exact HBAD.out (by rw [h2]; rfl)
        subst hx
        clear h2
        go_wp2_with (first | (go_at_call 81; refine C1.mono ?_; rintro e w' ⟨rfl, rfl⟩) | (go_at_call 150; refine C2.mono ?_; rintro e w' ⟨rfl, rfl⟩))
        go_ret
        exact ⟨rfl, (CW.out.below HBW.out).1⟩
      · rw [h2] at C2
        have HS2 : Hid (rtsTo R (k + 1) = true) := by show _ = _; rw [HS.out, HT.out, h2]; rfl
        clear h2
        go_wp2_with (first | (go_at_call 81; refine C1.mono ?_; rintro e w' ⟨rfl, rfl⟩) | (go_at_call 150; refine C2.mono ?_; rintro e w' ⟨rfl, rfl⟩))
        go_roundw
        case rel => exact ⟨k + 1, by omega, by go_num, HS2.out, CW.out.below HBW.out⟩
        case measure => simp [intOf]; omega
  · have hkm : k = n := by omega
    have hx : x = true := by
     rw [<- HX.out]
     exact formB_is (by rw [HN.out]; omega) HLI.out (by rw [HN.out, <- hkm]; exact HT.out)
    subst hx
    have hnlt : ¬ ((k : Int) < (n : Int)) := by omega
    clear hkm
    go_wp2
    go_ret
    exact ⟨rfl, CW.out.1⟩
end Go.Proofs.YtehfjfmfpdgibaaGreatDoor
