import Derived.Test.YtmehgihjpefpmaaGreatPack1
import Derived.Test.YtmehgihjpefpmaaGreatPack2
import Derived.Test.YtmehgihjpefpmaaGreatPack3
import Derived.Test.YtmehgihjpefpmaaGreatPack4
import Derived.Test.YtmehgihjpefpmaaGreatPack5
import Derived.Test.YtmehgihjpefpmaaGreatPack6
import Derived.Test.YtmehgihjpefpmaaGreatPack21
import Derived.Test.YtmehgihjpefpmaaGreatPack23
import Derived.Test.YtmehgihjpefpmaaGreatPack25
import Derived.Test.YtmehgihjpefpmaaGreatPack29
import Derived.Test.YtmehgihjpefpmaaGreatPack41
import Derived.Test.YtmehgihjpefpmaaGreatCostsMore
import Derived.Test.YtmehgihjpefpmaaGreatLeaveStart
import Derived.Deep.RegionHeld3
import Derived.Deep.CutRange
namespace Go.Proofs.YtmehgihjpefpmaaGreat
open Go.RowKit
def rlN (R : List RT) (id tv : Int) (at_ : Nat) : List RT := wrL (lvR R id) ⟨tv, none, insL (rtOf (lvR R id) tv).ids at_ id, 0⟩
theorem reloc_two {n : Int} {zs os vs : List Int} {ko kv : Nat} {fine : Int} {R : List RT} {L : List Int} (h : planV n zs os vs ko kv fine R L = 0) {k : Nat} (hk : k < R.length) {id : Int} (hid : id ∈ (R.getD k rt0).ids) (tv : Int) (at_ : Nat) {R2 : List RT} (hk2 : R2.map RT.key = (rlN R id tv at_).map RT.key) :
 (twoL (R.getD k rt0).v tv).all (cmK n zs os vs ko kv R2) = decide (planV n zs os vs ko kv fine (rlN R id tv at_) L = 0) ∧
 (planV n zs os vs ko kv fine (rlN R id tv at_) L = 0 -> ∀ z, ((twoL (R.getD k rt0).v tv).map (cmF n zs os vs ko kv R R2)).sum = costR n zs os vs ko kv (rlN R id tv at_) z (rlN R id tv at_).length - costR n zs os vs ko kv R z R.length) := by
 obtain ⟨hI, hC⟩ := reloc h hk hid at_ ⟨tv, none, insL (rtOf (lvR R id) tv).ids at_ id, 0⟩ rfl
 have hp1 := (lvR_rises (rises_pwL (rts_iff.1 (planV_zero h).2.1).1) id).pw
 have ht : (rtOf (rlN R id tv at_) tv).ids = insL (rtOf (lvR R id) tv).ids at_ id := (rtOf_wr hp1 tv).1 rfl
 have hr := fun v => rtOf_key hk2 v
 change (planV n zs os vs ko kv fine (rlN R id tv at_) L = 0 ↔ codeV true n zs os vs ko kv (R.getD k rt0).v (rtOf (rlN R id tv at_) (R.getD k rt0).v).ids = 0 /\ codeV true n zs os vs ko kv tv (insL (rtOf (lvR R id) tv).ids at_ id) = 0) at hI
 change planV n zs os vs ko kv fine (rlN R id tv at_) L = 0 -> ∀ z, costR n zs os vs ko kv (rlN R id tv at_) z (rlN R id tv at_).length - costR n zs os vs ko kv R z R.length = if (R.getD k rt0).v = tv then rcV n zs os vs ko kv tv (insL (rtOf (lvR R id) tv).ids at_ id) - rcV n zs os vs ko kv tv (rtOf R tv).ids else (rcV n zs os vs ko kv (R.getD k rt0).v (rtOf (rlN R id tv at_) (R.getD k rt0).v).ids - rcV n zs os vs ko kv (R.getD k rt0).v (rtOf R (R.getD k rt0).v).ids) + (rcV n zs os vs ko kv tv (insL (rtOf (lvR R id) tv).ids at_ id) - rcV n zs os vs ko kv tv (rtOf R tv).ids) at hC
 rw [<- ht] at hI hC
 generalize (R.getD k rt0).v = v at *
 by_cases hv : v = tv
 · subst hv
   have e2 : twoL v v = [v] := by unfold twoL; rw [if_pos rfl]
   rw [e2]
   refine ⟨?_, fun h9 z => ?_⟩
   · simp only [List.all_cons, List.all_nil, Bool.and_true]
     unfold cmK
     rw [hr v]
     exact decide_eq_decide.2 ⟨fun h1 => hI.2 ⟨h1, h1⟩, fun h1 => (hI.1 h1).1⟩
   · have := hC h9 z
     rw [if_pos rfl] at this
     rw [this]
     simp [cmF, hr v]
 · have e2 : twoL v tv = [v, tv] := by unfold twoL; rw [if_neg hv]
   rw [e2]
   refine ⟨?_, fun h9 z => ?_⟩
   · simp only [List.all_cons, List.all_nil, Bool.and_true]
     unfold cmK
     rw [hr v, hr tv, <- Bool.decide_and]
     exact decide_eq_decide.2 hI.symm
   · have := hC h9 z
     rw [if_neg hv] at this
     rw [this]
     simp [cmF, hr v, hr tv]
theorem reloc_perm {R : List RT} (hp : R.Pairwise (fun a b => a.v < b.v)) (hne : ∀ r ∈ R, r.ids ≠ []) (hnd : (allTo R R.length).Nodup) {k : Nat} (hk : k < R.length) {id : Int} (hid : id ∈ (R.getD k rt0).ids) (tv : Int) (at_ : Nat) : ((rlN R id tv at_).flatMap RT.ids).Perm (R.flatMap RT.ids) := by
 have hS := rises_pwL hp
 have hlv := lvR_wr hS hk hne hnd hid
 have hym := getD_mem hk
 have hyn := ids_nodup hk hnd
 have hyr := rtOf_of_mem hp hym
 have hp1 := (lvR_rises hS id).pw
 have q1 := wrL_perm (R := lvR R id) (r := ⟨tv, none, insL (rtOf (lvR R id) tv).ids at_ id, 0⟩) hp1
 have q2 := q1.trans (List.Perm.append_left _ ((insL_perm (rtOf (lvR R id) tv).ids at_ id)))
 have q3 : ((rlN R id tv at_).flatMap RT.ids).Perm ((lvR R id).flatMap RT.ids ++ [id]) := by
  refine (List.perm_append_right_iff (rtOf (lvR R id) tv).ids).1 (q2.trans ?_)
  rw [List.append_assoc]
  rfl
 refine q3.trans ?_
 rw [hlv]
 have q4 := wrL_perm (r := ⟨(R.getD k rt0).v, (R.getD k rt0).a, cutP (R.getD k rt0).ids id, (R.getD k rt0).c⟩) hp
 simp only [hyr] at q4
 refine (List.perm_append_right_iff (cutP (R.getD k rt0).ids id)).1 ?_
 rw [List.append_assoc]
 exact (List.Perm.append_left _ (cutP_perm hyn hid).symm).trans q4
theorem rlN_small {n : Int} {zs os vs : List Int} {ko kv : Nat} {fine : Int} {R : List RT} {L : List Int} (h : planV n zs os vs ko kv fine R L = 0) {k : Nat} (hk : k < R.length) {id : Int} (hid : id ∈ (R.getD k rt0).ids) (tv : Int) (at_ : Nat) : ∀ r ∈ rlN R id tv at_, r.ids ≠ [] /\ r.ids.length <= 12 := fun r hr => by
 obtain ⟨_, h2, h3, _⟩ := planV_zero h
 obtain ⟨hp, hok⟩ := rts_iff.1 h2
 have hq := reloc_perm hp (fun r hr => (hok r hr).1) h3.1 hk hid tv at_
 have h12 := (serv_small h).1
 rw [allTo_flat] at h12
 have := flat_one _ r hr
 rw [hq.length_eq] at this
 refine ⟨?_, by omega⟩
 rcases wrL_in.1 hr with ⟨hm, _⟩ | ⟨e, hn⟩
 · exact lvR_ne hm
 · rw [e]; exact hn
theorem rlN_len (R : List RT) (id tv : Int) (at_ : Nat) : (rlN R id tv at_).length <= 2 * R.length + 1 := by
 unfold rlN wrL
 have h1 := List.length_filter_le (fun x : RT => decide (x.v < tv)) (lvR R id)
 have h2 := List.length_filter_le (fun x : RT => decide (tv < x.v)) (lvR R id)
 have h3 := lvR_len R id
 simp only [List.length_append]
 split <;> simp <;> omega
noncomputable def rqB (id tv pl n fine : Int) (zs os vs : List Int) (ko kv : Nat) (R : List RT) (L : List Int) : Bool := decide (planV n zs os vs ko kv fine R L = 0) && (decide (id ∈ allTo R R.length) && (inB pl 0 ((rtOf (lvR R id) tv).ids.length : Int) && decide (planV n zs os vs ko kv fine (rlN R id tv pl.toNat) L = 0)))
noncomputable def rqR (id tv pl n fine : Int) (zs os vs : List Int) (ko kv : Nat) (R : List RT) (L : List Int) : List RT := bif rqB id tv pl n fine zs os vs ko kv R L then rlN R id tv pl.toNat else []
noncomputable def rqL (id tv pl n fine : Int) (zs os vs : List Int) (ko kv : Nat) (R : List RT) (L : List Int) : List Int := bif rqB id tv pl n fine zs os vs ko kv R L then L else []
noncomputable def rqD (id tv pl n fine : Int) (zs os vs : List Int) (ko kv : Nat) (R : List RT) (L : List Int) : Int := bif rqB id tv pl n fine zs os vs ko kv R L then costR n zs os vs ko kv (rlN R id tv pl.toNat) (fine * L.length) (rlN R id tv pl.toNat).length - costR n zs os vs ko kv R (fine * L.length) R.length else 0
theorem rqB_true {id tv pl n fine : Int} {zs os vs : List Int} {ko kv : Nat} {R : List RT} {L : List Int} (h : rqB id tv pl n fine zs os vs ko kv R L = true) : planV n zs os vs ko kv fine R L = 0 /\ id ∈ allTo R R.length /\ inB pl 0 ((rtOf (lvR R id) tv).ids.length : Int) = true /\ planV n zs os vs ko kv fine (rlN R id tv pl.toNat) L = 0 := by
 unfold rqB at h
 simp only [Bool.and_eq_true, decide_eq_true_eq] at h
 exact h
theorem rq_bd (id tv pl n fine : Int) (zs os vs : List Int) (ko kv : Nat) (R : List RT) (L : List Int) : (∀ r ∈ rqR id tv pl n fine zs os vs ko kv R L, r.ids ≠ [] /\ r.ids.length <= 12) /\ (rqR id tv pl n fine zs os vs ko kv R L).length <= 500 /\ (rqL id tv pl n fine zs os vs ko kv R L).length <= 500 := by
 unfold rqR rqL
 cases hB : rqB id tv pl n fine zs os vs ko kv R L
 · simp
 · obtain ⟨h1, _, _, h4⟩ := rqB_true hB
   obtain ⟨_, g2, _, _, g5⟩ := planV_zero h4
   obtain ⟨_, hok⟩ := rts_iff.1 g2
   have hs := plan_small h4
   simp only [cond_true]
   exact ⟨fun r hr => ⟨(hok r hr).1, code12 (hok r hr).2⟩, by omega, by omega⟩
theorem lt_extR : ∀ {a b : List Int}, a.Pairwise (· < ·) -> b.Pairwise (· < ·) -> (∀ x, x ∈ a ↔ x ∈ b) -> a = b
 | [], [], _, _, _ => rfl
 | [], y :: b, _, _, h => absurd ((h y).2 (List.mem_cons_self ..)) (by simp)
 | x :: a, [], _, _, h => absurd ((h x).1 (List.mem_cons_self ..)) (by simp)
 | x :: a, y :: b, ha, hb, h => by
   obtain ⟨ha1, ha2⟩ := List.pairwise_cons.1 ha
   obtain ⟨hb1, hb2⟩ := List.pairwise_cons.1 hb
   have e : x = y := by
    rcases List.mem_cons.1 ((h x).1 (List.mem_cons_self ..)) with e | e
    · exact e
    · rcases List.mem_cons.1 ((h y).2 (List.mem_cons_self ..)) with e2 | e2
      · exact e2.symm
      · have h1 := hb1 x e
        have h2 := ha1 y e2
        omega
   subst e
   have := lt_extR ha2 hb2 (fun z => ⟨fun hz => by
    rcases List.mem_cons.1 ((h z).1 (List.mem_cons_of_mem _ hz)) with e | e
    · have := ha1 z hz
      omega
    · exact e, fun hz => by
    rcases List.mem_cons.1 ((h z).2 (List.mem_cons_of_mem _ hz)) with e | e
    · have := hb1 z hz
      omega
    · exact e⟩)
   rw [this]
theorem srtS_perm {a b : List Int} (ha : a.Nodup) (h : a.Perm b) : srtS a = srtS b :=
 lt_extR (srtS_pair ha) (srtS_pair (h.nodup_iff.1 ha)) (fun x => by rw [srtS_mem, srtS_mem, h.mem_iff])
theorem planC_bd {n fine : Int} {zs os vs : List Int} {ko kv : Nat} {R : List RT} {L : List Int} (h : planV n zs os vs ko kv fine R L = 0) : 0 <= planC n zs os vs ko kv fine R L /\ planC n zs os vs ko kv fine R L <= 20000000 := by
 have hs := plan_small h
 obtain ⟨hc, hr, _⟩ := planV_zero h
 have := costR_bd hc hr (fine * L.length) R.length (Nat.le_refl _)
 unfold planC
 rw [if_pos h]
 omega
def mtR (tv pl id : Int) (r : RT) : Bool := decide (r.v = tv) && (decide (pl < (r.ids.length : Int)) && decide (r.ids.getD pl.toNat 0 = id))
def thB (S : List RT) (tv pl id : Int) : Nat -> Bool
 | 0 => false
 | i + 1 => thB S tv pl id i || mtR tv pl id (S.getD i rt0)
theorem thB_at {S : List RT} {tv pl id : Int} {j : Nat} (h : mtR tv pl id (S.getD j rt0) = true) : ∀ i, j < i -> thB S tv pl id i = true
 | 0, hj => by omega
 | i + 1, hj => by
   unfold thB
   by_cases e : j = i
   · subst e; rw [h, Bool.or_true]
   · rw [thB_at h i (by omega), Bool.true_or]
theorem rq_held {id tv pl n fine : Int} {zs os vs : List Int} {ko kv : Nat} {R : List RT} {L : List Int} (h : rqB id tv pl n fine zs os vs ko kv R L = true) :
 0 <= pl /\ planV n zs os vs ko kv fine R L = 0 /\ planV n zs os vs ko kv fine (rqR id tv pl n fine zs os vs ko kv R L) L = 0 /\ rqL id tv pl n fine zs os vs ko kv R L = L ∧
 planC n zs os vs ko kv fine (rqR id tv pl n fine zs os vs ko kv R L) L = planC n zs os vs ko kv fine R L + rqD id tv pl n fine zs os vs ko kv R L ∧
 servV n zs os vs ko kv fine (rqR id tv pl n fine zs os vs ko kv R L) L = servV n zs os vs ko kv fine R L ∧
 thB (rqR id tv pl n fine zs os vs ko kv R L) tv pl id (rqR id tv pl n fine zs os vs ko kv R L).length = true := by
 obtain ⟨h1, h2, h3, h4⟩ := rqB_true h
 have h3 := inB_true h3
 have e1 : rqR id tv pl n fine zs os vs ko kv R L = rlN R id tv pl.toNat := by unfold rqR; rw [h]; rfl
 have e2 : rqL id tv pl n fine zs os vs ko kv R L = L := by unfold rqL; rw [h]; rfl
 have e3 : rqD id tv pl n fine zs os vs ko kv R L = costR n zs os vs ko kv (rlN R id tv pl.toNat) (fine * L.length) (rlN R id tv pl.toNat).length - costR n zs os vs ko kv R (fine * L.length) R.length := by unfold rqD; rw [h]; rfl
 obtain ⟨_, r1, o1, _⟩ := planV_zero h1
 obtain ⟨_, r2, o2, _⟩ := planV_zero h4
 obtain ⟨hp, hok⟩ := rts_iff.1 r1
 rw [e1, e2]
 refine ⟨h3.1, h1, h4, rfl, ?_, ?_, ?_⟩
 · rw [e3]
   unfold planC
   rw [if_pos h1, if_pos h4]
   omega
 · unfold servV
   rw [if_pos h1, if_pos h4]
   obtain ⟨k, hk, hid⟩ : ∃ k, k < R.length /\ id ∈ (R.getD k rt0).ids := by
    rw [allTo_flat] at h2
    obtain ⟨r, hr, hm⟩ := List.mem_flatMap.1 h2
    obtain ⟨k, hk, e⟩ := List.mem_iff_getElem.1 hr
    exact ⟨k, hk, by rw [List.getD_eq_getElem?_getD, List.getElem?_eq_getElem hk]; simpa [e] using hm⟩
   have hq := reloc_perm hp (fun r hr => (hok r hr).1) o1.1 hk hid tv pl.toNat
   exact srtS_perm o2.1 (by rw [allTo_flat, allTo_flat]; exact hq)
 · have hm : (⟨tv, none, insL (rtOf (lvR R id) tv).ids pl.toNat id, 0⟩ : RT) ∈ rlN R id tv pl.toNat := wrL_in.2 (.inr ⟨rfl, by simp [insL]⟩)
   obtain ⟨k, hk, e⟩ := List.mem_iff_getElem.1 hm
   refine thB_at (j := k) ?_ _ hk
   rw [List.getD_eq_getElem?_getD, List.getElem?_eq_getElem hk]
   simp only [Option.getD_some, e]
   unfold mtR
   have hle : pl.toNat <= (rtOf (lvR R id) tv).ids.length := by omega
   have hl := insL_length id hle
   have ho : (insL (rtOf (lvR R id) tv).ids pl.toNat id).getD pl.toNat 0 = id := by
    unfold insL
    rw [List.getD_eq_getElem?_getD, List.getElem?_append_right (by simp; omega)]
    simp [Nat.min_eq_left hle]
   simp only [ho, hl, decide_true, Bool.true_and, Bool.and_true, decide_eq_true_eq]
   omega
theorem mtR_key {tv pl id : Int} {r s : RT} (h : r.key = s.key) : mtR tv pl id r = mtR tv pl id s := by
 have h1 : r.v = s.v := congrArg Prod.fst h
 have h2 : r.ids = s.ids := congrArg Prod.snd h
 unfold mtR
 rw [h1, h2]
theorem thB_key {S T : List RT} (h : S.map RT.key = T.map RT.key) (tv pl id : Int) : ∀ i, i <= T.length -> thB S tv pl id i = thB T tv pl id i
 | 0, _ => rfl
 | i + 1, hi => by
   have hl : S.length = T.length := by simpa using congrArg List.length h
   have h9 : (S.getD i rt0).key = (T.getD i rt0).key := by
    have := congrArg (fun l => l[i]?) h
    rw [List.getElem?_map, List.getElem?_map, List.getElem?_eq_getElem (show i < S.length by omega), List.getElem?_eq_getElem (show i < T.length by omega)] at this
    rw [List.getD_eq_getElem?_getD, List.getD_eq_getElem?_getD, List.getElem?_eq_getElem (show i < S.length by omega), List.getElem?_eq_getElem (show i < T.length by omega)]
    simpa using this
   unfold thB
   rw [thB_key h tv pl id i (by omega), mtR_key h9]
theorem wrL_pw_of {R S : List RT} (h : S.map RT.key = R.map RT.key) (hp : R.Pairwise (fun a b => a.v < b.v)) : S.Pairwise (fun a b => a.v < b.v) := key_pw h hp
structure MX (w2 W : World) (kx ky : Nat) (xx : Array Value) (tv : Int) (sl : Value) (yl : List Int) : Prop where
 b : Below w2.heap.size w2 W
 x : W.heap[kx]? = some (.cells xx 40 (0, 0))
 y : W.heap[ky]? = some (.cells #[.int .i64 tv, sl] 40 (0, 0))
 o : W.ownsRow w2.heap.size 2 1 sl yl.length (yl.map (Value.int .i64))
 kl : w2.heap.size <= kx /\ w2.heap.size <= ky /\ kx ≠ ky
theorem MX.below {w2 W W' : World} {kx ky : Nat} {xx : Array Value} {tv : Int} {sl : Value} {yl : List Int} (h : MX w2 W kx ky xx tv sl yl) (hb : Below W.heap.size W W') : MX w2 W' kx ky xx tv sl yl :=
 ⟨h.b.trans (hb.mono h.b.size), below_row hb (row_lt h.x) h.x, below_row hb (row_lt h.y) h.y, owns_below h.o hb, h.kl⟩
theorem MX.grow {w2 W W' : World} {kx ky : Nat} {xx : Array Value} {tv : Int} {sl sl' : Value} {yl yl' : List Int} (h : MX w2 W kx ky xx tv sl yl) (hg : W.grownBy W' sl.ownBlock) (ho : W'.ownsRow w2.heap.size 2 1 sl' yl'.length (yl'.map (Value.int .i64))) :
 W'.heap[ky]? = some (.cells #[.int .i64 tv, sl] 40 (0, 0)) /\ W'.heap[kx]? = some (.cells xx 40 (0, 0)) /\ MX w2 (W'.setCell ⟨ky, 1, none⟩ sl') kx ky xx tv sl' yl' := by
 have hy := grown_row hg h.y (fun e => own_typ h.o h.y (by decide) e.symm)
 have hx := grown_row hg h.x (fun e => own_typ h.o h.x (by decide) e.symm)
 have s1 := heap_setCell_same W' ky 1 _ _ sl' hy
 simp only [List.setIfInBounds_toArray, List.set_cons_zero, List.set_cons_succ] at s1
 have hb := h.b.grown hg h.b.size (fun j e => (h.o.lt j e).1)
 exact ⟨hy, hx, hb.setCell h.kl.2.1 _, row_set' hx h.kl.2.2, s1, own_box_ty ho hy, h.kl⟩
def MoveOk (w : World) (ib f : Bool) (T : List RT) (L : List Int) (e : Ending) (w' : World) : Prop := Below w.heap.size w w' /\ ((ib = false /\ e = .returned (.tuple #[.agg #[.slice none 0 0, .slice none 0 0], .bool false])) ∨ (ib = true /\ ∃ ra rn rc gl lc S, e = .returned (.tuple #[.agg #[.slice ra rn rc, .slice (some ⟨gl, 0, none⟩) L.length lc], .bool f]) /\ S.length = rn /\ S.map RT.key = T.map RT.key /\ PO w' w.heap.size (.slice ra rn rc) S (.slice (some ⟨gl, 0, none⟩) L.length lc) L))
theorem only_at {R : List RT} (hnd : (allTo R R.length).Nodup) {j k : Nat} (hj : j < R.length) (hk : k < R.length) (hjk : j ≠ k) {x : Int} (h1 : x ∈ (R.getD j rt0).ids) (h2 : x ∈ (R.getD k rt0).ids) : False := by
 rw [allTo_flat] at hnd
 have hs := at_split hk
 rw [hs, List.flatMap_append, List.flatMap_cons, List.nodup_append] at hnd
 have hgj : R.getD j rt0 = R[j] := by simp [List.getD, hj]
 rcases Nat.lt_or_gt_of_ne hjk with h | h
 · have hm : R.getD j rt0 ∈ R.take k := by rw [hgj]; exact List.mem_take_iff_getElem.2 ⟨j, by omega, rfl⟩
   exact hnd.2.2 x (List.mem_flatMap.2 ⟨_, hm, h1⟩) x (List.mem_append_left _ h2) rfl
 · have hm : R.getD j rt0 ∈ R.drop (k + 1) := by rw [hgj]; exact List.mem_drop_iff_getElem.2 ⟨j - (k + 1), by omega, by simp [show k + 1 + (j - (k + 1)) = j by omega]⟩
   exact (List.nodup_append.1 hnd.2.1).2.2 x h2 x (List.mem_flatMap.2 ⟨_, hm, h1⟩) rfl
set_option maxRecDepth 10000 in
set_option maxHeartbeats 8000000 in
theorem l6Move_any (id tv pl n fine : Int) (a ao av ra : Option Addr) (zl cap ko co kv cv nr rc bl ol ln lc : Nat) (zs os vs L : List Int) (R : List RT) (w : World) (hA : IntsAt w a zs) (hO : IntsAt w ao os) (hV : IntsAt w av vs) (hlz : zs.length = zl) (hlo : os.length = ko * 6) (hlv : vs.length = kv * 5) (hko : ko <= 9223372036854775807) (hkv : kv <= 9223372036854775807) (hP : PlanIs w ra (some ⟨bl, ol, none⟩) nr ln R L) (hpl : planV n zs os vs ko kv fine R L = 0) (k : Nat) (hk : k < R.length) (hid : id ∈ (R.getD k rt0).ids) :
 Calls Tryz.prog 28 #[.agg #[.int .i64 n, .slice a zl cap, .slice ao ko co, .slice av kv cv, .int .i64 fine], .agg #[.slice ra nr rc, .slice (some ⟨bl, ol, none⟩) ln lc], .int .i64 id, .int .i64 tv, .int .i64 pl] w (MoveOk w (inB pl 0 ((rtOf (lvR R id) tv).ids.length : Int)) (decide (planV n zs os vs ko kv fine (rlN R id tv pl.toNat) L = 0)) (rlN R id tv pl.toNat) L) := by
 obtain ⟨hc, hr, ho1, hl1, hn1⟩ := planV_zero hpl
 obtain ⟨hp, hok⟩ := rts_iff.1 hr
 have hps := plan_small hpl
 have HPW : Hid _ := hp
 have HNE : Hid (∀ r ∈ R, r.ids ≠ []) := fun r hr => (hok r hr).1
 have HND : Hid ((allTo R R.length).Nodup) := ho1.1
 have HIV : Hid (LvI (srtS (allTo R R.length)) [] L.length 0 R L) := lv_start hpl rfl (fun i hi => by simp at hi)
 have HPL : Hid _ := hpl
 have HID : Hid _ := hid
 have HA : Hid (IntsAt w a zs) := hA
 have HO : Hid (IntsAt w ao os) := hO
 have HV : Hid (IntsAt w av vs) := hV
 have HLZ : Hid _ := hlz
 have HLO : Hid _ := hlo
 have HLV : Hid _ := hlv
 have HP : Hid (PlanIs w ra (some ⟨bl, ol, none⟩) nr ln R L) := hP
 have HN : Hid _ := hP.1
 have HM : Hid _ := hP.2.1
 have hr12 := hps.1
 have hl12 := hps.2.1
 have hkn : k < nr := by rw [<- HN.out]; exact hk
 have hnr : nr <= 12 := by rw [<- HN.out]; exact hr12
 clear hA hO hV hlz hlo hlv hP hpl hc hr ho1 hl1 hn1 hp hok hps hid
 have Q0 : Hid (GQ w ((((w.alloc (.cells #[.int .i64 n, .slice a zl cap, .slice ao ko co, .slice av kv cv, .int .i64 fine] 30)).alloc (.cells #[.slice ra nr rc, .slice (some ⟨bl, ol, none⟩) ln lc] 33)).alloc (.cells #[.slice none 0 0, .slice none 0 0] 33)).alloc (.cells #[.slice ra nr rc, .slice (some ⟨bl, ol, none⟩) ln lc] 33)) #[.int .i64 n, .slice a zl cap, .slice ao ko co, .slice av kv cv, .int .i64 fine] #[.slice ra nr rc, .slice (some ⟨bl, ol, none⟩) ln lc]) := by
  refine GQ.below (W := ((w.alloc (.cells #[.int .i64 n, .slice a zl cap, .slice ao ko co, .slice av kv cv, .int .i64 fine] 30)).alloc (.cells #[.slice ra nr rc, .slice (some ⟨bl, ol, none⟩) ln lc] 33)).alloc (.cells #[.slice none 0 0, .slice none 0 0] 33)) ?_ ((Below.refl _ _).alloc (Nat.le_refl _) _)
  refine ⟨(((Below.refl _ _).alloc (Nat.le_refl _) _).alloc (by simp) _).alloc (by simp; omega) _, ?_, ?_, ?_⟩
  · exact (heap_alloc_old _ _ (by simp; omega)).trans (heap_alloc2_old _ _ _)
  · exact (heap_alloc_old _ _ (by simp)).trans (heap_alloc2_new _ _ _)
  · have := heap_alloc_new ((w.alloc (.cells #[.int .i64 n, .slice a zl cap, .slice ao ko co, .slice av kv cv, .int .i64 fine] 30)).alloc (.cells #[.slice ra nr rc, .slice (some ⟨bl, ol, none⟩) ln lc] 33)) (.cells #[.slice none 0 0, .slice none 0 0] 33)
    simpa using this
 have N0 : Hid (((((w.alloc (.cells #[.int .i64 n, .slice a zl cap, .slice ao ko co, .slice av kv cv, .int .i64 fine] 30)).alloc (.cells #[.slice ra nr rc, .slice (some ⟨bl, ol, none⟩) ln lc] 33)).alloc (.cells #[.slice none 0 0, .slice none 0 0] 33)).alloc (.cells #[.slice ra nr rc, .slice (some ⟨bl, ol, none⟩) ln lc] 33)).heap[w.heap.size + 3]? = some (.cells #[.slice ra nr rc, .slice (some ⟨bl, ol, none⟩) ln lc] 33 (0, 0))) := by
  have := heap_alloc_new (((w.alloc (.cells #[.int .i64 n, .slice a zl cap, .slice ao ko co, .slice av kv cv, .int .i64 fine] 30)).alloc (.cells #[.slice ra nr rc, .slice (some ⟨bl, ol, none⟩) ln lc] 33)).alloc (.cells #[.slice none 0 0, .slice none 0 0] 33)) (.cells #[.slice ra nr rc, .slice (some ⟨bl, ol, none⟩) ln lc] 33)
  show _ = _
  simpa using this
 have e0 : (((w.alloc (.cells #[.int .i64 n, .slice a zl cap, .slice ao ko co, .slice av kv cv, .int .i64 fine] 30)).alloc (.cells #[.slice ra nr rc, .slice (some ⟨bl, ol, none⟩) ln lc] 33)).alloc (.cells #[.slice none 0 0, .slice none 0 0] 33)).heap.size = w.heap.size + 3 := by simp
 have P0 : Hid ((((w.alloc (.cells #[.int .i64 n, .slice a zl cap, .slice ao ko co, .slice av kv cv, .int .i64 fine] 30)).alloc (.cells #[.slice ra nr rc, .slice (some ⟨bl, ol, none⟩) ln lc] 33)).alloc (.cells #[.slice none 0 0, .slice none 0 0] 33)).heap[w.heap.size + 1]? = some (.cells #[.slice ra nr rc, .slice (some ⟨bl, ol, none⟩) ln lc] 33 (0, 0))) := (heap_alloc_old _ _ (by simp)).trans (heap_alloc2_new _ _ _)
 obtain ⟨p0, p1⟩ := cells2 P0.out
 go_enter Tryz.func28, Tryz.ntmps28
 go_wp2_with fail
 clear p0 p1 P0
 try rw [e0]
 clear e0
 generalize (((w.alloc (.cells #[.int .i64 n, .slice a zl cap, .slice ao ko co, .slice av kv cv, .int .i64 fine] 30)).alloc (.cells #[.slice ra nr rc, .slice (some ⟨bl, ol, none⟩) ln lc] 33)).alloc (.cells #[.slice none 0 0, .slice none 0 0] 33)).alloc (.cells #[.slice ra nr rc, .slice (some ⟨bl, ol, none⟩) ln lc] 33) = W1 at *
 obtain ⟨kb, HKB⟩ := nmd (w.heap.size + 3)
 rw [HKB.out] at N0
 try rw [HKB.out]
 try rw [show w.heap.size + 1 + 1 + 1 = kb from HKB.out]
 go_loopw [13] (fun t wr => ∃ i : Nat, i <= nr /\ t = .int .i64 i /\ GQ w wr #[.int .i64 n, .slice a zl cap, .slice ao ko co, .slice av kv cv, .int .i64 fine] #[.slice ra nr rc, .slice (some ⟨bl, ol, none⟩) ln lc] /\ ((i <= k /\ wr.heap[kb]? = some (.cells #[.slice ra nr rc, .slice (some ⟨bl, ol, none⟩) ln lc] 33 (0, 0))) ∨ (k < i /\ ∃ (ra1 : Option Addr) (n1 rc1 gl1 lc1 : Nat) (R1 : List RT), wr.heap[kb]? = some (.cells #[.slice ra1 n1 rc1, .slice (some ⟨gl1, 0, none⟩) ln lc1] 33 (0, 0)) /\ PO wr (w.heap.size + 4) (.slice ra1 n1 rc1) R1 (.slice (some ⟨gl1, 0, none⟩) ln lc1) L /\ R1.length = n1 /\ R1.map RT.key = (lvR R id).map RT.key))) (fun t _ => nr - (intOf t).toNat)
 case atStart => exact ⟨0, Nat.zero_le _, rfl, Q0.out, .inl ⟨Nat.zero_le _, N0.out⟩⟩
 case round =>
  clear Q0 N0
  obtain ⟨i, hi, rfl, hQ, hN⟩ := hrel
  have Q1 : Hid _ := hQ
  have NN : Hid _ := hN
  clear hQ hN
  obtain ⟨p0, p1⟩ := cells2 Q1.p
  by_cases hlt : i < nr
  · have hltI : (i : Int) < (nr : Int) := by omega
    obtain ⟨b, off, e, r1, r2, r3⟩ := (HP.2.2.1.below Q1.b) i (by rw [HN.out]; exact hlt)
    subst e
    have hsm := HIV.sm _ (getD_mem (show i < R.length by rw [HN.out]; exact hlt))
    have L3 := l3Has_any (R.getD i rt0).a (R.getD i rt0).ids.length (R.getD i rt0).c id (R.getD i rt0).ids wr r3 (Nat.le_refl _) (by omega)
    rw [hasTo_mem] at L3
    by_cases hik : i = k
    · subst hik
      rw [decide_eq_true HID.out] at L3
      have NI : Hid (wr.heap[kb]? = some (.cells #[.slice (some ⟨b, off, none⟩) nr rc, .slice (some ⟨bl, ol, none⟩) ln lc] 33 (0, 0))) := by
       rcases NN.out with ⟨_, h9⟩ | ⟨h9, _⟩
       · exact h9
       · omega
      clear NN
      obtain ⟨br, orr, er, -⟩ := r3 0 (List.length_pos_iff.2 (HNE.out _ (getD_mem hk)))
      have CUT0 : ∀ W, Below wr.heap.size wr W -> _ := fun W hW => l4CutP_any br orr (R.getD i rt0).c (R.getD i rt0).ids id W (by have := r3.below hW; rw [er] at this; exact this) (by omega)
      have SET0 : ∀ W (g cg : Nat), Below wr.heap.size wr W -> IntsAt W (some ⟨g, 0, none⟩) (cutP (R.getD i rt0).ids id) -> Calls Tryz.prog 48 #[.agg #[.slice (some ⟨b, off, none⟩) nr rc, .slice (some ⟨bl, ol, none⟩) ln lc], .agg #[.int .i64 (R.getD i rt0).v, .slice (some ⟨g, 0, none⟩) (cutP (R.getD i rt0).ids id).length cg]] W (NP W (lvR R id) L) := fun W g cg hW hX => setCut_opt (some ⟨b, off, none⟩) nr rc bl ol ln lc g cg (cutP (R.getD i rt0).ids id).length i R L id W HIV.out (by omega) HM.out HN.out (HP.2.2.1.below (Q1.b.trans (hW.mono Q1.b.size))) (HP.2.2.2.1.below (Q1.b.trans (hW.mono Q1.b.size))) hk HID.out rfl hX
      rw [er] at r2 L3
      clear r3 er hsm
      obtain ⟨rt, HRT⟩ := nmd (R.getD i rt0)
      rw [HRT.out] at r1 r2 L3 CUT0 SET0
      obtain ⟨cl, HCL⟩ := nmd ((cutP rt.ids id).length)
      obtain ⟨rl, HRL⟩ := nmd rt.ids.length
      obtain ⟨rv, HRV⟩ := nmd rt.v
      obtain ⟨rcx, HRC⟩ := nmd rt.c
      rw [HRL.out, HRC.out] at r2 L3
      rw [HRV.out] at r1
      rw [HRL.out, HRC.out, HCL.out] at CUT0
      rw [HRV.out, HCL.out] at SET0
      have CUT : Hid _ := CUT0
      have SET : Hid _ := SET0
      clear CUT0 SET0 HRT
      have HCE : Hid (∀ W, Below wr.heap.size wr W -> (fun W => W.cell? ⟨w.heap.size + 1, 0, none⟩ = some (.slice (some ⟨b, off, none⟩) nr rc) /\ W.cell? ⟨w.heap.size + 1, 1, none⟩ = some (.slice (some ⟨bl, ol, none⟩) ln lc) /\ W.cell? ⟨b, off + i * 2, none⟩ = some (.int .i64 rv) /\ W.cell? ⟨b, off + i * 2 + 1, none⟩ = some (.slice (some ⟨br, orr, none⟩) rl rcx)) W) := fun W hW => ⟨keepL p0 hW, keepL p1 hW, keepL r1 hW, keepL r2 hW⟩
      go_upto_region 6 with (go_at_call 27; refine L3.mono ?_; rintro e w' ⟨rfl, hw'⟩; subst w')
      go_wp2_with fail
      refine wp_region_last (S := (fun W => W.cell? ⟨w.heap.size + 1, 0, none⟩ = some (.slice (some ⟨b, off, none⟩) nr rc) /\ W.cell? ⟨w.heap.size + 1, 1, none⟩ = some (.slice (some ⟨bl, ol, none⟩) ln lc) /\ W.cell? ⟨b, off + i * 2, none⟩ = some (.int .i64 rv) /\ W.cell? ⟨b, off + i * 2 + 1, none⟩ = some (.slice (some ⟨br, orr, none⟩) rl rcx))) 17 (by kernel_rfl) ?_ (fun hHeld => ?_)
      · exact HCE.out _ (Below.refl _ _).drew
      have BD : Hid (Below wr.heap.size wr wr.drew) := (Below.refl _ _).drew
      generalize wr.drew = wd at *
      refine tkZ 0 hHeld ?_
      refine tkZ 1 hHeld ?_
      refine tkZ 2 hHeld ?_
      refine tkZ 3 hHeld ?_
      refine tkZ 4 hHeld ?_
      refine tkZ 5 hHeld ?_
      refine tkZ 6 hHeld ?_
      refine tkZ 7 hHeld ?_
      refine tkZ 8 hHeld ?_
      refine tkZ 9 hHeld ?_
      refine tkZ 10 hHeld ?_
      refine tkZ 11 hHeld ?_
      refine tkZ 12 hHeld ?_
      refine tkZ 13 hHeld ?_
      refine wpAnyZ_ready (rs := [14]) (by kernel_rfl) (by simp) ?_
      refine AllReadyZ.cons rfl (fun K hK => ?_) AllReadyZ.nil
      go_simp
      refine (CUT.out wd BD.out).mono ?_
      rintro e w6 ⟨g, cg, rfl, hb, ho⟩
      have B6 : Hid _ := BD.trans (hb.mono BD.size)
      have X6 : Hid (IntsAt w6 (some ⟨g, 0, none⟩) (cutP rt.ids id)) := ints_ownL ho
      clear hb ho
      try rw [HCL.out]
      (try go_wp2_with fail)
      refine hK.out _ _ ?_ (fun hHeld => ?_)
      · exact HCE.out _ B6.out
      clear hK K
      (try simp only [Act.put, List.setIfInBounds_toArray, List.set_cons_zero, List.set_cons_succ])
      refine tkZ 15 hHeld ?_
      refine wpAnyZ_ready (rs := [16]) (by kernel_rfl) (by simp) ?_
      refine AllReadyZ.cons rfl (fun K hK => ?_) AllReadyZ.nil
      go_simp
      refine (SET.out w6 g cg B6.out X6.out).mono ?_
      rintro e w7 ⟨ra7, n7, rc7, g7, lc7, R7, rfl, hb, hn7, hk7, ho7⟩
      rw [HM.out] at ho7 ⊢
      have hb7 := B6.trans (hb.mono B6.size)
      have hx := below_row hb7 (row_lt NI.out) NI.out
      have s1 := heap_setCell_same w7 kb 0 _ _ (Value.slice ra7 n7 rc7) hx
      simp only [List.setIfInBounds_toArray, List.set_cons_zero] at s1
      have s2 := heap_setCell_same _ kb 1 _ _ (Value.slice (some ⟨g7, 0, none⟩) ln lc7) s1
      simp only [List.setIfInBounds_toArray, List.set_cons_zero, List.set_cons_succ] at s2
      have M7 : Hid (∃ (ra1 : Option Addr) (n1 rc1 gl1 lc1 : Nat) (R1 : List RT), ((w7.setCell ⟨kb, 0, none⟩ (.slice ra7 n7 rc7)).setCell ⟨kb, 1, none⟩ (.slice (some ⟨g7, 0, none⟩) ln lc7)).heap[kb]? = some (.cells #[.slice ra1 n1 rc1, .slice (some ⟨gl1, 0, none⟩) ln lc1] 33 (0, 0)) /\ PO ((w7.setCell ⟨kb, 0, none⟩ (.slice ra7 n7 rc7)).setCell ⟨kb, 1, none⟩ (.slice (some ⟨g7, 0, none⟩) ln lc7)) (w.heap.size + 4) (.slice ra1 n1 rc1) R1 (.slice (some ⟨gl1, 0, none⟩) ln lc1) L /\ R1.length = n1 /\ R1.map RT.key = (lvR R id).map RT.key) := ⟨ra7, n7, rc7, g7, lc7, R7, s2, ((ho7.base (by have h1 := row_lt (below_row B6.out (row_lt NI.out) NI.out); have h2 := HKB.out; omega)).box hx).box s1, hn7, hk7⟩
      have Q7 : Hid (GQ w ((w7.setCell ⟨kb, 0, none⟩ (.slice ra7 n7 rc7)).setCell ⟨kb, 1, none⟩ (.slice (some ⟨g7, 0, none⟩) ln lc7)) #[.int .i64 n, .slice a zl cap, .slice ao ko co, .slice av kv cv, .int .i64 fine] #[.slice (some ⟨b, off, none⟩) nr rc, .slice (some ⟨bl, ol, none⟩) ln lc]) := ((Q1.below hb7).set (by have := HKB.out; omega)).set (by have := HKB.out; omega)
      have B7 : Hid _ := hb7
      have F7 := fun i => frozen_of_row _ _ i _ _ hx
      obtain ⟨f0, f1⟩ := cells2 hx
      clear hb hn7 hk7 ho7 hb7 hx s1 s2
      (try go_wp2_with fail)
      refine hK.out _ _ ?_ (fun hHeld => ?_)
      · exact HCE.out _ B7.out
      clear hK K
      (try simp only [Act.put, List.setIfInBounds_toArray, List.set_cons_zero, List.set_cons_succ])
      refine wpAnyZ_ready (rs := [17]) (by kernel_rfl) (by simp) ?_
      refine AllReadyZ.last rfl (fun K hK => ?_)
      go_simp
      refine hK.out _ _ ?_
      clear hK K
      clear F7 f0 f1
      generalize ((w7.setCell ⟨kb, 0, none⟩ (.slice ra7 n7 rc7)).setCell ⟨kb, 1, none⟩ (.slice (some ⟨g7, 0, none⟩) ln lc7)) = w8 at *
      refine wpAnyZ_done (by kernel_rfl) ?_ _
      clear hHeld CUT SET HCE L3 r1 r2
      go_wp2
      go_roundw
      case rel => exact ⟨i + 1, by omega, by first | rfl | go_num, Q7.out, .inr ⟨by omega, M7.out⟩⟩
      case measure => simp [intOf]; omega
    · have hno : id ∉ (R.getD i rt0).ids := fun h9 => only_at HND.out (by rw [HN.out]; exact hlt) hk hik h9 HID.out
      rw [decide_eq_false hno] at L3
      clear hno r3 hsm
      obtain ⟨rt, HRT⟩ := nmd (R.getD i rt0)
      rw [HRT.out] at r1 r2 L3
      clear HRT
      obtain ⟨rl, HRL⟩ := nmd rt.ids.length
      rw [HRL.out] at r2 L3
      go_wp2_with (go_at_call 27; refine L3.mono ?_; rintro e w' ⟨rfl, hw'⟩; subst w')
      go_roundw
      case rel =>
       refine ⟨i + 1, by omega, by first | rfl | go_num, Q1.out, ?_⟩
       rcases NN.out with ⟨h1, h2⟩ | ⟨h1, h2⟩
       · exact .inl ⟨by omega, h2⟩
       · exact .inr ⟨by omega, h2⟩
      case measure => simp [intOf]; omega
  · have hltI : ¬ ((i : Int) < (nr : Int)) := by omega
    obtain ⟨ra1, n1, rc1, gl1, lc1, R1, hx, hpo, hn1, hk1⟩ : ∃ (ra1 : Option Addr) (n1 rc1 gl1 lc1 : Nat) (R1 : List RT), wr.heap[kb]? = some (.cells #[.slice ra1 n1 rc1, .slice (some ⟨gl1, 0, none⟩) ln lc1] 33 (0, 0)) /\ PO wr (w.heap.size + 4) (.slice ra1 n1 rc1) R1 (.slice (some ⟨gl1, 0, none⟩) ln lc1) L /\ R1.length = n1 /\ R1.map RT.key = (lvR R id).map RT.key := by
     rcases NN.out with ⟨h9, _⟩ | ⟨_, h9⟩
     · omega
     · exact h9
    have N1 : Hid _ := hx
    have O1 : Hid _ := hpo
    have HN1 : Hid _ := hn1
    have HK1 : Hid _ := hk1
    clear NN hx hpo hn1 hk1 p0 p1
    obtain ⟨p0, p1⟩ := cells2 N1.out
    have LR := l4Route_any ra1 (some ⟨gl1, 0, none⟩) rc1 ln lc1 R1 tv wr (po_at O1.out HN1.out) (by have h1 := congrArg List.length HK1.out; have h2 := lvR_len R id; simp only [List.length_map] at h1; omega)
    rw [HN1.out] at LR
    have HKX : Hid _ := rtOf_key HK1.out tv
    have HIN1 : Hid (RtsIn R1) := fun r hr => by
     have h1 := key_in HK1.out (b := 12) (fun r hr => ⟨lvR_ne hr, lvR_small HIV.sm r hr⟩) r hr
     exact ⟨h1.1, h1.2, (O1.ints r hr).2⟩
    obtain ⟨hxi, hx12, hxc, hxf⟩ := rtOf_at (po_at O1.out HN1.out) HIN1.out tv
    have HXI : Hid (IntsAt wr (rtOf R1 tv).a (rtOf R1 tv).ids) := hxi
    have HRN : Hid (rlN R id tv pl.toNat = wrL (lvR R id) ⟨tv, none, insL (rtOf R1 tv).ids pl.toNat id, 0⟩) := by show _ = _; unfold rlN; rw [HKX.out]
    rw [<- HKX.out]
    have HXL0 : Hid ((rtOf R1 tv).ids = (rtOf R1 tv).ids) := rfl
    obtain ⟨X, HX⟩ := nmd ((rtOf R1 tv).ids)
    obtain ⟨xa, HXA⟩ := nmd ((rtOf R1 tv).a)
    obtain ⟨xc, HXC⟩ := nmd ((rtOf R1 tv).c)
    obtain ⟨xl, HXL⟩ := nmd X.length
    rw [HX.out, HXA.out] at HXI hxf
    rw [HX.out] at hx12 hxc HRN LR ⊢
    rw [HXA.out, HXC.out, HXL.out] at LR
    rw [HXC.out] at hxc
    rw [HXL.out] at hx12 hxc hxf ⊢
    have HXE : Hid _ := HKX.symm.trans HX.out
    clear hxi HXL0 HX HXA HXC HKX
    obtain ⟨ib, HIB⟩ := nmd (inB pl 0 (xl : Int))
    rw [HIB.out]
    obtain ⟨q0, q1⟩ := cells2 Q1.p
    go_wp2_with fail
    refine LR.mono ?_
    rintro e w2 ⟨rfl, hb⟩
    have Q2 : Hid _ := Q1.below hb
    have N2 : Hid _ := below_row hb (row_lt N1.out) N1.out
    have O2 : Hid _ := O1.below hb
    have X2 : Hid (IntsAt w2 xa X) := HXI.below hb
    clear hb LR Q1 N1 O1 HXI p0 p1 q0 q1
    have hAX : Below w2.heap.size w2 (w2.alloc (.cells #[.int .i64 tv, .slice xa xl xc] 40)) := (Below.refl _ _).alloc (Nat.le_refl _) _
    have BX3 : Hid _ := hAX
    have XR3 : Hid ((w2.alloc (.cells #[.int .i64 tv, .slice xa xl xc] 40)).heap[w2.heap.size]? = some (.cells #[.int .i64 tv, .slice xa xl xc] 40 (0, 0))) := heap_alloc_new _ _
    clear hAX
    obtain ⟨x0, x1⟩ := cells2 XR3.out
    cases ib
    · have Q3 : Hid _ := Q2.below BX3.out
      obtain ⟨a0, a1⟩ := cells2 Q3.o
      have af := fun i => frozen_of_row _ _ i _ _ Q3.o
      have BE : Hid (Below w.heap.size w (((w2.alloc (.cells #[.int .i64 tv, .slice xa xl xc] 40)).setCell ⟨w.heap.size + 2, 0, none⟩ (.slice none 0 0)).setCell ⟨w.heap.size + 2, 1, none⟩ (.slice none 0 0))) := (Q3.b.setCell (by simp) _).setCell (by simp) _
      go_wp2_with (go_at_call 39; refine (l1In_any _ _ _ _).mono ?_; rintro e w' ⟨rfl, hw'⟩; subst w'; rw [HIB.out])
      refine bodyPost_ret (v := .tuple #[.agg #[.slice none 0 0, .slice none 0 0], .bool false]) (by simp [results, Tryz.results28, go_sem, a0, a1]) rfl ?_
      exact ⟨BE.out, .inl ⟨by rw [HXE.out, HXL.out]; exact HIB.out, rfl⟩⟩
    · have h1 := inB_true HIB.out
      obtain ⟨j, rfl⟩ : ∃ j : Nat, pl = j := ⟨pl.toNat, by omega⟩
      simp only [Int.toNat_natCast] at HRN ⊢
      have hj : j <= xl := by omega
      obtain ⟨kx, HKXE⟩ := nmd w2.heap.size
      go_upto_region 10 with (go_at_call 39; refine (l1In_any _ _ _ _).mono ?_; rintro e w' ⟨rfl, hw'⟩; subst w'; rw [HIB.out])
      obtain ⟨HXF, -⟩ : Hid ((xa = none /\ xl = 0) ∨ ∃ b off, xa = some ⟨b, off, none⟩) /\ True := ⟨hxf, trivial⟩
      clear hxf x0 x1 h1
      have HTL : Hid ((X.take j).length = j) := by show _ = _; rw [List.length_take, HXL.out]; omega
      have B4 : Hid (Below w2.heap.size w2 ((w2.alloc (.cells #[.int .i64 tv, .slice xa xl xc] 40)).alloc (.cells #[] 2))) := BX3.alloc BX3.size _
      have XR4 : Hid (((w2.alloc (.cells #[.int .i64 tv, .slice xa xl xc] 40)).alloc (.cells #[] 2)).heap[w2.heap.size]? = some (.cells #[.int .i64 tv, .slice xa xl xc] 40 (0, 0))) := (heap_alloc_old _ _ (by simp)).trans XR3.out
      have OE : Hid (((w2.alloc (.cells #[.int .i64 tv, .slice xa xl xc] 40)).alloc (.cells #[] 2)).ownsRow w2.heap.size 2 1 (.slice (some ⟨w2.heap.size + 1, 0, none⟩) 0 0) 0 (([] : List Int).map (Value.int .i64))) := by
       have := World.ownsRow_made (w2.alloc (.cells #[.int .i64 tv, .slice xa xl xc] 40)) #[] 0 (base := w2.heap.size) (e := 2) (size := 1) (by simp) (by unfold maxLen; omega) (by simp)
       show World.ownsRow _ _ _ _ _ _ _
       simpa using this
      obtain ⟨x0, x1⟩ := cells2 XR4.out
      have hc0 : (0 : Int) <= (j : Int) := by omega
      have hc1 : (j : Int) <= (xc : Int) := by omega
      have hc2 : (j : Int) <= (xl : Int) := by omega
      go_cut [15] from 59 to 67 (fun s15 wx => ∃ (ky gy cy : Nat), s15 = .pointer (some ⟨ky, 0, none⟩) /\ MX w2 wx w2.heap.size ky #[.int .i64 tv, .slice xa xl xc] tv (.slice (some ⟨gy, 0, none⟩) j cy) (X.take j))
      case first =>
       have mk : ∀ (W : World) (gy cy : Nat), Below w2.heap.size w2 W -> W.heap[w2.heap.size]? = some (.cells #[.int .i64 tv, .slice xa xl xc] 40 (0, 0)) -> W.ownsRow w2.heap.size 2 1 (.slice (some ⟨gy, 0, none⟩) j cy) j ((X.take j).map (Value.int .i64)) -> MX w2 (W.alloc (.cells #[.int .i64 tv, .slice (some ⟨gy, 0, none⟩) j cy] 40)) w2.heap.size W.heap.size #[.int .i64 tv, .slice xa xl xc] tv (.slice (some ⟨gy, 0, none⟩) j cy) (X.take j) := fun W gy cy hb hx ho => by
        have hA : Below W.heap.size W (W.alloc (.cells #[.int .i64 tv, .slice (some ⟨gy, 0, none⟩) j cy] 40)) := (Below.refl _ _).alloc (Nat.le_refl _) _
        exact ⟨hb.trans (hA.mono hb.size), below_row hA (row_lt hx) hx, heap_alloc_new _ _, by rw [HTL.out]; exact ho.alloc _, Nat.le_refl _, hb.size, by have := row_lt hx; omega⟩
       have MK : Hid _ := mk
       clear mk
       rcases HXF.out with ⟨e1, e2⟩ | ⟨bx, ox, e1⟩
       · subst e1 e2
         have hj0 : j = 0 := by omega
         subst hj0
         go_wp2_with (at_builtin
                      refine append_no1 _ rfl (.tmp 61) (.tmp 65) rfl (w2.heap.size + 1) 0 0 xc rfl rfl (Nat.le_refl _) ?_)
         go_meet
         have h9 := MK.out _ _ _ B4.out XR4.out (by rw [List.take_zero]; exact OE.out)
         rw [show ((w2.alloc (.cells #[.int .i64 tv, .slice none 0 xc] 40)).alloc (.cells #[] 2)).heap.size = w2.heap.size + 1 + 1 by simp] at h9
         exact ⟨_, _, _, rfl, h9⟩
       · subst e1
         go_wp2_with (at_builtin
                      go_must (refine append_many _ rfl (.tmp 61) (.tmp 65) rfl w2.heap.size _ 0 [] rfl OE.out bx ox j xc (X.take j) rfl HTL.out (ints_take (X2.below B4.out) j) (by omega) (by omega) B4.size ?_)
                      go_loud (
                       intro lv w5 hown hg hbk hnl
                       have hge : ∀ q, (Value.slice (some ⟨w2.heap.size + 1, 0, none⟩) 0 0).ownBlock = some q -> w2.heap.size + 1 <= q := fun q e => by have := own_at e; omega
                       have B5 : Hid _ := B4.grown hg B4.size (fun q e => by have := hge q e; omega)
                       have XR5 : Hid _ := grown_row hg XR4.out (fun e => by have := hge _ e.symm; omega)
                       obtain ⟨gy, cy, e⟩ := own_sm hown (not_nil hnl ⟨_, _, _, rfl⟩)
                       rw [Nat.zero_add] at e
                       subst e
                       have O5 : Hid (w5.ownsRow w2.heap.size 2 1 (.slice (some ⟨gy, 0, none⟩) j cy) j ((X.take j).map (Value.int .i64))) := by rw [Nat.zero_add, List.nil_append] at hown; exact hown)
                      clear hown hg hbk hnl hge)
         go_meet
         exact ⟨_, _, _, rfl, MK.out _ _ _ B5.out XR5.out O5.out⟩
      case rest =>
       obtain ⟨ky, gy, cy, rfl, hM⟩ := hcut
       have M5 : Hid _ := hM
       clear hM XR3 BX3 B4 XR4 OE x0 x1
       have HTK := HTL.out
       obtain ⟨y0, y1⟩ := cells2 M5.y
       have hyf := fun i => frozen_of_row _ _ i _ _ M5.y
       have hk1 : (wc.alloc (Obj.cells #[Value.int .i64 id] 2)).heap[wc.heap.size]? = some (.cells #[Value.int .i64 id] 2 (0, 0)) := heap_alloc_new _ _
       have MA : Hid (MX w2 (wc.alloc (Obj.cells #[Value.int .i64 id] 2)) w2.heap.size ky #[.int .i64 tv, .slice xa xl xc] tv (.slice (some ⟨gy, 0, none⟩) j cy) (X.take j)) := M5.below ((Below.refl _ _).alloc (Nat.le_refl _) _)
       go_wp2_with (first
        | (at_builtin
           go_must (refine append_id _ rfl _ _ rfl w2.heap.size (.slice (some ⟨gy, 0, none⟩) j cy) j (X.take j) rfl (own_k MA.o HTL.out) wc.heap.size 1 id rfl (cell_of_row _ _ 0 _ _ _ hk1) (by omega) MA.b.size ?_)
           go_loud (
            intro v' w6 ho hg hn
            obtain ⟨g1, cg1, rfl⟩ : ∃ g cg, v' = .slice (some ⟨g, 0, none⟩) (j + 1) cg := own_sh ho (fun e => by simpa using (hn.1 e).1) rfl
            obtain ⟨y6, -, hM6⟩ := MA.grow hg (own_len2 ho HTL.out rfl)
            have M6 : Hid _ := hM6
            obtain ⟨z0, z1⟩ := cells2 y6
            have zf := fun i => frozen_of_row _ _ i _ _ y6)
           clear ho hg hn hM6))
       clear z0 z1 zf y6 y0 y1 hyf hk1 MA M5
       generalize w6.setCell ⟨ky, 1, none⟩ (.slice (some ⟨g1, 0, none⟩) (j + 1) cg1) = W6 at *
       have HT1 : Hid ((X.take j ++ [id]).length = j + 1) := by show _ = _; rw [List.length_append, HTL.out]; rfl
       have HDL : Hid ((X.drop j).length = xl - j) := by show _ = _; rw [List.length_drop, HXL.out]
       go_upto_region 12 with fail
       go_cut [15] from 74 to 81 (fun s15 wx => s15 = .pointer (some ⟨ky, 0, none⟩) /\ ∃ (g2 cg2 : Nat), MX w2 wx w2.heap.size ky #[.int .i64 tv, .slice xa xl xc] tv (.slice (some ⟨g2, 0, none⟩) (xl + 1) cg2) (insL X j id))
       case first =>
        rcases HXF.out with ⟨e1, e2⟩ | ⟨bx, ox, e1⟩
        · subst e1 e2
          have hj0 : j = 0 := by omega
          have hX0 : X = [] := List.eq_nil_of_length_eq_zero HXL.out
          subst hj0 hX0
          go_wp2_with fail
          refine wp_region_last (S := (fun W => W.cell? ⟨ky, 1, none⟩ = some (.slice (some ⟨g1, 0, none⟩) (0 + 1) cg1) /\ W.cell? ⟨w2.heap.size, 1, none⟩ = some (.slice none 0 xc))) 8 (by kernel_rfl) ?_ (fun hHeld => ?_)
          · exact ⟨(cells2 (M6.below (Below.refl _ _).drew).y).2, (cells2 (M6.below (Below.refl _ _).drew).x).2⟩
          have MD : Hid (MX w2 W6.drew w2.heap.size ky #[.int .i64 tv, .slice none 0 xc] tv (.slice (some ⟨g1, 0, none⟩) (0 + 1) cg1) ([] ++ [id])) := M6.below (Below.refl _ _).drew
          have hcap : 0 + 1 <= cg1 := own_capg (k := 0 + 1) MD.o
          clear M6
          generalize W6.drew = wd12 at *
          refine tkZ 0 hHeld ?_
          refine tkZ 1 hHeld ?_
          refine tkZ 2 hHeld ?_
          refine tkZ 3 hHeld ?_
          refine tkZ 4 hHeld ?_
          refine tkZ 5 hHeld ?_
          refine wpAnyZ_ready (rs := [6]) (by kernel_rfl) (by simp) ?_
          refine AllReadyZ.cons rfl (fun K hK => ?_) AllReadyZ.nil
          refine step_append_no0 (w := wd12) rfl (.tmp 75) (.tmp 79) rfl g1 (0 + 1) cg1 xc rfl rfl hcap ?_
          rintro w9 rfl
          have M9 : Hid (MX w2 (w9.setCell ⟨ky, 1, none⟩ (.slice (some ⟨g1, 0, none⟩) (0 + 1) cg1)) w2.heap.size ky #[.int .i64 tv, .slice none 0 xc] tv (.slice (some ⟨g1, 0, none⟩) (0 + 1) cg1) (insL [] 0 id)) := (MD.grow (grown_refl _ _) MD.o).2.2
          obtain ⟨z0, z1⟩ := cells2 MD.y
          have zf := fun i => frozen_of_row _ _ i _ _ MD.y
          refine hK.out _ _ ?_ (fun hHeld => ?_)
          · exact ⟨(cells2 MD.y).2, (cells2 MD.x).2⟩
          clear hK K
          change wpAnyZ _ _ _ _ _ _ _ _ (Act.put _ (some 80) _) _
          simp only [Act.put, List.setIfInBounds_toArray, List.set_cons_zero, List.set_cons_succ]
          refine tkZ 7 hHeld ?_
          refine wpAnyZ_ready (rs := [8]) (by kernel_rfl) (by simp) ?_
          refine AllReadyZ.last rfl (fun K hK => ?_)
          go_simp
          refine hK.out _ _ ?_
          clear hK K
          refine wpAnyZ_done (by kernel_rfl) ?_ _
          clear hHeld
          (try go_wp2_with fail)
          go_meet
          exact ⟨rfl, _, _, M9.out⟩
        · subst e1
          go_wp2_with fail
          refine wp_region_last (S := (fun W => W.cell? ⟨ky, 1, none⟩ = some (.slice (some ⟨g1, 0, none⟩) (j + 1) cg1) /\ W.cell? ⟨w2.heap.size, 1, none⟩ = some (.slice (some ⟨bx, ox, none⟩) xl xc))) 8 (by kernel_rfl) ?_ (fun hHeld => ?_)
          · exact ⟨(cells2 (M6.below (Below.refl _ _).drew).y).2, (cells2 (M6.below (Below.refl _ _).drew).x).2⟩
          have MD : Hid _ := M6.below (Below.refl _ _).drew
          clear M6
          generalize W6.drew = wd12 at *
          refine tkZ 0 hHeld ?_
          refine tkZ 1 hHeld ?_
          refine tkZ 2 hHeld ?_
          refine tkZ 3 hHeld ?_
          refine tkZ 4 hHeld ?_
          refine tkZ 5 hHeld ?_
          refine wpAnyZ_ready (rs := [6]) (by kernel_rfl) (by simp) ?_
          refine AllReadyZ.cons rfl (fun K hK => ?_) AllReadyZ.nil
          refine step_append_at rfl (.tmp 75) (.tmp 79) rfl w2.heap.size (.slice (some ⟨g1, 0, none⟩) (j + 1) cg1) (X.take j ++ [id]) (j + 1) rfl (own_k MD.o HT1.out) _ _ _ (X.drop j) rfl (cut_some _ _ _ _) (by have := HDL.out; omega) (ints_cut (X2.below MD.b) _ _ (by rw [HXL.out]; omega)) (by omega) (by omega) MD.b.size ?_
          intro v' w9 ho hg hn
          generalize (if xc = j then some (⟨bx, ox, none⟩ : Addr) else some ⟨bx, ox + j, none⟩) = adx at *
          obtain ⟨g2, cg2, rfl⟩ : ∃ g cg, v' = .slice (some ⟨g, 0, none⟩) (xl + 1) cg := own_sh ho (fun e => by simpa using (hn.1 e).1) (by omega)
          have ho2 := own_len2 ho HT1.out (by have := HDL.out; omega)
          have hin : X.take j ++ [id] ++ X.drop j = insL X j id := by simp [insL]
          rw [hin] at ho2
          obtain ⟨y9, x9, hM9⟩ := MD.grow hg ho2
          have M9 : Hid _ := hM9
          have kS9 := And.intro (cells2 y9).2 (cells2 x9).2
          obtain ⟨z0, z1⟩ := cells2 y9
          have zf := fun i => frozen_of_row _ _ i _ _ y9
          clear ho hg hn ho2 hin hM9 x9
          refine hK.out _ _ ?_ (fun hHeld => ?_)
          · exact kS9
          clear hK K
          change wpAnyZ _ _ _ _ _ _ _ _ (Act.put _ (some 80) _) _
          simp only [Act.put, List.setIfInBounds_toArray, List.set_cons_zero, List.set_cons_succ]
          refine tkZ 7 hHeld ?_
          refine wpAnyZ_ready (rs := [8]) (by kernel_rfl) (by simp) ?_
          refine AllReadyZ.last rfl (fun K hK => ?_)
          go_simp
          refine hK.out _ _ ?_
          clear hK K
          refine wpAnyZ_done (by kernel_rfl) ?_ _
          clear hHeld
          (try go_wp2_with fail)
          go_meet
          exact ⟨rfl, _, _, M9.out⟩
       case rest =>
        obtain ⟨rfl, g2, cg2, hM⟩ := hcut
        have M8 : Hid _ := hM
        clear hM M6
        have HIL : Hid ((insL X j id).length = xl + 1) := by show _ = _; rw [insL_length id (by rw [HXL.out]; exact hj), HXL.out]
        have HIN0 : Hid (insL X j id ≠ []) := by show _ ≠ _; unfold insL; simp
        have Q8 : Hid _ := Q2.below M8.b
        have N8 : Hid _ := below_row M8.b (row_lt N2.out) N2.out
        have O8 : Hid _ := O2.below M8.b
        have Y8 : Hid (IntsAt wc (some ⟨g2, 0, none⟩) (insL X j id)) := ints_ownL (by have h9 := M8.o; rw [HIL.out] at h9; exact h9)
        have hR1n : R1.length <= 12 := by have h1 := congrArg List.length HK1.out; have h2 := lvR_len R id; simp only [List.length_map] at h1; omega
        have ST := l4Set_any ra1 gl1 0 rc1 lc1 g2 0 cg2 R1 L tv (insL X j id) wc (po_at O8.out HN1.out) (po_l O8.out HM.out) Y8.out (by omega) (fun r hr => ⟨(HIN1.out r hr).1, by have := (HIN1.out r hr).2.1; omega⟩) (by omega) ⟨HIN0.out, by have := HIL.out; omega⟩
        rw [HN1.out, HM.out, HIL.out] at ST
        obtain ⟨n0, n1'⟩ := cells2 N8.out
        obtain ⟨y0, y1⟩ := cells2 M8.y
        go_wp2_with fail
        refine ST.mono ?_
        rintro e w13 ⟨ra3, rc3, gl3, lc3, S3, rfl, hb, hk3, ho3⟩
        rw [HM.out] at ho3 ⊢
        obtain ⟨n3, HN3⟩ := nmd S3.length
        rw [HN3.out] at ho3 ⊢
        have HK3 : Hid (S3.map RT.key = (rlN R id tv j).map RT.key) := by
         show _ = _
         rw [hk3, setL_wrL (rises_pwL (wrL_pw_of HK1.out (lvR_rises (rises_pwL HPW.out) id).pw)) HIN0.out, HRN.out]
         exact wrL_key HK1.out rfl
        obtain ⟨pv, HPV⟩ := nmd (planV n zs os vs ko kv fine (rlN R id tv j) L)
        obtain ⟨pd, HPD⟩ := nmd (decide (pv = 0))
        have hpd : (pv == 0) = pd := HPD.out
        have HPC : Hid (∀ W, Below w.heap.size w W -> PO W (w.heap.size + 3) (.slice ra3 n3 rc3) S3 (.slice (some ⟨gl3, 0, none⟩) ln lc3) L -> Calls Tryz.prog 26 #[.agg #[.int .i64 n, .slice a zl cap, .slice ao ko co, .slice av kv cv, .int .i64 fine], .agg #[.slice ra3 n3 rc3, .slice (some ⟨gl3, 0, none⟩) ln lc3]] W fun e w' => e = .returned (.int .i64 pv) /\ Below W.heap.size W w') := fun W hW hO => by
         have hq := reloc_perm HPW.out HNE.out HND.out hk HID.out tv j
         have h12 := (serv_small HPL.out).1
         have hsm := key_in HK3.out (rlN_small HPL.out hk HID.out tv j)
         have hn3 : S3.length <= 25 := by have h1 := congrArg List.length HK3.out; have h2 := rlN_len R id tv j; simp only [List.length_map] at h1; omega
         have PC := specPlan_any n fine a ao av ra3 (some ⟨gl3, 0, none⟩) cap ko co kv cv rc3 lc3 zs os vs L S3 W (HA.below hW) (HO.below hW) (HV.below hW) (po_at hO HN3.out) (po_l hO HM.out) HLO.out HLV.out hko hkv (by omega) (fun r hr => by have := (hsm r hr).2; omega) (fun r hr => (hO.ints r hr).2) (by omega) (by rw [allTo_flat, key_flat HK3.out, hq.length_eq, <- allTo_flat]; omega)
         rw [HN3.out, HM.out, HLZ.out, planV_key L HK3.out, HPV.out] at PC
         exact PC
        have hA : Below w13.heap.size w13 (w13.alloc (.cells #[.slice ra3 n3 rc3, .slice (some ⟨gl3, 0, none⟩) ln lc3] 33)) := (Below.refl _ _).alloc (Nat.le_refl _) _
        have Q14 : Hid _ := (Q8.below hb).below hA
        have B14 : Hid ((w13.alloc (.cells #[.slice ra3 n3 rc3, .slice (some ⟨gl3, 0, none⟩) ln lc3] 33)).heap[w13.heap.size]? = some (.cells #[.slice ra3 n3 rc3, .slice (some ⟨gl3, 0, none⟩) ln lc3] 33 (0, 0))) := heap_alloc_new _ _
        have O14 : Hid _ := (ho3.base (by have := Q8.size; omega)).below hA
        have HKO : Hid _ := (Q8.below hb).size
        clear hA hb hk3 ho3 ST n0 n1' y0 y1 Q8 N8 O8 Y8 M8 Q2 N2 O2 X2
        go_wp2_with fail
        generalize w13.alloc (.cells #[.slice ra3 n3 rc3, .slice (some ⟨gl3, 0, none⟩) ln lc3] 33) = W14 at *
        obtain ⟨kq, HKQ⟩ := nmd w13.heap.size
        rw [HKQ.out] at B14 HKO ⊢
        refine wp_region_held_drew (S := (fun W => (W.cell? ⟨w.heap.size, 0, none⟩ = some (.int .i64 n) /\ W.cell? ⟨w.heap.size, 1, none⟩ = some (.slice a zl cap) /\ W.cell? ⟨w.heap.size, 2, none⟩ = some (.slice ao ko co) /\ W.cell? ⟨w.heap.size, 3, none⟩ = some (.slice av kv cv) /\ W.cell? ⟨w.heap.size, 4, none⟩ = some (.int .i64 fine)) /\ W.cell? ⟨kq, 0, none⟩ = some (.slice ra3 n3 rc3) /\ W.cell? ⟨kq, 1, none⟩ = some (.slice (some ⟨gl3, 0, none⟩) ln lc3))) (by kernel_rfl) ?_ (fun hHeld => ?_)
        · exact ⟨cells5 (Q14.below (Below.refl _ _).drew).c, cells2 (below_row (Below.refl _ _).drew (row_lt B14.out) B14.out)⟩
        have QD : Hid _ := Q14.below (Below.refl _ _).drew
        have BD14 : Hid _ := below_row (Below.refl _ _).drew (row_lt B14.out) B14.out
        have OD : Hid _ := O14.below (Below.refl _ _).drew
        clear Q14 B14 O14
        generalize W14.drew = wd14 at *
        refine tkH 0 hHeld ?_
        refine tkH 1 hHeld ?_
        refine tkH 2 hHeld ?_
        refine wpAnyH_ready (rs := [3]) (by kernel_rfl) (by simp) ?_
        refine AllReadyH.cons rfl (fun K hK => ?_) AllReadyH.nil
        go_simp
        refine (HPC.out wd14 QD.b OD.out).mono ?_
        rintro e w15 ⟨rfl, hb⟩
        have Q15 : Hid _ := QD.below hb
        have B15 : Hid _ := below_row hb (row_lt BD14.out) BD14.out
        have O15 : Hid _ := OD.below hb
        clear hb
        (try go_wp2_with fail)
        refine hK.out _ _ ?_ (fun hHeld => ?_)
        · exact ⟨cells5 Q15.c, cells2 B15.out⟩
        clear hK K
        (try simp only [Act.put, List.setIfInBounds_toArray, List.set_cons_zero, List.set_cons_succ])
        refine tkH 4 hHeld ?_
        refine wpAnyH_ready (rs := [5]) (by kernel_rfl) (by simp) ?_
        refine AllReadyH.cons rfl (fun K hK => ?_) AllReadyH.nil
        obtain ⟨a0, a1⟩ := cells2 Q15.o
        have af := fun i => frozen_of_row _ _ i _ _ Q15.o
        have s1 := heap_setCell_same w15 (w.heap.size + 2) 0 _ _ (Value.slice ra3 n3 rc3) Q15.o
        have P16 : Hid (PO ((w15.setCell ⟨w.heap.size + 2, 0, none⟩ (.slice ra3 n3 rc3)).setCell ⟨w.heap.size + 2, 1, none⟩ (.slice (some ⟨gl3, 0, none⟩) ln lc3)) (w.heap.size + 3) (.slice ra3 n3 rc3) S3 (.slice (some ⟨gl3, 0, none⟩) ln lc3) L) := (O15.box Q15.o).box s1
        simp only [List.setIfInBounds_toArray, List.set_cons_zero] at s1
        have s2 := heap_setCell_same _ (w.heap.size + 2) 1 _ _ (Value.slice (some ⟨gl3, 0, none⟩) ln lc3) s1
        simp only [List.setIfInBounds_toArray, List.set_cons_zero, List.set_cons_succ] at s2
        have A16 : Hid _ := s2
        have C16 : Hid (((w15.setCell ⟨w.heap.size + 2, 0, none⟩ (.slice ra3 n3 rc3)).setCell ⟨w.heap.size + 2, 1, none⟩ (.slice (some ⟨gl3, 0, none⟩) ln lc3)).heap[w.heap.size]? = some (.cells #[.int .i64 n, .slice a zl cap, .slice ao ko co, .slice av kv cv, .int .i64 fine] 30 (0, 0))) := row_set' (row_set' Q15.c (by omega)) (by omega)
        have K16 : Hid (((w15.setCell ⟨w.heap.size + 2, 0, none⟩ (.slice ra3 n3 rc3)).setCell ⟨w.heap.size + 2, 1, none⟩ (.slice (some ⟨gl3, 0, none⟩) ln lc3)).heap[kq]? = some (.cells #[.slice ra3 n3 rc3, .slice (some ⟨gl3, 0, none⟩) ln lc3] 33 (0, 0))) := row_set' (row_set' B15.out (by have := HKO.out; omega)) (by have := HKO.out; omega)
        have B16 : Hid (Below w.heap.size w ((w15.setCell ⟨w.heap.size + 2, 0, none⟩ (.slice ra3 n3 rc3)).setCell ⟨w.heap.size + 2, 1, none⟩ (.slice (some ⟨gl3, 0, none⟩) ln lc3))) := (Q15.b.setCell (by simp) _).setCell (by simp) _
        clear s1 s2
        go_simp
        refine hK.out _ _ ?_ (fun hHeld => ?_)
        · exact ⟨cells5 C16.out, cells2 K16.out⟩
        clear hK K
        clear a0 a1 af
        generalize ((w15.setCell ⟨w.heap.size + 2, 0, none⟩ (.slice ra3 n3 rc3)).setCell ⟨w.heap.size + 2, 1, none⟩ (.slice (some ⟨gl3, 0, none⟩) ln lc3)) = W16 at *
        refine tkH 6 hHeld ?_
        refine wpAnyH_done (by kernel_rfl) ?_ _
        clear hHeld
        obtain ⟨a0, a1⟩ := cells2 A16.out
        go_wp2
        refine bodyPost_ret (v := .tuple #[.agg #[.slice ra3 n3 rc3, .slice (some ⟨gl3, 0, none⟩) ln lc3], .bool pd]) (by simp [results, Tryz.results28, go_sem, a0, a1]) rfl ?_
        refine ⟨B16.out, .inr ⟨by rw [HXE.out, HXL.out]; exact HIB.out, ra3, n3, rc3, gl3, lc3, S3, ?_, HN3.out, HK3.out, ?_⟩⟩
        · rw [show ((j : Int)).toNat = j from Int.toNat_natCast j, HPV.out, HPD.out, HM.out]
        · rw [HM.out]
          exact P16.base (by omega)
end Go.Proofs.YtmehgihjpefpmaaGreat
