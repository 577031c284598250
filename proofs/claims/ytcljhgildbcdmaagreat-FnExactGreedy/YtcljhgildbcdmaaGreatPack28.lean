import Derived.Test.YtcljhgildbcdmaaGreatPack2
import Derived.Test.YtcljhgildbcdmaaGreatPack4
import Derived.Test.YtcljhgildbcdmaaGreatPack10
import Derived.Test.YtcljhgildbcdmaaGreatPack17
import Derived.Test.YtcljhgildbcdmaaGreatGreedyBase
import Derived.Test.YtcljhgildbcdmaaGreatPlainWith
namespace Go.Proofs.YtcljhgildbcdmaaGreat
open Go.RowKit
def oneQ (n fine : Int) (zs os vs : List Int) (ko kv : Nat) (R : List RT) (L : List Int) : QS := qst (gOk n fine zs os vs ko kv R) (gD n zs os vs ko kv R) (sp3 R vs kv L L.length)
def oneT (R : List RT) (s : Spot) : RT := ⟨s.2.1, none, insL (rtOf R s.2.1).ids s.2.2 s.1, 0⟩
def oneR (n fine : Int) (zs os vs : List Int) (ko kv : Nat) (R : List RT) (L : List Int) : List RT := if (oneQ n fine zs os vs ko kv R L).f then wrL R (oneT R (oneQ n fine zs os vs ko kv R L).s) else R
def oneL (n fine : Int) (zs os vs : List Int) (ko kv : Nat) (R : List RT) (L : List Int) : List Int := if (oneQ n fine zs os vs ko kv R L).f then cutL L (oneQ n fine zs os vs ko kv R L).s.1 else L
theorem filter_key {R S : List RT} (p : Int -> Bool) (h : R.map RT.key = S.map RT.key) : (R.filter (fun x => p x.v)).map RT.key = (S.filter (fun x => p x.v)).map RT.key := by
 have e : ∀ T : List RT, (T.filter (fun x => p x.v)).map RT.key = (T.map RT.key).filter (fun k => p k.1) := fun T => by
   rw [List.filter_map]
   rfl
 rw [e, e, h]
theorem wrL_key {R S : List RT} {r s : RT} (h : R.map RT.key = S.map RT.key) (hr : r.key = s.key) : (wrL R r).map RT.key = (wrL S s).map RT.key := by
 have hv : r.v = s.v := congrArg Prod.fst hr
 have hi : r.ids = s.ids := congrArg Prod.snd hr
 unfold wrL
 rw [List.map_append, List.map_append, List.map_append, List.map_append, hv, hi, filter_key (fun v => decide (v < s.v)) h, filter_key (fun v => decide (s.v < v)) h]
 congr 2
 split
 · rfl
 · show [r.key] = [s.key]
   rw [hr]
theorem rtOf_key {R S : List RT} (h : R.map RT.key = S.map RT.key) (veh : Int) : (rtOf R veh).ids = (rtOf S veh).ids := by
 have e : ∀ T : List RT, (rtOf T veh).ids = (((T.map RT.key).find? (fun k => k.1 == veh)).map (·.2)).getD [] := fun T => by
   unfold rtOf
   rw [List.find?_map]
   have : ((fun k : Int × List Int => k.1 == veh) ∘ RT.key) = fun r : RT => r.v == veh := rfl
   rw [this]
   cases T.find? (fun r : RT => r.v == veh) <;> rfl
 rw [e, e, h]
theorem sp2_key {R S : List RT} (h : R.map RT.key = S.map RT.key) (V : List Int) (id : Int) : ∀ k, sp2 R V id k = sp2 S V id k
 | 0 => rfl
 | k + 1 => by
   show sp2 R V id k ++ _ = sp2 S V id k ++ _
   rw [sp2_key h V id k, rtOf_key h]
theorem sp3_key {R S : List RT} (h : R.map RT.key = S.map RT.key) (V : List Int) (kv : Nat) (ids : List Int) : ∀ i, sp3 R V kv ids i = sp3 S V kv ids i
 | 0 => rfl
 | i + 1 => by
   show sp3 R V kv ids i ++ _ = sp3 S V kv ids i ++ _
   rw [sp3_key h V kv ids i, sp2_key h]
theorem gD_key {R S : List RT} (h : R.map RT.key = S.map RT.key) (n : Int) (zs os vs : List Int) (ko kv : Nat) : gD n zs os vs ko kv R = gD n zs os vs ko kv S := by
 funext p
 unfold gD
 rw [rtOf_key h]
theorem gOk_key {R S : List RT} (h : R.map RT.key = S.map RT.key) (n fine : Int) (zs os vs : List Int) (ko kv : Nat) : gOk n fine zs os vs ko kv R = gOk n fine zs os vs ko kv S := by
 funext p
 unfold gOk gB
 rw [gD_key h, rtOf_key h]
theorem oneQ_key {R S : List RT} (h : R.map RT.key = S.map RT.key) (n fine : Int) (zs os vs : List Int) (ko kv : Nat) (L : List Int) : oneQ n fine zs os vs ko kv R L = oneQ n fine zs os vs ko kv S L := by
 unfold oneQ
 rw [gOk_key h, gD_key h, sp3_key h]
theorem oneR_key {R S : List RT} (h : R.map RT.key = S.map RT.key) (n fine : Int) (zs os vs : List Int) (ko kv : Nat) (L : List Int) : (oneR n fine zs os vs ko kv R L).map RT.key = (oneR n fine zs os vs ko kv S L).map RT.key := by
 unfold oneR
 rw [oneQ_key h]
 split
 · exact wrL_key h (by unfold oneT RT.key; simp only; rw [rtOf_key h])
 · exact h
theorem spots_at {w : World} {base k sc : Nat} {sa : Option Addr} {l : List Spot} (h : w.ownsRow base 86 3 (.slice sa k sc) k ((spF l).map (Value.int .i64))) : IntsAt w sa (spF l) := fun j hj => by
 rcases own_kinds h with ⟨e, h0⟩ | ⟨g, c, e, _, _⟩
 · have := h.1
   rw [List.length_map, h0] at this
   omega
 · simp only [Value.slice.injEq, true_and] at e
   obtain ⟨rfl, rfl⟩ := e
   refine ⟨g, 0, rfl, ?_⟩
   rw [Nat.zero_add]
   exact (own_cellV h (by rw [List.getElem?_map, List.getD_eq_getElem?_getD, List.getElem?_eq_getElem hj]; rfl)).1
end Go.Proofs.YtcljhgildbcdmaaGreat
namespace Go.Proofs.YtcljhgildbcdmaaGreat
open Go.RowKit
theorem allTo_ge {R : List RT} (h : ∀ j, j < R.length -> (R.getD j rt0).ids ≠ []) : ∀ k, k <= R.length -> k <= (allTo R k).length
 | 0, _ => Nat.zero_le _
 | k + 1, hk => by
   have ih := allTo_ge h k (by omega)
   have h1 := List.length_pos_iff.2 (h k (by omega))
   rw [allTo_succ (by omega), List.length_append]
   omega
theorem plan_in {n : Int} {zs os vs : List Int} {ko kv : Nat} {fine : Int} {R : List RT} {L : List Int} (h : planV n zs os vs ko kv fine R L = 0) (hrc : ∀ r ∈ R, r.ids.length <= r.c) : caseB n zs os vs ko kv fine = true /\ Rises R /\ RtsIn R /\ R.length <= 12 /\ L.length <= 12 /\ ko <= 12 /\ kv <= 5 := by
 obtain ⟨h1, h2, _, _, h5⟩ := planV_zero h
 have hc := h1
 unfold caseB at hc
 simp only [Bool.and_eq_true] at hc
 have hko := (ordsB_true hc.1.1.2).1
 have hkv := (vehsB_true hc.1.2).1
 have h6 := allTo_ge (R := R) (fun j hj => (h2 j hj).2.1) R.length (Nat.le_refl _)
 refine ⟨h1, fun j h3 h4 => (h2 j h4).1 h3, fun r hr => ?_, by omega, by omega, hko, hkv⟩
 obtain ⟨j, hj, e⟩ := List.getElem_of_mem hr
 have e2 : R.getD j rt0 = r := by rw [List.getD_eq_getElem?_getD, List.getElem?_eq_getElem hj, e]; rfl
 obtain ⟨_, h7, h8⟩ := h2 j hj
 rw [e2] at h7 h8
 exact ⟨h7, code12 h8, hrc r hr⟩
theorem key_in {R S : List RT} {b : Nat} (h : S.map RT.key = R.map RT.key) (hi : ∀ r ∈ R, r.ids ≠ [] /\ r.ids.length <= b) : ∀ s ∈ S, s.ids ≠ [] /\ s.ids.length <= b := fun s hs => by
 have h1 : s.key ∈ R.map RT.key := by rw [<- h]; exact List.mem_map_of_mem hs
 obtain ⟨y, hy, e⟩ := List.mem_map.1 h1
 have e2 : y.ids = s.ids := congrArg Prod.snd e
 rw [<- e2]
 exact hi y hy
theorem one_in {n fine : Int} {zs os vs : List Int} {ko kv : Nat} {R : List RT} {L : List Int} (hi : RtsIn R) (hn : R.length <= 100) (hl : L.length <= 100) : (∀ r ∈ oneR n fine zs os vs ko kv R L, r.ids ≠ [] /\ r.ids.length <= 12) /\ (oneR n fine zs os vs ko kv R L).length <= 500 /\ (oneL n fine zs os vs ko kv R L).length <= 500 := by
 unfold oneR oneL
 have hm := qst_made (ok := gOk n fine zs os vs ko kv R) (dl := gD n zs os vs ko kv R) (sp3 R vs kv L L.length)
 change (oneQ n fine zs os vs ko kv R L).f = true -> _ at hm
 by_cases h : (oneQ n fine zs os vs ko kv R L).f = true
 · rw [if_pos h, if_pos h]
   have h2 := (hm h).2.1
   change gOk n fine zs os vs ko kv R (oneQ n fine zs os vs ko kv R L).s = true at h2
   generalize (oneQ n fine zs os vs ko kv R L).s = s at *
   unfold gOk gB at h2
   have h3 : plB true n zs os vs ko kv s.2.1 (rtOf R s.2.1).ids s.1 s.2.2 = true := (Bool.and_eq_true _ _ ▸ h2).1
   have h4 : codeV true n zs os vs ko kv s.2.1 (insL (rtOf R s.2.1).ids s.2.2 s.1) = 0 := by
     unfold plB chB at h3
     simp only [Bool.and_eq_true, decide_eq_true_eq] at h3
     exact h3.2.2
   refine ⟨fun r hr => ?_, ?_, Nat.le_trans (cutL_le _ _) (by omega)⟩
   · rcases wrL_mem hr with h5 | h5
     · exact ⟨(hi r h5).1, (hi r h5).2.1⟩
     · rw [h5]
       exact ⟨by unfold oneT insL; simp, code12 h4⟩
   · unfold wrL
     rw [List.length_append, List.length_append]
     have h6 := List.length_filter_le (fun x : RT => decide (x.v < (oneT R s).v)) R
     have h7 := List.length_filter_le (fun x : RT => decide ((oneT R s).v < x.v)) R
     have h8 : (if (oneT R s).ids = [] then ([] : List RT) else [oneT R s]).length <= 1 := by split <;> simp
     omega
 · rw [if_neg h, if_neg h]
   exact ⟨fun r hr => ⟨(hi r hr).1, (hi r hr).2.1⟩, by omega, by omega⟩
noncomputable def goF (n fine : Int) (zs os vs : List Int) (ko kv : Nat) (R : List RT) (L : List Int) : Bool := if planV n zs os vs ko kv fine R L = 0 then (oneQ n fine zs os vs ko kv R L).f else false
noncomputable def goR (n fine : Int) (zs os vs : List Int) (ko kv : Nat) (R : List RT) (L : List Int) : List RT := if planV n zs os vs ko kv fine R L = 0 then oneR n fine zs os vs ko kv R L else []
noncomputable def goL (n fine : Int) (zs os vs : List Int) (ko kv : Nat) (R : List RT) (L : List Int) : List Int := if planV n zs os vs ko kv fine R L = 0 then oneL n fine zs os vs ko kv R L else []
end Go.Proofs.YtcljhgildbcdmaaGreat
namespace Go.Proofs.YtcljhgildbcdmaaGreat
open Go.RowKit
def grp (fine : Int) (id veh : Int) (s : QS) (b : PS) : QS := if b.f = true /\ b.v <= fine /\ (s.f = false ∨ b.v < s.v) then ⟨true, (id, veh, b.i), b.v⟩ else s
theorem grp_fold (fine id veh : Int) (B : Spot -> Bool) (D : Spot -> Int) (s : QS) : ∀ m, (sp1 id veh m).foldl (qstep (fun p => B p && decide (D p <= fine)) D) s = grp fine id veh s (pst (fun a => B (id, veh, a)) (fun a => D (id, veh, a)) m)
 | 0 => by
   have : ¬ ((ps0).f = true /\ (ps0).v <= fine /\ (s.f = false ∨ (ps0).v < s.v)) := fun h => by cases h.1
   show s = grp fine id veh s ps0
   unfold grp
   rw [if_neg this]
 | m + 1 => by
   have ih := grp_fold fine id veh B D s m
   rw [sp1_succ, List.foldl_append, ih, pst_succ]
   generalize pst (fun a => B (id, veh, a)) (fun a => D (id, veh, a)) m = b
   simp only [List.foldl_cons, List.foldl_nil]
   unfold pstep
   by_cases hB : B (id, veh, m) = true
   · by_cases hd : D (id, veh, m) <= fine
     · have hok : (B (id, veh, m) && decide (D (id, veh, m) <= fine)) = true := by simp [hB, hd]
       by_cases hbf : b.f = false
       · have h1 : grp fine id veh s b = s := by unfold grp; rw [if_neg (fun h => by rw [hbf] at h; cases h.1)]
         rw [h1, if_pos ⟨hB, .inl hbf⟩]
         unfold qstep grp
         simp [hB, hd]
       · have hbt : b.f = true := by simpa using hbf
         by_cases hlt : D (id, veh, m) < b.v
         · rw [if_pos ⟨hB, .inr hlt⟩]
           by_cases ht : b.f = true /\ b.v <= fine /\ (s.f = false ∨ b.v < s.v)
           · have h1 : grp fine id veh s b = ⟨true, (id, veh, b.i), b.v⟩ := if_pos ht
             rw [h1, qstep_yes hok hlt]
             unfold grp
             rw [if_pos ⟨rfl, hd, by rcases ht.2.2 with h | h; exact .inl h; exact .inr (Int.lt_trans hlt h)⟩]
           · have h1 : grp fine id veh s b = s := if_neg ht
             rw [h1]
             unfold qstep grp
             simp [hB, hd]
         · rw [if_neg (fun h => by rcases h.2 with h | h; exact hbf h; exact hlt h)]
           by_cases ht : b.f = true /\ b.v <= fine /\ (s.f = false ∨ b.v < s.v)
           · have h1 : grp fine id veh s b = ⟨true, (id, veh, b.i), b.v⟩ := if_pos ht
             rw [h1]
             exact qstep_no2 rfl hlt
           · have h1 : grp fine id veh s b = s := if_neg ht
             have hbv : b.v <= fine := by omega
             have h2 : ¬ (s.f = false ∨ b.v < s.v) := fun h => ht ⟨hbt, hbv, h⟩
             rw [h1]
             refine qstep_no2 (by simpa using fun h => h2 (.inl h)) (fun h => h2 (.inr (by omega)))
     · have hok : (B (id, veh, m) && decide (D (id, veh, m) <= fine)) = false := by simp [hd]
       rw [qstep_no1 hok]
       split
       · rename_i hc
         have h2 : grp fine id veh s ⟨true, m, D (id, veh, m)⟩ = s := if_neg (fun h => hd h.2.1)
         rw [h2]
         refine if_neg (fun h => ?_)
         rcases hc.2 with h3 | h3
         · rw [h3] at h; cases h.1
         · exact hd (Int.le_trans (Int.le_of_lt h3) h.2.1)
       · rfl
   · have hok : (B (id, veh, m) && decide (D (id, veh, m) <= fine)) = false := by simp [hB]
     rw [qstep_no1 hok, if_neg (fun h => hB h.1)]
theorem qst_grp (n fine : Int) (zs os vs : List Int) (ko kv : Nat) (R : List RT) (l : List Spot) (id veh : Int) :
   qst (gOk n fine zs os vs ko kv R) (gD n zs os vs ko kv R) (l ++ sp1 id veh ((rtOf R veh).ids.length + 1)) = grp fine id veh (qst (gOk n fine zs os vs ko kv R) (gD n zs os vs ko kv R) l) (bpV true n zs os vs ko kv veh (rtOf R veh).ids id) := by
 unfold qst
 rw [List.foldl_append]
 exact grp_fold fine id veh (gB n zs os vs ko kv R) (gD n zs os vs ko kv R) _ _
theorem setS_true (r : RT) : ∀ (R o : List RT), (∀ x ∈ R, x.v ≠ r.v) -> R.foldl (setS r) (o, true) = (o ++ R, true)
 | [], o, _ => by simp
 | x :: R, o, h => by
   rw [List.foldl_cons, set_ne (h x (List.mem_cons_self ..)), setS_true r R _ (fun y hy => h y (List.mem_cons_of_mem _ hy))]
   simp
theorem wrL_lo {R : List RT} {r x : RT} (hx : x.v < r.v) : wrL (x :: R) r = x :: wrL R r := by
 unfold wrL
 rw [List.filter_cons_of_pos (p := fun x : RT => decide (x.v < r.v)) (decide_eq_true hx), List.filter_cons_of_neg (p := fun x : RT => decide (r.v < x.v)) (fun h9 => by have := of_decide_eq_true h9; omega)]
 rfl
theorem wrL_hi {R : List RT} {r : RT} (hr : r.ids ≠ []) (h : ∀ y ∈ R, r.v < y.v) : wrL R r = r :: R := by
 unfold wrL
 have h1 : R.filter (fun x => decide (x.v < r.v)) = [] := List.filter_eq_nil_iff.2 (fun y hy h9 => by have := of_decide_eq_true h9; have := h y hy; omega)
 have h2 : R.filter (fun x => decide (r.v < x.v)) = R := List.filter_eq_self.2 (fun y hy => decide_eq_true (h y hy))
 rw [h1, h2]
 simp [hr]
theorem wrL_at0 {R : List RT} {r x : RT} (hr : r.ids ≠ []) (hx : x.v = r.v) (h : ∀ y ∈ R, r.v < y.v) : wrL (x :: R) r = r :: R := by
 unfold wrL
 have h1 : (x :: R).filter (fun x => decide (x.v < r.v)) = [] := List.filter_eq_nil_iff.2 (fun y hy h9 => by
   have := of_decide_eq_true h9
   rcases List.mem_cons.1 hy with e | hy
   · rw [e] at this; omega
   · have := h y hy; omega)
 have h2 : (x :: R).filter (fun x => decide (r.v < x.v)) = R := by
   rw [List.filter_cons_of_neg (p := fun x : RT => decide (r.v < x.v)) (fun h9 => by have := of_decide_eq_true h9; omega)]
   exact List.filter_eq_self.2 (fun y hy => decide_eq_true (h y hy))
 rw [h1, h2]
 simp [hr]
theorem setL_go {r : RT} (hr : r.ids ≠ []) : ∀ (R o : List RT), R.Pairwise (fun a b => a.v < b.v) -> (if (R.foldl (setS r) (o, false)).2 then (R.foldl (setS r) (o, false)).1 else (R.foldl (setS r) (o, false)).1 ++ [r]) = o ++ wrL R r
 | [], o, _ => by simp [wrL, hr]
 | x :: R, o, h => by
   obtain ⟨h1, h2⟩ := List.pairwise_cons.1 h
   rw [List.foldl_cons]
   rcases Int.lt_trichotomy x.v r.v with hx | hx | hx
   · rw [set_lt hx, setL_go hr R (o ++ [x]) h2, wrL_lo hx]
     simp
   · rw [set_eq hx, setS_true r R _ (fun y hy => by have := h1 y hy; omega), wrL_at0 hr hx (fun y hy => by have := h1 y hy; omega)]
     simp
   · rw [set_gt hx, setS_true r R _ (fun y hy => by have := h1 y hy; omega), wrL_hi hr (fun y hy => by
       rcases List.mem_cons.1 hy with e | hy
       · rw [e]; exact hx
       · have := h1 y hy; omega)]
     simp
theorem Rises.pw {R : List RT} (h : Rises R) : R.Pairwise (fun a b => a.v < b.v) := by
 rw [List.pairwise_iff_getElem]
 intro i j hi hj hij
 have := h.lt (j - i - 1) i (by omega)
 rw [show i + (j - i - 1) + 1 = j by omega] at this
 simpa [List.getD_eq_getElem?_getD, List.getElem?_eq_getElem hi, List.getElem?_eq_getElem hj] using this
theorem setL_wrL {R : List RT} {r : RT} (hS : Rises R) (hr : r.ids ≠ []) : setL R r = wrL R r := by
 have := setL_go hr R [] hS.pw
 rw [List.nil_append] at this
 rw [<- this]
 unfold setL setTo
 rw [List.take_length]
end Go.Proofs.YtcljhgildbcdmaaGreat