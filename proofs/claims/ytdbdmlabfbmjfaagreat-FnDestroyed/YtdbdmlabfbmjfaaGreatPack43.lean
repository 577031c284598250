import Derived.Test.YtdbdmlabfbmjfaaGreatPack0
import Derived.Test.YtdbdmlabfbmjfaaGreatPack3
import Derived.Test.YtdbdmlabfbmjfaaGreatPack34
import Derived.Test.YtdbdmlabfbmjfaaGreatPack40
import Derived.Test.YtdbdmlabfbmjfaaGreatLeaveStart
namespace Go.Proofs.YtdbdmlabfbmjfaaGreat
open Go.RowKit
theorem lvF_mem (S P : List Int) (R : List RT) (L : List Int) : ∀ (i : Nat) (x : Int), x ∈ (lvF S P R L i).2 -> x ∈ L ∨ ∃ j, j < i /\ x = pkd S P j
 | 0, _, h => .inl h
 | i + 1, x, h => by
   rcases (putS_mem _ _ x).1 h with e | e
   · exact .inr ⟨i, by omega, e⟩
   · rcases lvF_mem S P R L i x e with h1 | ⟨j, hj, h1⟩
     · exact .inl h1
     · exact .inr ⟨j, by omega, h1⟩
theorem lvF_wf {n : Int} {zs os vs : List Int} {ko kv : Nat} {fine : Int} {R : List RT} {L S P : List Int} (h : planV n zs os vs ko kv fine R L = 0) (hI : LvI S P L.length 0 R L) (ho : ∀ x ∈ allTo R R.length, fnd6T os ko x = true) : ∀ x ∈ (lvF S P R L P.length).2, (Lit.int .i64 x).wf = true := fun x hx => by
 obtain ⟨h1, _, _, h4, _⟩ := planV_zero h
 refine ord_wf h1 ?_
 rcases lvF_mem S P R L _ x hx with hl | ⟨j, hj, e⟩
 · obtain ⟨i, hi, e⟩ := mem_getDL hl
   rw [<- e]
   exact (h4 i hi).1
 · rw [e]
   exact ho _ (hI.mm j (Nat.zero_le _) hj)
theorem served_ord {n : Int} {zs os vs : List Int} {ko kv : Nat} {fine : Int} {R : List RT} {L : List Int} (h : planV n zs os vs ko kv fine R L = 0) : ∀ x ∈ allTo R R.length, fnd6T os ko x = true := fun x hx => by
 obtain ⟨_, h2, _⟩ := planV_zero h
 rw [allTo_flat] at hx
 obtain ⟨r, hr, hxr⟩ := List.mem_flatMap.1 hx
 obtain ⟨j, hj, e⟩ := mem_getD hr
 have h3 := (formV_zero (codeV_zero (h2 j hj).2.2).1).2.2
 rw [e] at h3
 obtain ⟨i, hi, e2⟩ := mem_getDL hxr
 have h4 := of_decide_eq_true h3
 have h5 := h4.2 i hi
 rw [<- e2]
 unfold stopB at h5
 simp only [Bool.and_eq_true] at h5
 exact h5.1
noncomputable def deS (R : List RT) : List Int := srtS (allTo R R.length)
noncomputable def deP (sd kk : Int) (R : List RT) : List Int := pickV sd (deS R).length (min kk ((deS R).length : Int))
noncomputable def deQ (sd kk : Int) (R : List RT) (L : List Int) : List RT × List Int := lvF (deS R) (deP sd kk R) R L (deP sd kk R).length
noncomputable def deW (sd kk n fine : Int) (zs os vs : List Int) (ko kv : Nat) (R : List RT) (L : List Int) : Int := planV n zs os vs ko kv fine (deQ sd kk R L).1 (deQ sd kk R L).2
noncomputable def deB (sd kk n fine : Int) (zs os vs : List Int) (ko kv : Nat) (R : List RT) (L : List Int) : Bool := decide (planV n zs os vs ko kv fine R L = 0) && (inB kk 0 12 && inB sd 0 2147483647)
noncomputable def deF (sd kk n fine : Int) (zs os vs : List Int) (ko kv : Nat) (R : List RT) (L : List Int) : Bool := deB sd kk n fine zs os vs ko kv R L && decide (deW sd kk n fine zs os vs ko kv R L = 0)
noncomputable def deR (sd kk n fine : Int) (zs os vs : List Int) (ko kv : Nat) (R : List RT) (L : List Int) : List RT := bif deB sd kk n fine zs os vs ko kv R L then (if deW sd kk n fine zs os vs ko kv R L = 0 then (deQ sd kk R L).1 else R) else []
noncomputable def deL (sd kk n fine : Int) (zs os vs : List Int) (ko kv : Nat) (R : List RT) (L : List Int) : List Int := bif deB sd kk n fine zs os vs ko kv R L then (if deW sd kk n fine zs os vs ko kv R L = 0 then (deQ sd kk R L).2 else L) else []
noncomputable def deN (sd kk n fine : Int) (zs os vs : List Int) (ko kv : Nat) (R : List RT) (L : List Int) : Int := bif deB sd kk n fine zs os vs ko kv R L then pickS sd (deS R).length (min kk ((deS R).length : Int)) else -1
structure DeI (sd kk : Int) (R : List RT) (L : List Int) : Prop where
 i : LvI (deS R) (deP sd kk R) L.length 0 R L
 d : ∀ i j, i < j -> j < (deP sd kk R).length -> pkd (deS R) (deP sd kk R) i ≠ pkd (deS R) (deP sd kk R) j
 p : ∀ i, i < (deP sd kk R).length -> 0 <= (deP sd kk R).getD i 0 /\ (deP sd kk R).getD i 0 < (deS R).length
 m : (deP sd kk R).length <= (deS R).length
 t : L.length + (deS R).length <= 12
 r : R.length <= 12
 w : ∀ x ∈ (deQ sd kk R L).2, (Lit.int .i64 x).wf = true
theorem de_facts {sd kk n fine : Int} {zs os vs : List Int} {ko kv : Nat} {R : List RT} {L : List Int} (h : planV n zs os vs ko kv fine R L = 0) (hk : inB kk 0 12 = true) (hs : inB sd 0 2147483647 = true) : DeI sd kk R L := by
 obtain ⟨h1, h2, h3, h4, h5⟩ := planV_zero h
 obtain ⟨s1, s2, s3⟩ := serv_small h
 have hk1 := inB_true hk
 have hN : (deS R).length = (allTo R R.length).length := by unfold deS; rw [srtS_len]
 have hko : ko <= 12 := by
   have hc := h1
   unfold caseB at hc
   simp only [Bool.and_eq_true] at hc
   exact (ordsB_true hc.1.1.2).1
 obtain ⟨K, hK⟩ := Int.eq_ofNat_of_zero_le (show 0 <= min kk ((deS R).length : Int) by omega)
 have hB : pickB sd ((deS R).length : Int) (K : Int) = true := by
   unfold pickB
   rw [hs, inB_mk (show (0 : Int) <= ((deS R).length : Int) /\ ((deS R).length : Int) <= 64 by omega), inB_mk (show (0 : Int) <= (K : Int) /\ (K : Int) <= ((deS R).length : Int) by omega)]
   rfl
 obtain ⟨f1, f2, f3, f4, f5, _⟩ := pick_facts hB
 have hP : deP sd kk R = pickV sd ((deS R).length : Int) (K : Int) := by unfold deP; rw [hK]
 have hl : (deP sd kk R).length = K := by rw [hP, f3]
 have hp : ∀ i, i < (deP sd kk R).length -> 0 <= (deP sd kk R).getD i 0 /\ (deP sd kk R).getD i 0 < (deS R).length := fun i hi => by
   have := f5 i (by omega)
   rw [hP]
   exact ⟨this.1, this.2.1⟩
 have hnd : (deP sd kk R).Nodup := by
   rw [hP, (pick_yes hB).1]
   exact pkL_nodup K _ _ (allL_nodup _) (by rw [allL_length]; exact f1)
 have hI : LvI (deS R) (deP sd kk R) L.length 0 R L := lv_start h rfl hp
 refine ⟨hI, pk_apart (srtS_nodup s2) hnd hp, hp, by omega, by omega, ?_, lvF_wf h hI (served_ord h)⟩
 have := flat_ge R hI.ne
 rw [<- allTo_flat] at this
 omega
theorem lvF_iv {S P L : List Int} {R : List RT} (hd : ∀ i j, i < j -> j < P.length -> pkd S P i ≠ pkd S P j) (h : LvI S P L.length 0 R L) : ∀ i, i <= P.length -> LvI S P L.length i (lvF S P R L i).1 (lvF S P R L i).2
 | 0, _ => h
 | i + 1, hi => (lvF_iv hd h i (by omega)).step hd (by omega)
theorem DeI.e {sd kk : Int} {R : List RT} {L : List Int} (h : DeI sd kk R L) : LvI (deS R) (deP sd kk R) L.length (deP sd kk R).length (deQ sd kk R L).1 (deQ sd kk R L).2 := lvF_iv h.d h.i _ (Nat.le_refl _)
theorem deB_true {sd kk n fine : Int} {zs os vs : List Int} {ko kv : Nat} {R : List RT} {L : List Int} (h : deB sd kk n fine zs os vs ko kv R L = true) : planV n zs os vs ko kv fine R L = 0 /\ inB kk 0 12 = true /\ inB sd 0 2147483647 = true := by
 unfold deB at h
 simp only [Bool.and_eq_true, decide_eq_true_eq] at h
 exact h
theorem de_bd (sd kk n fine : Int) (zs os vs : List Int) (ko kv : Nat) (R : List RT) (L : List Int) : (∀ r ∈ deR sd kk n fine zs os vs ko kv R L, r.ids ≠ [] /\ r.ids.length <= 12) /\ (deR sd kk n fine zs os vs ko kv R L).length <= 500 /\ (deL sd kk n fine zs os vs ko kv R L).length <= 500 := by
 unfold deR deL
 cases hB : deB sd kk n fine zs os vs ko kv R L
 · simp
 · obtain ⟨h1, h2, h3⟩ := deB_true hB
   have D := de_facts h1 h2 h3
   have E := D.e
   have := D.t
   have := D.m
   simp only [cond_true]
   split
   · exact ⟨fun r hr => ⟨E.ne r hr, E.sm r hr⟩, by have := E.ln; omega, by have := E.ll; omega⟩
   · exact ⟨fun r hr => ⟨D.i.ne r hr, D.i.sm r hr⟩, by have := D.r; omega, by omega⟩
theorem cutP_len : ∀ (l : List Int) (x : Int), l.Nodup -> x ∈ l -> (cutP l x).length + 1 = l.length
 | [], x, _, h => by cases h
 | a :: l, x, hn, hm => by
   obtain ⟨h1, h2⟩ := List.nodup_cons.1 hn
   unfold cutP
   by_cases e : a = x
   · subst e
     have : l.filter (fun y => y != a) = l := List.filter_eq_self.2 (fun y hy => by simp; exact fun e => h1 (e ▸ hy))
     simp [this]
   · have hml : x ∈ l := by
       rcases List.mem_cons.1 hm with h | h
       · exact absurd h.symm e
       · exact h
     have ih := cutP_len l x h2 hml
     unfold cutP at ih
     simp [e]
     omega
theorem lvF_all {S P L : List Int} {R : List RT} (hd : ∀ i j, i < j -> j < P.length -> pkd S P i ≠ pkd S P j) (h : LvI S P L.length 0 R L) : ∀ i, i <= P.length -> (allTo (lvF S P R L i).1 (lvF S P R L i).1.length).length + i = (allTo R R.length).length /\ ∀ x ∈ allTo (lvF S P R L i).1 (lvF S P R L i).1.length, x ∈ allTo R R.length
 | 0, _ => ⟨rfl, fun _ hx => hx⟩
 | i + 1, hi => by
   obtain ⟨h1, h2⟩ := lvF_all hd h i (by omega)
   have I := lvF_iv hd h i (by omega)
   have hm := I.mm i (Nat.le_refl _) (by omega)
   have hl := cutP_len _ _ I.nd hm
   refine ⟨?_, fun x hx => ?_⟩
   · rw [lvF, lvR_all]
     omega
   · rw [lvF, lvR_all] at hx
     exact h2 x (List.mem_filter.1 hx).1
theorem de_held {sd kk n fine : Int} {zs os vs : List Int} {ko kv : Nat} {R : List RT} {L : List Int} (h : planV n zs os vs ko kv fine R L = 0) (hk : inB kk 0 12 = true) (hs : inB sd 0 2147483647 = true) :
   ((srtS (allTo R R.length)).length : Int) - (srtS (allTo (deQ sd kk R L).1 (deQ sd kk R L).1.length)).length = min kk ((srtS (allTo R R.length)).length : Int) /\ (∀ x ∈ srtS (allTo (deQ sd kk R L).1 (deQ sd kk R L).1.length), x ∈ srtS (allTo R R.length)) /\ (srtS (allTo R R.length)).length <= 12 := by
 have D := de_facts h hk hs
 obtain ⟨h1, h2⟩ := lvF_all D.d D.i _ (Nat.le_refl _)
 have hk1 := inB_true hk
 obtain ⟨K, hK⟩ := Int.eq_ofNat_of_zero_le (show 0 <= min kk ((deS R).length : Int) by omega)
 have hB : pickB sd ((deS R).length : Int) (K : Int) = true := by
   have := D.t
   unfold pickB
   rw [hs, inB_mk (show (0 : Int) <= ((deS R).length : Int) /\ ((deS R).length : Int) <= 64 by omega), inB_mk (show (0 : Int) <= (K : Int) /\ (K : Int) <= ((deS R).length : Int) by omega)]
   rfl
 have hP : (deP sd kk R).length = K := by unfold deP; rw [hK]; exact (pick_facts hB).2.2.1
 have hS : (deS R).length = (allTo R R.length).length := srtS_len _
 change (allTo (deQ sd kk R L).1 (deQ sd kk R L).1.length).length + (deP sd kk R).length = _ at h1
 refine ⟨?_, fun x hx => ?_, by have := D.t; unfold deS at this; omega⟩
 · rw [srtS_len, srtS_len]
   rw [hS] at hK
   omega
 · rw [srtS_mem] at hx ⊢
   exact h2 x hx
theorem de_last {sd kk n fine : Int} {zs os vs : List Int} {ko kv : Nat} {R : List RT} {L : List Int} (h : deB sd kk n fine zs os vs ko kv R L = true) : 0 <= deN sd kk n fine zs os vs ko kv R L := by
 obtain ⟨h1, h2, h3⟩ := deB_true h
 have D := de_facts h1 h2 h3
 have hk1 := inB_true h2
 obtain ⟨K, hK⟩ := Int.eq_ofNat_of_zero_le (show 0 <= min kk ((deS R).length : Int) by omega)
 have hB : pickB sd ((deS R).length : Int) (K : Int) = true := by
   have := D.t
   unfold pickB
   rw [h3, inB_mk (show (0 : Int) <= ((deS R).length : Int) /\ ((deS R).length : Int) <= 64 by omega), inB_mk (show (0 : Int) <= (K : Int) /\ (K : Int) <= ((deS R).length : Int) by omega)]
   rfl
 unfold deN
 rw [h, hK]
 exact (pick_facts hB).2.2.2.1
end Go.Proofs.YtdbdmlabfbmjfaaGreat
