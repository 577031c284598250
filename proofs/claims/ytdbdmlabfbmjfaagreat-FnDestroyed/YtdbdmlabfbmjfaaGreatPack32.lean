import Derived.Test.YtdbdmlabfbmjfaaGreatPack0
import Derived.Test.YtdbdmlabfbmjfaaGreatPack1
import Derived.Test.YtdbdmlabfbmjfaaGreatPack3
import Derived.Test.YtdbdmlabfbmjfaaGreatPack20
import Derived.Test.YtdbdmlabfbmjfaaGreatPack30
namespace Go.Proofs.YtdbdmlabfbmjfaaGreat
open Go.RowKit
def lvR (R : List RT) (id : Int) : List RT := (R.map fun r => { r with ids := cutP r.ids id }).filter fun r => decide (r.ids ≠ [])
theorem lvR_app (A B : List RT) (id : Int) : lvR (A ++ B) id = lvR A id ++ lvR B id := by simp [lvR]
theorem lvR_not : ∀ (R : List RT) (id : Int), (∀ r ∈ R, id ∉ r.ids /\ r.ids ≠ []) -> lvR R id = R
 | [], _, _ => rfl
 | r :: R, id, h => by
   have h1 := h r (List.mem_cons_self ..)
   have h2 := lvR_not R id (fun x hx => h x (List.mem_cons_of_mem _ hx))
   have e : ({ r with ids := cutP r.ids id } : RT) = r := by rw [cutP_not h1.1]
   unfold lvR at *
   rw [List.map_cons, e, List.filter_cons_of_pos (by simpa using h1.2), h2]
theorem cutP_app (A B : List Int) (id : Int) : cutP (A ++ B) id = cutP A id ++ cutP B id := by simp [cutP]
theorem lvR_ids : ∀ (R : List RT) (id : Int), (lvR R id).flatMap RT.ids = cutP (R.flatMap RT.ids) id
 | [], _ => rfl
 | r :: R, id => by
   rw [List.flatMap_cons, cutP_app, <- lvR_ids R id, <- List.singleton_append, lvR_app, List.flatMap_append]
   congr 1
   unfold lvR
   by_cases h : cutP r.ids id = []
   · rw [List.map_cons, List.map_nil, List.filter_cons_of_neg (by simpa using h), h]; rfl
   · rw [List.map_cons, List.map_nil, List.filter_cons_of_pos (by simpa using h)]; simp
theorem allTo_flat (R : List RT) : allTo R R.length = R.flatMap RT.ids := by unfold allTo; rw [List.take_length]
theorem lvR_all (R : List RT) (id : Int) : allTo (lvR R id) (lvR R id).length = cutP (allTo R R.length) id := by rw [allTo_flat, allTo_flat, lvR_ids]
theorem lvR_ne {R : List RT} {id : Int} {r : RT} (h : r ∈ lvR R id) : r.ids ≠ [] := of_decide_eq_true (List.mem_filter.1 h).2
theorem lvR_len (R : List RT) (id : Int) : (lvR R id).length <= R.length := by
 have := List.length_filter_le (fun r : RT => decide (r.ids ≠ [])) (R.map fun r => { r with ids := cutP r.ids id })
 rw [List.length_map] at this
 exact this
theorem lvR_small {R : List RT} {id : Int} {m : Nat} (h : ∀ r ∈ R, r.ids.length <= m) : ∀ r ∈ lvR R id, r.ids.length <= m := fun r hr => by
 obtain ⟨x, hx, rfl⟩ := List.mem_map.1 (List.mem_filter.1 hr).1
 exact Nat.le_trans (cutP_le _ _) (h x hx)
theorem rises_pwL {R : List RT} (h : R.Pairwise (fun a b => a.v < b.v)) : Rises R := fun j h1 h2 => by
 have h3 := (List.pairwise_iff_getElem.1 h) (j - 1) j (by omega) h2 (by omega)
 simpa [List.getD_eq_getElem?_getD, List.getElem?_eq_getElem h2, List.getElem?_eq_getElem (show j - 1 < R.length by omega)] using h3
theorem lvR_rises {R : List RT} (h : Rises R) (id : Int) : Rises (lvR R id) :=
 rises_pwL (List.Pairwise.filter _ (List.pairwise_map.2 h.pw))
theorem at_split {R : List RT} {k : Nat} (hk : k < R.length) : R = R.take k ++ (R.getD k rt0 :: R.drop (k + 1)) := by
 conv => lhs; rw [<- List.take_append_drop k R]
 rw [List.drop_eq_getElem_cons hk]
 simp [List.getD_eq_getElem?_getD, hk]
theorem rises_at {R : List RT} {k : Nat} (hS : Rises R) (hk : k < R.length) : AtOf R (R.getD k rt0).v k :=
 ⟨by omega, fun j hj => by
   have := hS.lt (k - j - 1) j (by omega)
   rw [show j + (k - j - 1) + 1 = k by omega] at this
   exact this, fun j h1 h2 => hS.le h1 h2⟩
theorem wrL_k {R : List RT} {k : Nat} (hS : Rises R) (hk : k < R.length) (a : Option Addr) (M : List Int) (c : Nat) : wrL R ⟨(R.getD k rt0).v, a, M, c⟩ = R.take k ++ ((if M = [] then [] else [⟨(R.getD k rt0).v, a, M, c⟩]) ++ R.drop (k + 1)) := by
 have h := wrL_at (r := ⟨(R.getD k rt0).v, a, M, c⟩) hS (rises_at hS hk)
 have e : fndN R (R.getD k rt0).v k = 1 := by unfold fndN fndR; rw [if_pos (decide_eq_true ⟨hk, rfl⟩)]
 simp only [e] at h
 exact h
theorem lvR_k {R : List RT} {k : Nat} {id : Int} (hk : k < R.length) (hne : ∀ r ∈ R, r.ids ≠ []) (hnd : (allTo R R.length).Nodup) (hid : id ∈ (R.getD k rt0).ids) : lvR R id = R.take k ++ ((if cutP (R.getD k rt0).ids id = [] then [] else [{ R.getD k rt0 with ids := cutP (R.getD k rt0).ids id }]) ++ R.drop (k + 1)) := by
 have hs := at_split hk
 rw [allTo_flat] at hnd
 generalize R.getD k rt0 = r at *
 generalize R.take k = A at *
 generalize R.drop (k + 1) = B at *
 subst hs
 rw [List.flatMap_append, List.flatMap_cons, List.nodup_append] at hnd
 obtain ⟨_, h2, h3⟩ := hnd
 rw [List.nodup_append] at h2
 obtain ⟨_, _, h4⟩ := h2
 have hA : ∀ x ∈ A, id ∉ x.ids /\ x.ids ≠ [] := fun x hx => ⟨fun e => h3 id (List.mem_flatMap.2 ⟨x, hx, e⟩) id (List.mem_append_left _ hid) rfl, hne x (List.mem_append_left _ hx)⟩
 have hB : ∀ x ∈ B, id ∉ x.ids /\ x.ids ≠ [] := fun x hx => ⟨fun e => h4 id hid id (List.mem_flatMap.2 ⟨x, hx, e⟩) rfl, hne x (List.mem_append_right _ (List.mem_cons_of_mem _ hx))⟩
 rw [<- List.singleton_append, lvR_app, lvR_app, lvR_not A id hA, lvR_not B id hB]
 congr 2
 unfold lvR
 by_cases h : cutP r.ids id = []
 · rw [List.map_cons, List.map_nil, List.filter_cons_of_neg (by simpa using h), if_pos h]; rfl
 · rw [List.map_cons, List.map_nil, List.filter_cons_of_pos (by simpa using h), if_neg h]; rfl
theorem ids_nodup {R : List RT} {k : Nat} (hk : k < R.length) (hnd : (allTo R R.length).Nodup) : (R.getD k rt0).ids.Nodup := by
 rw [allTo_flat] at hnd
 have hs := at_split hk
 rw [hs, List.flatMap_append, List.flatMap_cons] at hnd
 exact (List.nodup_append.1 (List.nodup_append.1 hnd).2.1).1
theorem getD_memL (l : List Int) (i : Nat) (h : i < l.length) : l.getD i 0 ∈ l := by
 rw [List.getD_eq_getElem?_getD, List.getElem?_eq_getElem h]
 exact List.getElem_mem _
theorem leave_impl {R : List RT} {k at_ : Nat} {id : Int} (hS : Rises R) (hk : k < R.length) (hne : ∀ r ∈ R, r.ids ≠ []) (hnd : (allTo R R.length).Nodup) (hin : at_ < (R.getD k rt0).ids.length) (hid : (R.getD k rt0).ids.getD at_ 0 = id) (a : Option Addr) (c : Nat) : (wrL R ⟨(R.getD k rt0).v, a, remL (R.getD k rt0).ids at_, c⟩).map RT.key = (lvR R id).map RT.key := by
 have hm : id ∈ (R.getD k rt0).ids := by
   rw [<- hid]
   exact getD_memL _ _ hin
 have e : remL (R.getD k rt0).ids at_ = cutP (R.getD k rt0).ids id := by rw [<- hid, cutP_rem (ids_nodup hk hnd) hin]
 rw [wrL_k hS hk, lvR_k hk hne hnd hm, e]
 generalize cutP (R.getD k rt0).ids id = M
 by_cases h : M = []
 · rw [if_pos h, if_pos h]
 · rw [if_neg h, if_neg h]
   simp [RT.key]
theorem leave_spec {R : List RT} {k : Nat} {id : Int} (hS : Rises R) (hk : k < R.length) (hne : ∀ r ∈ R, r.ids ≠ []) (hnd : (allTo R R.length).Nodup) (hm : id ∈ (R.getD k rt0).ids) (hc : cutP (R.getD k rt0).ids id ≠ []) (a : Option Addr) (c : Nat) : (setL R ⟨(R.getD k rt0).v, a, cutP (R.getD k rt0).ids id, c⟩).map RT.key = (lvR R id).map RT.key := by
 rw [setL_wrL hS hc, wrL_k hS hk, lvR_k hk hne hnd hm, if_neg hc, if_neg hc]
 simp [RT.key]
theorem leave_none {R : List RT} {k : Nat} {id : Int} (hS : Rises R) (hk : k < R.length) (hne : ∀ r ∈ R, r.ids ≠ []) (hnd : (allTo R R.length).Nodup) (hm : id ∈ (R.getD k rt0).ids) (hc : cutP (R.getD k rt0).ids id = []) : R.filter (fun x => decide (x.v ≠ (R.getD k rt0).v)) = lvR R id := by
 rw [lvR_k hk hne hnd hm, if_pos hc, List.nil_append]
 have hp := hS.pw
 have hs := at_split hk
 generalize R.getD k rt0 = r at *
 generalize R.take k = A at *
 generalize R.drop (k + 1) = B at *
 subst hs
 obtain ⟨_, h2, h3⟩ := List.pairwise_append.1 hp
 obtain ⟨h4, _⟩ := List.pairwise_cons.1 h2
 rw [List.filter_append, List.filter_cons_of_neg (by simp)]
 congr 1
 · exact List.filter_eq_self.2 (fun x hx => decide_eq_true (by have := h3 x hx r (List.mem_cons_self ..); omega))
 · exact List.filter_eq_self.2 (fun x hx => decide_eq_true (by have := h4 x hx; omega))
theorem insL_put {L : List Int} {x : Int} {k : Nat} (h : AtI L x k) : insL L k x = putS L x := putS_is L x k h.le h.lo (fun hk hn => by have := h.hi k (Nat.le_refl _) hk; omega)
theorem upI_of_pair {L : List Int} (h : L.Pairwise (· < ·)) : UpI L := fun i j hij hj => by
 by_cases e : i = j
 · rw [e]; exact Int.le_refl _
 · have := pair_lt h (show i < j by omega) hj
   omega
def pkd (S P : List Int) (j : Nat) : Int := S.getD (P.getD j 0).toNat 0
theorem key_mem {R R' : List RT} (h : R'.map RT.key = R.map RT.key) {r : RT} (hr : r ∈ R') : ∃ x ∈ R, x.key = r.key := by
 have : r.key ∈ R.map RT.key := by rw [<- h]; exact List.mem_map.2 ⟨r, hr, rfl⟩
 obtain ⟨x, hx, e⟩ := List.mem_map.1 this
 exact ⟨x, hx, e⟩
theorem key_flat {R R' : List RT} (h : R'.map RT.key = R.map RT.key) : R'.flatMap RT.ids = R.flatMap RT.ids := by
 have e : ∀ X : List RT, X.flatMap RT.ids = (X.map RT.key).flatMap Prod.snd := fun X => by rw [List.flatMap_map]; rfl
 rw [e, e, h]
theorem key_pw {R R' : List RT} (h : R'.map RT.key = R.map RT.key) (hp : R.Pairwise (fun a b => a.v < b.v)) : R'.Pairwise (fun a b => a.v < b.v) := by
 have e : ∀ X : List RT, X.Pairwise (fun a b => a.v < b.v) ↔ (X.map RT.key).Pairwise (fun a b => a.1 < b.1) := fun X => by rw [List.pairwise_map]; rfl
 rw [e, h, <- e]
 exact hp
theorem lvR_key {R R' : List RT} (h : R'.map RT.key = R.map RT.key) (id : Int) : (lvR R' id).map RT.key = (lvR R id).map RT.key := by
 have e : ∀ X : List RT, (lvR X id).map RT.key = ((X.map RT.key).map (fun p => (p.1, cutP p.2 id))).filter (fun p => decide (p.2 ≠ [])) := fun X => by
   induction X with
   | nil => rfl
   | cons r X ih =>
     rw [<- List.singleton_append, lvR_app, List.map_append, ih, List.map_append, List.map_append, List.filter_append]
     congr 1
     unfold lvR
     by_cases hc : cutP r.ids id = [] <;> simp [RT.key, hc]
 rw [e, e, h]
structure LvI (S P : List Int) (l0 i : Nat) (R : List RT) (L : List Int) : Prop where
 rs : Rises R
 ne : ∀ r ∈ R, r.ids ≠ []
 nd : (allTo R R.length).Nodup
 sm : ∀ r ∈ R, r.ids.length <= 12
 ln : R.length <= 100
 up : L.Pairwise (· < ·)
 ll : L.length = l0 + i
 mm : ∀ j, i <= j -> j < P.length -> pkd S P j ∈ allTo R R.length
 nl : ∀ x ∈ allTo R R.length, x ∉ L
theorem LvI.key {S P : List Int} {l0 i : Nat} {R R' : List RT} {L : List Int} (h : LvI S P l0 i R L) (hk : R'.map RT.key = R.map RT.key) : LvI S P l0 i R' L := by
 have ea : allTo R' R'.length = allTo R R.length := by rw [allTo_flat, allTo_flat, key_flat hk]
 have el : R'.length = R.length := by have := congrArg List.length hk; simpa using this
 refine ⟨rises_pwL (key_pw hk h.rs.pw), fun r hr => ?_, by rw [ea]; exact h.nd, fun r hr => ?_, by rw [el]; exact h.ln, h.up, h.ll, fun j h1 h2 => by rw [ea]; exact h.mm j h1 h2, fun x hx => h.nl x (by rw [<- ea]; exact hx)⟩
 · obtain ⟨x, hx, e⟩ := key_mem hk hr
   have : x.ids = r.ids := congrArg Prod.snd e
   rw [<- this]; exact h.ne x hx
 · obtain ⟨x, hx, e⟩ := key_mem hk hr
   have : x.ids = r.ids := congrArg Prod.snd e
   rw [<- this]; exact h.sm x hx
theorem LvI.step {S P : List Int} {l0 i : Nat} {R : List RT} {L : List Int} (hd : ∀ i j, i < j -> j < P.length -> pkd S P i ≠ pkd S P j) (h : LvI S P l0 i R L) (hi : i < P.length) : LvI S P l0 (i + 1) (lvR R (pkd S P i)) (putS L (pkd S P i)) := by
 have hx := h.mm i (Nat.le_refl _) hi
 refine ⟨lvR_rises h.rs _, fun r hr => lvR_ne hr, ?_, lvR_small h.sm, Nat.le_trans (lvR_len _ _) h.ln, putS_pair L _ h.up (h.nl _ hx), by rw [putS_len, h.ll]; omega, fun j h1 h2 => ?_, fun x hx2 hm => ?_⟩
 · rw [lvR_all]
   exact List.Pairwise.filter _ h.nd
 · rw [lvR_all]
   refine List.mem_filter.2 ⟨h.mm j (by omega) h2, ?_⟩
   have := hd i j (by omega) h2
   simp
   exact fun e => this e.symm
 · rw [lvR_all] at hx2
   obtain ⟨h1, h2⟩ := List.mem_filter.1 hx2
   rcases (putS_mem L _ x).1 hm with e | e
   · simp at h2; exact h2 e
   · exact h.nl x h1 e
theorem mem_getDL {l : List Int} {x : Int} (h : x ∈ l) : ∃ i, i < l.length /\ l.getD i 0 = x := by
 obtain ⟨i, hi, e⟩ := List.getElem_of_mem h
 exact ⟨i, hi, by rw [List.getD_eq_getElem?_getD, List.getElem?_eq_getElem hi, e]; rfl⟩
theorem nodup_atL {l : List Int} (h : l.Nodup) {i j : Nat} (hij : i < j) (hj : j < l.length) : l.getD i 0 ≠ l.getD j 0 := by
 have := (List.pairwise_iff_getElem.1 h) i j (by omega) hj hij
 simpa [List.getD_eq_getElem?_getD, List.getElem?_eq_getElem hj, List.getElem?_eq_getElem (show i < l.length by omega)] using this
theorem LvI.at {S P : List Int} {l0 i : Nat} {R : List RT} {L : List Int} (h : LvI S P l0 i R L) {x : Int} (hx : x ∈ allTo R R.length) :
   ∃ k at_ : Nat, k < R.length /\ (∀ j, j < k -> idxV (R.getD j rt0).ids (R.getD j rt0).ids.length x < 0) /\ idxV (R.getD k rt0).ids (R.getD k rt0).ids.length x = at_ /\ at_ < (R.getD k rt0).ids.length /\ (R.getD k rt0).ids.getD at_ 0 = x := by
 have hx' := hx
 rw [allTo_flat] at hx'
 obtain ⟨r, hr, hxr⟩ := List.mem_flatMap.1 hx'
 obtain ⟨k, hk, e⟩ := mem_getD hr
 rw [<- e] at hxr
 obtain ⟨a, ha, ea⟩ := mem_getDL hxr
 have hn := ids_nodup hk h.nd
 refine ⟨k, a, hk, fun j hj => ?_, ?_, ha, ea⟩
 · have hnd := h.nd
   rw [allTo_flat] at hnd
   have hs := at_split hk
   rw [hs, List.flatMap_append, List.flatMap_cons, List.nodup_append] at hnd
   have hno : x ∉ (R.getD j rt0).ids := fun hm => by
     have hjm : R.getD j rt0 ∈ R.take k := by
       rw [List.getD_eq_getElem?_getD, List.getElem?_eq_getElem (show j < R.length by omega)]
       exact List.mem_take_iff_getElem.2 ⟨j, by omega, rfl⟩
     exact hnd.2.2 x (List.mem_flatMap.2 ⟨_, hjm, hm⟩) x (List.mem_append_left _ hxr) rfl
   rw [idxV_none (fun t ht e9 => hno (by rw [<- e9]; exact getD_memL _ _ ht))]
   omega
 · exact idxV_at ha ea (fun j hj e9 => nodup_atL hn hj ha (by rw [e9, ea]))
end Go.Proofs.YtdbdmlabfbmjfaaGreat
