import Derived.Test.YtehfjfmfpdgibaaGreatDoorPack15
import Derived.Test.YtehfjfmfpdgibaaGreatDoorImplPub
import Derived.Test.YtehfjfmfpdgibaaGreatDoorStoreMark
namespace Go.Proofs.YtehfjfmfpdgibaaGreatDoor
open Go.RowKit
noncomputable def pR (T : List TN) (q : ByteArray) : List RT := match pubT T q with | some x => x.2.R | none => []
noncomputable def pL (T : List TN) (q : ByteArray) : List Int := match pubT T q with | some x => x.2.L | none => []
noncomputable def pC (T : List TN) (q : ByteArray) : Int := match pubT T q with | some x => pubC x.1 x.2 | none => 0
noncomputable def pB (T : List TN) (q : ByteArray) : Bool := match pubT T q with | some _ => true | none => false
theorem findT_plain (T : List TN) (q : ByteArray) : findT (T.map TN.plain) q = (findT T q).map TN.plain := find_map9 _ _ T
theorem tenT_move {S T : List TN} {q : ByteArray} (hp : S.map TN.plain = T.map TN.plain) : (tenT S q).map TN.plain = (tenT T q).map TN.plain := by
 unfold tenT
 rw [storeB_same hp]
 cases storeB T
 · rfl
 · show (findT S q).map TN.plain = (findT T q).map TN.plain
   rw [<- findT_plain, <- findT_plain, hp]
theorem pub_move {S T : List TN} {q : ByteArray} (hp : S.map TN.plain = T.map TN.plain) : (pubT S q).map (fun x => (x.1.plain, x.2.plain)) = (pubT T q).map (fun x => (x.1.plain, x.2.plain)) := by
 have h1 := tenT_move (q := q) hp
 cases hS : tenT S q with
 | none =>
   cases hT : tenT T q with
   | none => rw [pub_noT hS, pub_noT hT]
   | some y => rw [hS, hT] at h1; cases h1
 | some x =>
   cases hT : tenT T q with
   | none => rw [hS, hT] at h1; cases h1
   | some y =>
     rw [hS, hT] at h1
     have hxy : x.plain = y.plain := Option.some.inj h1
     have h2 : x.V.map VN.plain = y.V.map VN.plain := (congrArg TN.V hxy :)
     have h3 : x.pub = y.pub := (congrArg TN.pub hxy :)
     have h4 : x.S.map SN.plain = y.S.map SN.plain := (congrArg TN.S hxy :)
     have h5 := findV_same h2 x.pub
     cases hv : findV x.V x.pub with
     | none =>
       cases hw : findV y.V y.pub with
       | none => rw [pub_noV hS hv, pub_noV hT hw]
       | some w => rw [hv, h3, hw] at h5; cases h5
     | some v =>
       cases hw : findV y.V y.pub with
       | none => rw [hv, h3, hw] at h5; cases h5
       | some w =>
         rw [hv, h3, hw] at h5
         have hvw : v.plain = w.plain := Option.some.inj h5
         have h6 : v.sn = w.sn := (congrArg VN.sn hvw :)
         have h7 := findS_same h4 v.sn
         have e1 : pubT S q = (findS x.S v.sn).map (fun s => (s, v)) := by unfold pubT; rw [hS]; show (findV x.V x.pub).bind _ = _; rw [hv]; rfl
         have e2 : pubT T q = (findS y.S w.sn).map (fun s => (s, w)) := by unfold pubT; rw [hT]; show (findV y.V y.pub).bind _ = _; rw [hw]; rfl
         rw [e1, e2, <- h6]
         cases hs : findS x.S v.sn with
         | none =>
           cases ht : findS y.S v.sn with
           | none => rfl
           | some t => rw [hs, ht] at h7; cases h7
         | some s =>
           cases ht : findS y.S v.sn with
           | none => rw [hs, ht] at h7; cases h7
           | some t =>
             rw [hs, ht] at h7
             have h8 : s.plain = t.plain := Option.some.inj h7
             show some (s.plain, v.plain) = some (t.plain, w.plain)
             rw [h8, hvw]
def PubU (T : List TN) (q : ByteArray) (w : World) (e : Ending) (w' : World) : Prop := ∃ (ra : Option Addr) (rc : Nat) (la : Option Addr) (lc : Nat) (S : List RT), e = .returned (.tuple #[.agg #[.slice ra (pR T q).length rc, .slice la (pL T q).length lc], .int .i64 (pC T q), .bool (pB T q)]) /\ Below w.heap.size w w' /\ S.map RT.key = (pR T q).map RT.key /\ PO w' (w.heap.size + 2) (.slice ra (pR T q).length rc) S (.slice la (pL T q).length lc) (pL T q) /\ (pR T q).length <= 12 /\ (∀ r ∈ pR T q, r.ids.length <= 12) /\ (pL T q).length <= 12
def PubUI (T : List TN) (q : ByteArray) (w : World) (e : Ending) (w' : World) : Prop := ∃ (ra : Option Addr) (rc : Nat) (la : Option Addr) (lc : Nat) (S : List RT), e = .returned (.tuple #[.agg #[.slice ra (pR T q).length rc, .slice la (pL T q).length lc], .int .i64 (pC T q), .bool (pB T q)]) /\ Below w.heap.size w w' /\ S.map RT.key = (pR T q).map RT.key /\ PO w' (w.heap.size + 2) (.slice ra (pR T q).length rc) S (.slice la (pL T q).length lc) (pL T q) /\ ((pR T q).length <= 12 /\ (∀ r ∈ pR T q, r.ids.length <= 12) /\ (pL T q).length <= 12) /\ Apt S la
theorem po_nil (w : World) (base : Nat) : PO w base (.slice none 0 0) [] (.slice none 0 0) [] := ⟨World.ownsRow_nil _ _ _ _, fun _ h => by simp at h, World.ownsRow_nil _ _ _ _⟩
theorem pub_eqs {S T : List TN} {q : ByteArray} (hp : S.map TN.plain = T.map TN.plain) : (pR S q).map RT.key = (pR T q).map RT.key /\ pL S q = pL T q /\ pC S q = pC T q /\ pB S q = pB T q := by
 have h := pub_move (q := q) hp
 unfold pR pL pC pB
 cases hS : pubT S q with
 | none =>
   cases hT : pubT T q with
   | none => exact ⟨rfl, rfl, rfl, rfl⟩
   | some y => rw [hS, hT] at h; cases h
 | some x =>
   cases hT : pubT T q with
   | none => rw [hS, hT] at h; cases h
   | some y =>
     rw [hS, hT] at h
     have h1 := Option.some.inj h
     have h2 : x.1.plain = y.1.plain := congrArg Prod.fst h1
     have h3 : x.2.plain = y.2.plain := congrArg Prod.snd h1
     exact ⟨RT.key_plain (congrArg VN.R h3 :), (congrArg VN.L h3 :), pubC_same h2 h3, rfl⟩
theorem key_ids12 {R S : List RT} (h : R.map RT.key = S.map RT.key) (hi : ∀ r ∈ S, r.ids.length <= 12) : ∀ r ∈ R, r.ids.length <= 12 := fun r hr => by
 have h1 : r.key ∈ S.map RT.key := by rw [<- h]; exact List.mem_map_of_mem hr
 obtain ⟨s, hs, e⟩ := List.mem_map.1 h1
 have h2 : s.ids = r.ids := congrArg Prod.snd e
 rw [<- h2]
 exact hi s hs
theorem PubOut.uni {S T : List TN} {q : ByteArray} {w w' : World} {e : Ending} (hp : S.map TN.plain = T.map TN.plain) (h : PubOut S q w e w') : PubU T q w e w' := by
 obtain ⟨e1, e2, e3, e4⟩ := pub_eqs (q := q) hp
 have e5 : (pR S q).length = (pR T q).length := by have := congrArg List.length e1; simpa using this
 rcases h with ⟨s0, v0, ra, rc, la, lc, X, hpb, rfl, hb, hk, hpo, h1, h2, h3⟩ | ⟨hpb, rfl, hb⟩
 · have f1 : pR S q = v0.R := by unfold pR; rw [hpb]
   have f2 : pL S q = v0.L := by unfold pL; rw [hpb]
   have f3 : pC S q = pubC s0 v0 := by unfold pC; rw [hpb]
   have f4 : pB S q = true := by unfold pB; rw [hpb]
   refine ⟨ra, rc, la, lc, X, ?_, hb, ?_, ?_, ?_, ?_, ?_⟩
   · rw [<- e5, <- e2, <- e3, <- e4, f1, f2, f3, f4]
   · rw [<- e1, f1]; exact hk
   · rw [<- e5, <- e2, f1, f2]; exact hpo
   · rw [<- e5, f1]; exact h1
   · exact key_ids12 e1.symm (by rw [f1]; exact fun r hr => (h2 r hr).2)
   · rw [<- e2, f2]; exact h3
 · have f1 : pR S q = [] := by unfold pR; rw [hpb]
   have f2 : pL S q = [] := by unfold pL; rw [hpb]
   have f3 : pC S q = 0 := by unfold pC; rw [hpb]
   have f4 : pB S q = false := by unfold pB; rw [hpb]
   have f5 : pR T q = [] := List.length_eq_zero_iff.1 (by rw [<- e5, f1]; rfl)
   refine ⟨none, 0, none, 0, [], ?_, hb, ?_, ?_, ?_, ?_, ?_⟩
   · rw [f5, <- e2, <- e3, <- e4, f2, f3, f4]; rfl
   · rw [f5]
   · rw [f5, <- e2, f2]; exact po_nil _ _
   · rw [f5]; simp
   · rw [f5]; simp
   · rw [<- e2, f2]; simp
theorem PubOutI.uni {S T : List TN} {q : ByteArray} {w w' : World} {e : Ending} (hp : S.map TN.plain = T.map TN.plain) (h : PubOutI S q w e w') : PubUI T q w e w' := by
 obtain ⟨e1, e2, e3, e4⟩ := pub_eqs (q := q) hp
 have e5 : (pR S q).length = (pR T q).length := by have := congrArg List.length e1; simpa using this
 rcases h with ⟨s0, v0, ra, rc, la, lc, X, hpb, rfl, hb, hk, hpo, ⟨h1, h2, h3⟩, hap⟩ | ⟨hpb, rfl, hb⟩
 · have f1 : pR S q = v0.R := by unfold pR; rw [hpb]
   have f2 : pL S q = v0.L := by unfold pL; rw [hpb]
   have f3 : pC S q = pubC s0 v0 := by unfold pC; rw [hpb]
   have f4 : pB S q = true := by unfold pB; rw [hpb]
   refine ⟨ra, rc, la, lc, X, ?_, hb, ?_, ?_, ⟨?_, ?_, ?_⟩, hap⟩
   · rw [<- e5, <- e2, <- e3, <- e4, f1, f2, f3, f4]
   · rw [<- e1, f1]; exact hk
   · rw [<- e5, <- e2, f1, f2]; exact hpo
   · rw [<- e5, f1]; exact h1
   · exact key_ids12 e1.symm (by rw [f1]; exact fun r hr => (h2 r hr).2)
   · rw [<- e2, f2]; exact h3
 · have f1 : pR S q = [] := by unfold pR; rw [hpb]
   have f2 : pL S q = [] := by unfold pL; rw [hpb]
   have f3 : pC S q = 0 := by unfold pC; rw [hpb]
   have f4 : pB S q = false := by unfold pB; rw [hpb]
   have f5 : pR T q = [] := List.length_eq_zero_iff.1 (by rw [<- e5, f1]; rfl)
   refine ⟨none, 0, none, 0, [], ?_, hb, ?_, ?_, ⟨?_, ?_, ?_⟩, by simp [Apt]⟩
   · rw [f5, <- e2, <- e3, <- e4, f2, f3, f4]; rfl
   · rw [f5]
   · rw [f5, <- e2, f2]; exact po_nil _ _
   · rw [f5]; simp
   · rw [f5]; simp
   · rw [<- e2, f2]; simp
theorem sum_one {α : Type} (f : α -> Nat) : ∀ l : List α, sumF9 (fun x => f x + 1) l = sumF9 f l + l.length
 | [] => rfl
 | x :: l => by
   have ih := sum_one f l
   unfold sumF9 at ih ⊢
   rw [List.map_cons, List.sum_cons, List.map_cons, List.sum_cons, ih, List.length_cons]
   omega
theorem sum_le {α : Type} {f g : α -> Nat} (h : ∀ x, f x <= g x) : ∀ l : List α, sumF9 f l <= sumF9 g l
 | [] => Nat.le_refl _
 | x :: l => by
   have ih := sum_le h l
   unfold sumF9 at ih ⊢
   rw [List.map_cons, List.sum_cons, List.map_cons, List.sum_cons]
   have := h x
   omega
theorem sum_uR (R : List RT) : sumF9 uR R = (allTo R R.length).length + R.length := by
 have h1 : sumF9 uR R = sumF9 (fun r : RT => r.ids.length) R + R.length := sum_one _ R
 rw [h1]
 unfold allTo
 rw [List.take_length, List.length_flatMap]
 rfl
theorem uV_is (v : VN) : uV v = useV v + 1 := by
 unfold uV useV
 rw [sum_uR]
 omega
theorem uT_le (t : TN) : uT t <= useT t + 1 := by
 have h1 : sumF9 uS t.S = sumF9 useS t.S + t.S.length := sum_one useS t.S
 have h2 : sumF9 uV t.V = sumF9 useV t.V + t.V.length := by
  have e : uV = fun v => useV v + 1 := funext uV_is
  rw [e]
  exact sum_one useV t.V
 unfold uT useT useSs useVs
 omega
theorem sumT_le (T : List TN) : sumF9 uT T <= useTs T := by
 have h1 := sum_le uT_le T
 have h2 := sum_one useT T
 unfold useTs
 omega
theorem sum_plain {α : Type} {f : α -> Nat} {p : α -> α} (h : ∀ x, f (p x) = f x) (l : List α) : sumF9 f (l.map p) = sumF9 f l := by
 unfold sumF9
 rw [List.map_map]
 exact congrArg List.sum (List.map_congr_left fun x _ => h x)
theorem uT_plain (t : TN) : uT t.plain = uT t := by
 have h2 : ∀ v : VN, uV v.plain = uV v := fun v => by
  show sumF9 uR (v.R.map RT.plain) + v.L.length + 1 = _
  rw [sum_plain (f := uR) (p := RT.plain) (fun _ => rfl)]
  rfl
 show sumF9 uS (t.S.map SN.plain) + sumF9 uV (t.V.map VN.plain) + 1 = _
 rw [sum_plain (f := uS) (p := SN.plain) (fun _ => rfl), sum_plain h2]
 rfl
theorem store_use {S T : List TN} (hp : S.map TN.plain = T.map TN.plain) (h : (useTs T : Int) <= 1048576) : sumF9 uT S <= 4000000 /\ ∀ x ∈ S, sumF9 uS x.S <= 4000000 /\ sumF9 uV x.V <= 4000000 /\ ∀ v ∈ x.V, sumF9 uR v.R <= 4000000 := by
 have h1 : sumF9 uT S <= 4000000 := by
  rw [<- sum_plain uT_plain S, hp, sum_plain uT_plain T]
  have := sumT_le T
  omega
 refine ⟨h1, fun x hx => ?_⟩
 have h2 := sumF9_mem uT S x hx
 have h3 : uT x = sumF9 uS x.S + sumF9 uV x.V + 1 := rfl
 refine ⟨by omega, by omega, fun v hv => ?_⟩
 have h4 := sumF9_mem uV x.V v hv
 have h5 : uV v = sumF9 uR v.R + v.L.length + 1 := rfl
 omega
end Go.Proofs.YtehfjfmfpdgibaaGreatDoor
