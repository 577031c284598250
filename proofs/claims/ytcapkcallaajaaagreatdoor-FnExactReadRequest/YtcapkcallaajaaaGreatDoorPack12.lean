import Derived.Test.YtcapkcallaajaaaGreatDoorPack1
import Derived.Deep.RegionHeld
namespace Go.Proofs.YtcapkcallaajaaaGreatDoor
open Go Go.RowKit
section
variable {P : Program} {ops : Array Oper} {Q : Exit -> Act -> World -> Prop} {md : Region.Mode} {S : World -> Prop} {z : Nat}
end
section
variable {P : Program} {ops : Array Oper} {Q : Exit -> Act -> World -> Prop} {md : Region.Mode} {S : World -> Prop} {z : Nat}
theorem tkH (i : Nat) {oi : Oper} {v : Value} {k : Nat} {d : Array Bool} {a a' : Act} {w : World} (hS : S w) (h : wpAnyH P md ops Q S k (d.setIfInBounds i true) a' w) (hi : ops[i]? = some oi := by rfl)
 (hB : (Region.noSelect ops && Region.free md ops d i && (Region.ready md ops d).contains i && Region.wanted oi (yielded ops a.tmps)) = true := by kernel_rfl)
 (hQ : ∀ c x y, Q (.panic c) (x.put oi.dst v) y -> Q (.panic c) x y := by exact fun _ _ _ h => h)
 (hy : ∀ y, S y -> (execOp a.eval oi).run P y = .ok (.value v) y := by (intro w hSw; (try dsimp only at hSw); (try go_split_ands); go_simp; all_goals with_reducible rfl))
 (ha : a.put oi.dst v = a' := by (change Act.put _ (some _) _ = _; simp only [Act.put, List.setIfInBounds_toArray, List.set_cons_zero, List.set_cons_succ]; first | done | rfl)) : wpAnyH P md ops Q S (k + 1) d a w := by
 subst ha
 simp only [Bool.and_eq_true] at hB
 exact wpAnyH_take hi hB.1.1.1 hB.1.1.2 hB.1.2 hQ (.inl ⟨hB.2, hy⟩) hS h
end
end Go.Proofs.YtcapkcallaajaaaGreatDoor
