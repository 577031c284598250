import Derived.Test.YtjlhmkmhehcmkaaGreatPack2
import Derived.Test.YtjlhmkmhehcmkaaGreatDestroying
import Derived.Test.YtjlhmkmhehcmkaaGreatPack39
namespace Go.Proofs.YtjlhmkmhehcmkaaGreat
open Go.RowKit
def DestIs (w : World) (v : Int) (f : Bool) (T : List RT) (L : List Int) (e : Ending) (w' : World) : Prop := ∃ (ra2 : Option Addr) (n2 rc2 : Nat) (la2 : Option Addr) (l2 lc2 : Nat) (R2 : List RT), e = .returned (.tuple #[.agg #[.slice ra2 n2 rc2, .slice la2 l2 lc2], .int .i64 v, .bool f]) /\ Below w.heap.size w w' /\ RoutesAt w' ra2 R2 /\ R2.length = n2 /\ IntsAt w' la2 L /\ L.length = l2 /\ R2.map RT.key = T.map RT.key /\ ((la2 = none /\ L.length = 0) ∨ ∃ b off, la2 = some ⟨b, off, none⟩)
theorem destroying_is (sd kk n fine : Int) (a ao av ra la : Option Addr) (zl cap ko co kv cv nr rc ln lc kb cb : Nat) (zs os vs L : List Int) (R : List RT) (w : World) (hA : IntsAt w a zs) (hO : IntsAt w ao os) (hV : IntsAt w av vs) (hlz : zs.length = zl) (hlo : os.length = ko * 6) (hlv : vs.length = kv * 5) (hko : ko <= 9223372036854775807) (hkv : kv <= 9223372036854775807) (hP : PlanIs w ra la nr ln R L) (hB : deB sd kk n fine zs os vs ko kv R L = true) (hkb : w.cell? ⟨kb, 0, none⟩ = some (.int .i64 kk)) (hcb : w.heap[cb]? = some (.cells #[.int .i64 n, .slice a zl cap, .slice ao ko co, .slice av kv cv, .int .i64 fine] 43 (0, 0))) :
   Calls Tryz.prog 61 #[.agg #[.slice ra nr rc, .slice la ln lc], .int .i64 sd, .pointer (some ⟨kb, 0, none⟩), .pointer (some ⟨cb, 0, none⟩)] w (DestIs w (deN sd kk n fine zs os vs ko kv R L) (deF sd kk n fine zs os vs ko kv R L) (deR sd kk n fine zs os vs ko kv R L) (deL sd kk n fine zs os vs ko kv R L)) := by
 obtain ⟨h1, h2, h3⟩ := deB_true hB
 have D := de_facts h1 h2 h3
 obtain ⟨p1, p2, p3, p4, p5, p6, p7⟩ := hP
 have DA := destroying_any n fine sd kk a ao av ra la zl cap ko co kv cv nr rc ln lc kb cb zs os vs R L (deS R) (deP sd kk R) (deS R).length (deP sd kk R).length (min kk ((deS R).length : Int)) (pickS sd (deS R).length (min kk ((deS R).length : Int))) w hA hlz hO hV hlo hlv hko hkv (planV_zero h1).1 p3 p1 p4 p2 (by have := D.t; omega) (by rw [p1]; exact p5) p6 p7 rfl rfl rfl rfl rfl rfl D.i D.d D.p D.m D.w hkb hcb
 refine DA.mono ?_
 unfold deN deF deR deL
 rw [hB]
 simp only [cond_true, Bool.true_and]
 rintro e w' ⟨hb, ⟨hz, ra2, n2, rc2, la2, l2, lc2, R2, L2, rfl, q1, q2, q3, q4, q5, q6, _, q8⟩ | ⟨hz, rfl⟩⟩
 · have hw : deW sd kk n fine zs os vs ko kv R L = 0 := hz
   have q6' : L2 = (deQ sd kk R L).2 := q6
   subst q6'
   rw [if_pos hw, if_pos hw, decide_eq_true hw]
   exact ⟨ra2, n2, rc2, la2, l2, lc2, R2, rfl, hb, q1, q2, q3, q4, q5, by rw [q4]; exact q8⟩
 · have hw : ¬ deW sd kk n fine zs os vs ko kv R L = 0 := hz
   rw [if_neg hw, if_neg hw, decide_eq_false hw]
   exact ⟨ra, nr, rc, la, ln, lc, R, rfl, hb, p3.below hb, p1, p4.below hb, p2, rfl, by rw [p2]; exact p6⟩
end Go.Proofs.YtjlhmkmhehcmkaaGreat