import Derived.Test.YtjlhmkmhehcmkaaGreatPack1
import Derived.Test.YtjlhmkmhehcmkaaGreatPack4
import Derived.Test.YtjlhmkmhehcmkaaGreatPack6
import Derived.Test.YtjlhmkmhehcmkaaGreatSpecSched
import Derived.Deep.RegionLaw
namespace Go.Proofs.YtjlhmkmhehcmkaaGreat
open Go.RowKit
set_option maxHeartbeats 1000000 in
theorem l3Ok_any (n fine veh : Int) (a ao av bi : Option Addr) (cap ko co kv cv c2 : Nat) (zs os vs ids : List Int) (w : World) (hA : IntsAt w a zs) (hO : IntsAt w ao os) (hV : IntsAt w av vs) (hI : IntsAt w bi ids) (hlo : os.length = ko * 6) (hlv : vs.length = kv * 5) (hko : ko <= 9223372036854775807) (hkv : kv <= 9223372036854775807) (hli : ids.length <= 9223372036854775807) (hc2 : ids.length <= c2) (v : Bool) (hv : decide (codeV (caseB n zs os vs ko kv fine) n zs os vs ko kv veh ids = 0) = v) :
   Calls Tryz.prog 53 #[.agg #[.int .i64 n, .slice a zs.length cap, .slice ao ko co, .slice av kv cv, .int .i64 fine], .agg #[.int .i64 veh, .slice bi ids.length c2]] w fun e w' => e = .returned (.bool v) /\ Below w.heap.size w w' := by
 have HA : Hid (IntsAt w a zs) := hA
 have HO : Hid (IntsAt w ao os) := hO
 have HV : Hid (IntsAt w av vs) := hV
 have HI : Hid (IntsAt w bi ids) := hI
 have HLO : Hid _ := hlo
 have HLV : Hid _ := hlv
 clear hA hO hV hI hlo hlv
 have HVV : Hid (decide (codeV (caseB n zs os vs ko kv fine) n zs os vs ko kv veh ids = 0) = v) := hv
 clear hv
 have HC0 : Hid (CR w ((w.alloc (.cells #[Value.int .i64 n, Value.slice a zs.length cap, Value.slice ao ko co, Value.slice av kv cv, Value.int .i64 fine] 43)).alloc (.cells #[Value.int .i64 veh, Value.slice bi ids.length c2] 64)) _ _) := CR.new w _ _
 go_enter Tryz.func53, Tryz.ntmps53
 obtain ⟨c0, c1, c2', c3, c4⟩ := cells5 HC0.out.2.1
 obtain ⟨d0, d1⟩ := cells2 HC0.out.2.2
 go_wp2_with fail
 clear c0 c1 c2' c3 c4 d0 d1
 refine (specSchedule_any n fine veh a ao av bi cap ko co kv cv c2 zs os vs ids _ (HA.out.below HC0.out.1) (HO.out.below HC0.out.1) (HV.out.below HC0.out.1) (HI.out.below HC0.out.1) HLO.out HLV.out hko hkv hli hc2).mono ?_
 rintro e w2 ⟨hb, ⟨hf, rfl⟩ | ⟨hf, g, c, _, rfl, _⟩⟩
 · have HB2 : Hid (Below w.heap.size w w2) := HC0.out.1.trans (hb.mono HC0.out.1.size)
   have HVF : Hid (v = false) := HVV.out.symm.trans (decide_eq_false hf)
   generalize codeV (caseB n zs os vs ko kv fine) n zs os vs ko kv veh ids = r at *
   have hfb : (r == 0) = false := by simp [hf]
   clear hb hf HC0 HVV
   go_wp2
   go_ret
   exact ⟨ret_bool HVF.out.symm, HB2.out⟩
 · have HB2 : Hid (Below w.heap.size w w2) := HC0.out.1.trans (hb.mono HC0.out.1.size)
   have HVF : Hid (v = true) := HVV.out.symm.trans (decide_eq_true hf)
   clear hb hf HC0 HVV
   generalize homeV n zs (rosOf os ko ids) ids.length (fnd5F vs kv veh 1) (fnd5F vs kv veh 3) = hm
   go_wp2
   go_ret
   exact ⟨ret_bool HVF.out.symm, HB2.out⟩
end Go.Proofs.YtjlhmkmhehcmkaaGreat
namespace Go.Proofs.YtjlhmkmhehcmkaaGreat
open Go.RowKit
theorem inf_parts {E : TypeId} {z : Value} {size bytes : Nat} (h : (Tryz.prog.info? E).map (fun i => (i.zero, i.size, i.bytes)) = some (some z, size, bytes)) : ∃ i0, Tryz.prog.info? E = some i0 /\ i0.zero = some z /\ i0.size = size /\ i0.bytes = bytes := by
 cases hq : Tryz.prog.info? E with
 | none => rw [hq] at h; simp at h
 | some i0 =>
   rw [hq] at h
   simp only [Option.map_some, Option.some.injEq, Prod.mk.injEq] at h
   exact ⟨i0, rfl, h.1, h.2.1, h.2.2⟩
theorem add_plain (b off j : Nat) : (⟨b, off, none⟩ : Addr).add j = ⟨b, off + j, none⟩ := by unfold Addr.add; split <;> simp_all
theorem append_vals {T E : TypeId} {z : Value} {size bytes : Nat} (ht : Tryz.prog.underlying T = some (.slice E)) (hinf : (Tryz.prog.info? E).map (fun i => (i.zero, i.size, i.bytes)) = some (some z, size, bytes)) (hzs : z.cells.size = size) (hsz : 0 < size)
   (w : World) {ops : Array Oper} {rest : List Oper} {o : Oper} {a : Act} {Q : Exit -> Act -> World -> Prop}
   (hg : o.guard = none) (s x : Operand) (hop : o.op = Op.call { callee := Callee.builtin Builtin.append, args := #[s, x], argTypes := #[T, T] })
   (base : Nat) (v : Value) (k : Nat) (xs : List Value) (hs : a.eval s = v) (hown : w.ownsRow base E size v k xs) (b off m c : Nat) (ys : List Value) (hx : a.eval x = .slice (some ⟨b, off, none⟩) m c)
   (hy : ys.length = m * size) (hc : ∀ j u, ys[j]? = some u -> w.cell? ⟨b, off + j, none⟩ = some u) (h1 : ∀ u ∈ ys, u.oneCell' = true) (h63 : k + m <= 70368744177663) (hbytes : (k + m) * bytes <= 140737488355328) (hb : base <= w.heap.size)
   (hK : ∀ v' w', w'.ownsRow base E size v' (k + m) (xs ++ ys) -> w.grownBy w' v.ownBlock -> (v'.ownBlock = v.ownBlock ∨ v'.ownBlock = some w.heap.size) -> (v' = .slice none 0 0 ↔ v = .slice none 0 0 /\ m = 0) -> wpList Tryz.prog ops Q rest (a.put o.dst v') w') :
   wpList Tryz.prog ops Q (o :: rest) a w := by
 obtain ⟨i0, hi, hz0, hz1, hz2⟩ := inf_parts hinf
 have hnews : ∀ j u, ys[j]? = some u -> w.cell? ((⟨b, off, none⟩ : Addr).add j) = some u := fun j u hu => by rw [add_plain]; exact hc j u hu
 obtain ⟨v', w', hrun, r1, r2, r3⟩ := run_append_own (P := Tryz.prog) w base T o.type _ i0 _ size bytes ht hi hz0 hz1 hz2 hzs hsz v k xs hown ⟨b, off, none⟩ m c ys hy hnews h1 (by unfold maxLen; omega) hbytes hb
 have r4 := append_blk (P := Tryz.prog) w base T o.type _ i0 _ size bytes ht hi hz0 hz1 hz2 v k xs hown ⟨b, off, none⟩ m c ys hy hnews h1 (by unfold maxLen; omega) hbytes hrun
 exact wpList_run v' hg (exec_app s x _ v _ hop hs hx hrun) (hK v' w' r1 r2 r4 r3)
theorem step_append_vals {T E : TypeId} {z : Value} {size bytes : Nat} (ht : Tryz.prog.underlying T = some (.slice E)) (hinf : (Tryz.prog.info? E).map (fun i => (i.zero, i.size, i.bytes)) = some (some z, size, bytes)) (hzs : z.cells.size = size) (hsz : 0 < size)
   {ops : Array Oper} {o : Oper} {a : Act} {w : World} {K : Act -> World -> Prop} {Q : Exit -> Act -> World -> Prop} {Els : Prop}
   (hg : o.guard = none) (s x : Operand) (hop : o.op = Op.call { callee := Callee.builtin Builtin.append, args := #[s, x], argTypes := #[T, T] })
   (base : Nat) (v : Value) (k : Nat) (xs : List Value) (hs : a.eval s = v) (hown : w.ownsRow base E size v k xs) (b off m c : Nat) (ys : List Value) (hx : a.eval x = .slice (some ⟨b, off, none⟩) m c)
   (hy : ys.length = m * size) (hc : ∀ j u, ys[j]? = some u -> w.cell? ⟨b, off + j, none⟩ = some u) (h1 : ∀ u ∈ ys, u.oneCell' = true) (h63 : k + m <= 70368744177663) (hbytes : (k + m) * bytes <= 140737488355328) (hb : base <= w.heap.size)
   (hK : ∀ v' w', w'.ownsRow base E size v' (k + m) (xs ++ ys) -> w.grownBy w' v.ownBlock -> (v'.ownBlock = v.ownBlock ∨ v'.ownBlock = some w.heap.size) -> (v' = .slice none 0 0 ↔ v = .slice none 0 0 /\ m = 0) -> K (a.put o.dst v') w') :
   if Region.wanted o (yielded ops a.tmps) = true then Oper.wp Tryz.prog o a w K Q else Els := by
 have hw : Region.wanted o (yielded ops a.tmps) = true := by simp [Region.wanted, hg]
 rw [if_pos hw]
 obtain ⟨i0, hi, hz0, hz1, hz2⟩ := inf_parts hinf
 have hnews : ∀ j u, ys[j]? = some u -> w.cell? ((⟨b, off, none⟩ : Addr).add j) = some u := fun j u hu => by rw [add_plain]; exact hc j u hu
 obtain ⟨v', w', hrun, r1, r2, r3⟩ := run_append_own (P := Tryz.prog) w base T o.type _ i0 _ size bytes ht hi hz0 hz1 hz2 hzs hsz v k xs hown ⟨b, off, none⟩ m c ys hy hnews h1 (by unfold maxLen; omega) hbytes hb
 have r4 := append_blk (P := Tryz.prog) w base T o.type _ i0 _ size bytes ht hi hz0 hz1 hz2 v k xs hown ⟨b, off, none⟩ m c ys hy hnews h1 (by unfold maxLen; omega) hbytes hrun
 unfold Oper.wp
 simp [execOp, hop, resolve, invoke, builtin, hs, hx, hrun, Result.andThen]
 exact hK _ _ r1 r2 r4 r3
end Go.Proofs.YtjlhmkmhehcmkaaGreat
namespace Go.Proofs.YtjlhmkmhehcmkaaGreat
open Go.RowKit
theorem CRR.grown {w W W' : World} {cs rs ts : Array Value} {row : Option Nat} (h : CRR w W cs rs ts) (hg : W.grownBy W' row) (hlt : ∀ g, row = some g -> w.heap.size + 2 < g) : CRR w W' cs rs ts :=
 ⟨⟨h.1.1.grown hg h.1.1.size (fun k e => by have := hlt k e; omega), (hg.block _ (row_lt h.1.2.1) (fun e => by have := hlt _ e.symm; omega)).trans h.1.2.1, (hg.block _ (row_lt h.1.2.2) (fun e => by have := hlt _ e.symm; omega)).trans h.1.2.2⟩, (hg.block _ (row_lt h.2) (fun e => by have := hlt _ e.symm; omega)).trans h.2⟩
theorem CRR.put {w W : World} {cs rs ts : Array Value} (h : CRR w W cs rs ts) {k i : Nat} {v : Value} (hk : w.heap.size + 2 < k) : CRR w (W.setCell ⟨k, i, none⟩ v) cs rs ts :=
 ⟨h.1.set (by omega), row_set' h.2 (by omega)⟩
theorem CRR.drew {w W : World} {cs rs ts : Array Value} (h : CRR w W cs rs ts) : CRR w W.drew cs rs ts := h.below (Below.refl _ _).drew
def OX (w W : World) (B ko : Nat) (cs rs ts : Array Value) (veh : Int) (sl : Value) (ys : List Int) : Prop :=
 CRR w W cs rs ts /\ W.heap[ko]? = some (.cells #[.int .i64 veh, sl] 64 (0, 0)) /\ B <= ko /\ w.heap.size + 2 < B /\ W.ownsRow B 2 1 sl ys.length (ys.map (Value.int .i64))
theorem OX.c {w W : World} {B ko : Nat} {cs rs ts : Array Value} {veh : Int} {sl : Value} {ys : List Int} (h : OX w W B ko cs rs ts veh sl ys) : CRR w W cs rs ts := h.1
theorem OX.b {w W : World} {B ko : Nat} {cs rs ts : Array Value} {veh : Int} {sl : Value} {ys : List Int} (h : OX w W B ko cs rs ts veh sl ys) : Below w.heap.size w W := h.1.1.1
theorem OX.o {w W : World} {B ko : Nat} {cs rs ts : Array Value} {veh : Int} {sl : Value} {ys : List Int} (h : OX w W B ko cs rs ts veh sl ys) : W.ownsRow B 2 1 sl ys.length (ys.map (Value.int .i64)) := h.2.2.2.2
theorem OX.below {w W W' : World} {B ko : Nat} {cs rs ts : Array Value} {veh : Int} {sl : Value} {ys : List Int} (h : OX w W B ko cs rs ts veh sl ys) (hb : Below W.heap.size W W') : OX w W' B ko cs rs ts veh sl ys :=
 ⟨h.1.below hb, below_row hb (row_lt h.2.1) h.2.1, h.2.2.1, h.2.2.2.1, owns_below h.2.2.2.2 hb⟩
theorem OX.drew {w W : World} {B ko : Nat} {cs rs ts : Array Value} {veh : Int} {sl : Value} {ys : List Int} (h : OX w W B ko cs rs ts veh sl ys) : OX w W.drew B ko cs rs ts veh sl ys := h.below (Below.refl _ _).drew
theorem own_ne {w : World} {base k ko : Nat} {v : Value} {size : Nat} {xs : List Value} {cs : Array Value} (h : w.ownsRow base 2 size v k xs) (hk : w.heap[ko]? = some (.cells cs 64 (0, 0))) : v.ownBlock ≠ some ko := by
 intro e
 obtain ⟨_, ⟨rfl, _⟩ | ⟨g, cap, cur, rfl, _, h4, _⟩⟩ := h
 · cases e
 · have : g = ko := by simpa [Value.ownBlock] using e
   subst this
   rw [h4] at hk
   simp at hk
theorem OX.grow {w W W' : World} {B ko : Nat} {cs rs ts : Array Value} {veh : Int} {sl sl' : Value} {ys ys' : List Int} (h : OX w W B ko cs rs ts veh sl ys) (hg : W.grownBy W' sl.ownBlock) (ho : W'.ownsRow B 2 1 sl' ys'.length (ys'.map (Value.int .i64))) :
   OX w ((W'.setCell ⟨ko, 1, none⟩ sl')) B ko cs rs ts veh sl' ys' := by
 have hk : W'.heap[ko]? = some (.cells #[.int .i64 veh, sl] 64 (0, 0)) := (hg.block _ (row_lt h.2.1) (fun e => own_ne h.2.2.2.2 h.2.1 e.symm)).trans h.2.1
 refine ⟨(h.1.grown hg (fun g e => ?_)).put ?_, ?_, h.2.2.1, h.2.2.2.1, ?_⟩
 · have := (h.2.2.2.2.lt g e).1; have := h.2.2.2.1; omega
 · have := h.2.2.1; have := h.2.2.2.1; omega
 · have := heap_setCell_same W' ko 1 _ _ sl' hk
   simpa using this
 · exact ownsRow_setCell_other ho (own_ne ho hk) sl'
theorem own0a (w1 : World) : ((w1.alloc (.cells #[] 2)).drew).ownsRow w1.heap.size 2 1 (.slice (some ⟨w1.heap.size, 0, none⟩) 0 0) 0 (([] : List Int).map (Value.int .i64)) :=
 owns_below (World.ownsRow_made w1 #[] 0 (Nat.le_refl _) (by unfold maxLen; omega) (by simp)) (Below.refl _ _).drew
theorem own0b (w1 : World) (o : Obj) : (((w1.alloc (.cells #[] 2)).alloc o).drew).ownsRow w1.heap.size 2 1 (.slice (some ⟨w1.heap.size, 0, none⟩) 0 0) 0 (([] : List Int).map (Value.int .i64)) :=
 owns_below (World.ownsRow_made w1 #[] 0 (Nat.le_refl _) (by unfold maxLen; omega) (by simp)) ((Below.refl _ _).alloc (Nat.le_refl _) _).drew
theorem own0c (w1 : World) (o : Obj) : (((w1.alloc o).alloc (.cells #[] 2)).drew).ownsRow w1.heap.size 2 1 (.slice (some ⟨w1.heap.size + 1, 0, none⟩) 0 0) 0 (([] : List Int).map (Value.int .i64)) := by
 have := owns_below (World.ownsRow_made (base := w1.heap.size) (e := 2) (size := 1) (w1.alloc o) #[] 0 (by simp) (by unfold maxLen; omega) (by simp)) (Below.refl _ _).drew
 simpa using this
theorem alloc_size (w1 : World) (o : Obj) : (w1.alloc o).heap.size = w1.heap.size + 1 := by simp
theorem OX.newa {w w1 w' : World} {cs rs ts : Array Value} {veh : Int} {sl : Value} {ys : List Int} {o : Obj} (h : CRR w w1 cs rs ts) (hg : ((w1.alloc o).drew).grownBy w' (some w1.heap.size)) (ho : w'.ownsRow w1.heap.size 2 1 sl ys.length (ys.map (Value.int .i64))) :
   OX w (w'.alloc (.cells #[.int .i64 veh, sl] 64)) w1.heap.size w'.heap.size cs rs ts veh sl ys :=
 ⟨(((h.alloc o).drew).grown hg (fun g e => by cases e; exact h.big)).alloc _, heap_alloc_new _ _, by have := hg.size; have e := alloc_size w1 o; have : (w1.alloc o).drew.heap.size = w1.heap.size + 1 := e; omega, h.big, ho.alloc _⟩
theorem OX.newb {w w1 w' : World} {cs rs ts : Array Value} {veh : Int} {sl z0 z1 : Value} {ys : List Int} {o : Obj} (h : CRR w w1 cs rs ts) (hg : (((w1.alloc o).alloc (.cells #[z0, z1] 64)).drew).grownBy w' (some w1.heap.size)) (ho : w'.ownsRow w1.heap.size 2 1 sl ys.length (ys.map (Value.int .i64))) :
   OX w ((w'.setCell ⟨w1.heap.size + 1, 0, none⟩ (.int .i64 veh)).setCell ⟨w1.heap.size + 1, 1, none⟩ sl) w1.heap.size (w1.heap.size + 1) cs rs ts veh sl ys := by
 have hk0 : (((w1.alloc o).alloc (.cells #[z0, z1] 64)).drew).heap[w1.heap.size + 1]? = some (.cells #[z0, z1] 64 (0, 0)) := by
   have := heap_alloc_new (w1.alloc o) (.cells #[z0, z1] 64)
   rw [alloc_size] at this
   exact this
 have hk : w'.heap[w1.heap.size + 1]? = some (.cells #[z0, z1] 64 (0, 0)) := (hg.block _ (row_lt hk0) (fun e => by simp at e)).trans hk0
 have hb := h.big
 have s1 := heap_setCell_same w' (w1.heap.size + 1) 0 _ _ (.int .i64 veh) hk
 have s2 := heap_setCell_same _ (w1.heap.size + 1) 1 _ _ sl s1
 refine ⟨((((h.alloc o).alloc _).drew.grown hg (fun g e => by cases e; exact hb)).put (by omega)).put (by omega), by simpa using s2, by omega, hb, ?_⟩
 exact ownsRow_setCell_other (ownsRow_setCell_other ho (own_ne ho hk) _) (own_ne ho hk) _
theorem OX.newc {w w1 w' : World} {cs rs ts : Array Value} {veh : Int} {sl z0 z1 : Value} {ys : List Int} {o : Obj} (h : CRR w w1 cs rs ts) (hg : (((w1.alloc (.cells #[z0, z1] 64)).alloc o).drew).grownBy w' (some (w1.heap.size + 1))) (ho : w'.ownsRow w1.heap.size 2 1 sl ys.length (ys.map (Value.int .i64))) :
   OX w ((w'.setCell ⟨w1.heap.size, 0, none⟩ (.int .i64 veh)).setCell ⟨w1.heap.size, 1, none⟩ sl) w1.heap.size w1.heap.size cs rs ts veh sl ys := by
 have hk0 : (((w1.alloc (.cells #[z0, z1] 64)).alloc o).drew).heap[w1.heap.size]? = some (.cells #[z0, z1] 64 (0, 0)) := heap_alloc2_old _ _ _
 have hk : w'.heap[w1.heap.size]? = some (.cells #[z0, z1] 64 (0, 0)) := (hg.block _ (row_lt hk0) (fun e => by simp at e)).trans hk0
 have hb := h.big
 have s1 := heap_setCell_same w' w1.heap.size 0 _ _ (.int .i64 veh) hk
 have s2 := heap_setCell_same _ w1.heap.size 1 _ _ sl s1
 refine ⟨((((h.alloc _).alloc o).drew.grown hg (fun g e => by cases e; omega)).put (by omega)).put (by omega), by simpa using s2, by omega, hb, ?_⟩
 exact ownsRow_setCell_other (ownsRow_setCell_other ho (own_ne ho hk) _) (own_ne ho hk) _
theorem rowb {w1 w2 : World} {o : Obj} {cs : Array Value} {T : TypeId} (hg : (((w1.alloc o).alloc (.cells cs T)).drew).grownBy w2 (some w1.heap.size)) : w2.heap[w1.heap.size + 1]? = some (.cells cs T (0, 0)) := by
 have hk0 : (((w1.alloc o).alloc (.cells cs T)).drew).heap[w1.heap.size + 1]? = some (.cells cs T (0, 0)) := by
   have := heap_alloc_new (w1.alloc o) (.cells cs T)
   rw [alloc_size] at this
   exact this
 exact (hg.block _ (row_lt hk0) (fun e => by simp at e)).trans hk0
theorem rowc {w1 w2 : World} {o : Obj} {cs : Array Value} {T : TypeId} (hg : (((w1.alloc (.cells cs T)).alloc o).drew).grownBy w2 (some (w1.heap.size + 1))) : w2.heap[w1.heap.size]? = some (.cells cs T (0, 0)) := by
 have hk0 : (((w1.alloc (.cells cs T)).alloc o).drew).heap[w1.heap.size]? = some (.cells cs T (0, 0)) := heap_alloc2_old _ _ _
 exact (hg.block _ (row_lt hk0) (fun e => by simp at e)).trans hk0
theorem own_len {w : World} {base n : Nat} {v : Value} {e : TypeId} {xs : List Int} (h : w.ownsRow base e 1 v (0 + n) (([] ++ xs).map (Value.int .i64))) (hl : xs.length = n) : w.ownsRow base e 1 v xs.length (xs.map (Value.int .i64)) := by
 rw [Nat.zero_add] at h
 rw [hl]
 exact h
theorem own_len2 {w : World} {base n m : Nat} {v : Value} {e : TypeId} {xs ys : List Int} (h : w.ownsRow base e 1 v (n + m) ((xs ++ ys).map (Value.int .i64))) (hx : xs.length = n) (hy : ys.length = m) : w.ownsRow base e 1 v (xs ++ ys).length ((xs ++ ys).map (Value.int .i64)) := by
 rw [List.length_append, hx, hy]
 exact h
theorem own_k {w : World} {base n : Nat} {v : Value} {e : TypeId} {xs : List Int} (h : w.ownsRow base e 1 v xs.length (xs.map (Value.int .i64))) (hl : xs.length = n) : w.ownsRow base e 1 v n (xs.map (Value.int .i64)) := by
 rw [<- hl]
 exact h
theorem own_bd {w : World} {base k g c : Nat} {e : TypeId} {size : Nat} {xs : List Value} (h : w.ownsRow base e size (.slice (some ⟨g, 0, none⟩) k c) k xs) : k <= c /\ k <= 9223372036854775807 := by
 obtain ⟨_, ⟨h1, _⟩ | ⟨g', cap, cur, h2, _, _, h5, h6, _⟩⟩ := h
 · cases h1
 · simp at h2
   obtain ⟨rfl, rfl⟩ := h2
   unfold maxLen at h6
   exact ⟨h5, by omega⟩
theorem rc_of {c : Bool} {n : Int} {zs os vs : List Int} {ko kv : Nat} {veh : Int} {ids : List Int} (h : codeV c n zs os vs ko kv veh ids = 0) : rcV n zs os vs ko kv veh ids = rideV n zs (rosOf os ko ids) ids.length (fnd5F vs kv veh 1) := by
 have hc := code_case h
 rw [hc] at h
 exact rcV_yes h
theorem chD_yes {ch c : Bool} {n : Int} {zs os vs : List Int} {ko kv : Nat} {veh : Int} {ids ids' : List Int} (h : ch = true) (h1 : codeV c n zs os vs ko kv veh ids = 0) (h2 : codeV c n zs os vs ko kv veh ids' = 0) :
   chD ch n zs os vs ko kv veh ids ids' = rideV n zs (rosOf os ko ids') ids'.length (fnd5F vs kv veh 1) - rideV n zs (rosOf os ko ids) ids.length (fnd5F vs kv veh 1) := by
 subst h
 unfold chD
 rw [if_pos rfl, rc_of h1, rc_of h2]
theorem keepB {w1 X : World} {b o : Nat} {v : Value} (hc : w1.cell? ⟨b, o, none⟩ = some v) (hb : Below w1.heap.size w1 X) : X.cell? ⟨b, o, none⟩ = some v := by
 rw [hb.cell (p := ⟨b, o, none⟩) (block_lt_of_cell hc)]; exact hc
theorem ints_take {W : World} {a : Option Addr} {ids : List Int} (h : IntsAt W a ids) (i : Nat) : IntsAt W a (ids.take i) := by
 intro j hj
 simp at hj
 obtain ⟨b, off, e, hc⟩ := h j (by omega)
 refine ⟨b, off, e, hc.trans ?_⟩
 simp only [List.getD, List.getElem?_take]
 rw [if_pos (by omega)]
theorem ints_drop {W : World} {b off : Nat} {ids : List Int} (h : IntsAt W (some ⟨b, off, none⟩) ids) (i : Nat) : IntsAt W (some ⟨b, off + i, none⟩) (ids.drop i) := by
 intro j hj
 simp at hj
 obtain ⟨b', off', e, hc⟩ := h (i + j) (by omega)
 simp at e
 obtain ⟨rfl, rfl⟩ := e
 refine ⟨b, off + i, rfl, ?_⟩
 rw [Nat.add_assoc, hc]
 simp [List.getD, List.getElem?_drop]
theorem ints_cut {W : World} {b off : Nat} {ids : List Int} (h : IntsAt W (some ⟨b, off, none⟩) ids) (i c2 : Nat) (hc : ids.length <= c2) : IntsAt W (if c2 = i then some ⟨b, off, none⟩ else some ⟨b, off + i, none⟩) (ids.drop i) := by
 by_cases e : c2 = i
 · rw [if_pos e, List.drop_eq_nil_of_le (by omega)]
   intro j hj
   simp at hj
 · rw [if_neg e]
   exact ints_drop h i
theorem cut_some (b off i c2 : Nat) : ∃ b' off', (if c2 = i then some (⟨b, off, none⟩ : Addr) else some ⟨b, off + i, none⟩) = some ⟨b', off', none⟩ := by
 split
 · exact ⟨_, _, rfl⟩
 · exact ⟨_, _, rfl⟩
theorem OX.keep {w W W' : World} {B ko : Nat} {cs ts : Array Value} {r0 r1 : Value} {veh : Int} {sl : Value} {ys : List Int} (h : OX w W B ko cs #[r0, r1] ts veh sl ys) (hg : W.grownBy W' sl.ownBlock) :
   W'.cell? ⟨w.heap.size + 1, 1, none⟩ = some r1 /\ W'.cell? ⟨ko, 1, none⟩ = some sl /\ (∀ i, W'.frozen? ⟨ko, i, none⟩ = false) := by
 have hk : W'.heap[ko]? = some (.cells #[.int .i64 veh, sl] 64 (0, 0)) := (hg.block _ (row_lt h.2.1) (fun e => own_ne h.2.2.2.2 h.2.1 e.symm)).trans h.2.1
 have hc := (h.1.grown hg (fun g e => by have := (h.2.2.2.2.lt g e).1; have := h.2.2.2.1; omega)).1.2.2
 exact ⟨(cells2 hc).2, (cells2 hk).2, fun i => frozen_of_row _ _ i _ _ hk⟩
theorem OX.size {w W : World} {B ko : Nat} {cs rs ts : Array Value} {veh : Int} {sl : Value} {ys : List Int} (h : OX w W B ko cs rs ts veh sl ys) : B <= W.heap.size := by
 have := h.2.2.1
 have := row_lt h.2.1
 omega
theorem ox9 {w W : World} {B ko : Nat} {c0 c1 c2 c3 c4 r0 r1 : Value} {ts : Array Value} {veh : Int} {sl : Value} {ys : List Int} (h : OX w W B ko #[c0, c1, c2, c3, c4] #[r0, r1] ts veh sl ys) :
   W.cell? ⟨w.heap.size, 0, none⟩ = some c0 /\ W.cell? ⟨w.heap.size, 1, none⟩ = some c1 /\ W.cell? ⟨w.heap.size, 2, none⟩ = some c2 /\ W.cell? ⟨w.heap.size, 3, none⟩ = some c3 /\ W.cell? ⟨w.heap.size, 4, none⟩ = some c4 /\ W.cell? ⟨w.heap.size + 1, 0, none⟩ = some r0 /\ W.cell? ⟨w.heap.size + 1, 1, none⟩ = some r1 /\ W.cell? ⟨ko, 0, none⟩ = some (.int .i64 veh) /\ W.cell? ⟨ko, 1, none⟩ = some sl := by
 obtain ⟨k0, k1, k2, k3, k4⟩ := cells5 h.1.1.2.1
 obtain ⟨k5, k6⟩ := cells2 h.1.1.2.2
 obtain ⟨k7, k8⟩ := cells2 h.2.1
 exact ⟨k0, k1, k2, k3, k4, k5, k6, k7, k8⟩
theorem ox9s {w W : World} {B ko : Nat} {c0 c1 c2 c3 c4 r0 r1 : Value} {ts : Array Value} {veh : Int} {sl : Value} {ys : List Int} (h : OX w W B ko #[c0, c1, c2, c3, c4] #[r0, r1] ts veh sl ys) (u1 u2 : Value) :
   (fun X : World => X.cell? ⟨w.heap.size, 0, none⟩ = some c0 /\ X.cell? ⟨w.heap.size, 1, none⟩ = some c1 /\ X.cell? ⟨w.heap.size, 2, none⟩ = some c2 /\ X.cell? ⟨w.heap.size, 3, none⟩ = some c3 /\ X.cell? ⟨w.heap.size, 4, none⟩ = some c4 /\ X.cell? ⟨w.heap.size + 1, 0, none⟩ = some r0 /\ X.cell? ⟨w.heap.size + 1, 1, none⟩ = some r1 /\ X.cell? ⟨ko, 0, none⟩ = some (.int .i64 veh) /\ X.cell? ⟨ko, 1, none⟩ = some sl) ((W.setCell ⟨w.heap.size + 1 + 1, 0, none⟩ u1).setCell ⟨w.heap.size + 1 + 1, 1, none⟩ u2) := by
 have hc := h.1.set u1 u2
 obtain ⟨k0, k1, k2, k3, k4, k5, k6⟩ := cr7 hc
 obtain ⟨k7, k8⟩ := cells2 h.2.1
 have hne : ko ≠ w.heap.size + 1 + 1 := by have := h.2.2.1; have := h.2.2.2.1; omega
 exact ⟨k0, k1, k2, k3, k4, k5, k6, keep_set (keep_set k7 hne) hne, keep_set (keep_set k8 hne) hne⟩
theorem own_sh {w : World} {base k n : Nat} {v : Value} {e : TypeId} {size : Nat} {xs : List Value} (h : w.ownsRow base e size v k xs) (hne : v ≠ .slice none 0 0) (hk : k = n) : ∃ g c, v = .slice (some ⟨g, 0, none⟩) n c := by
 subst hk
 rcases own_shape h with h1 | h1
 · exact absurd h1 hne
 · exact h1
theorem grown_keep2 {w W w2 : World} {row : Option Nat} {cs ts : Array Value} {r0 r1 : Value} (hg : W.grownBy w2 row) (h : CRR w W cs #[r0, r1] ts) (hr : ∀ g, row = some g -> w.heap.size + 2 < g) : w2.cell? ⟨w.heap.size + 1, 0, none⟩ = some r0 /\ w2.cell? ⟨w.heap.size + 1, 1, none⟩ = some r1 := cells2 (h.grown hg hr).1.2.2
end Go.Proofs.YtjlhmkmhehcmkaaGreat
namespace Go.Proofs.YtjlhmkmhehcmkaaGreat
open Go.RowKit
theorem PW.cut {w W w4 : World} {lv ov : Value} {L O C : List Int} {g c : Nat} (h : PW w W w.heap.size lv ov L O) (hb : Below W.heap.size W w4) (ho : w4.ownsRow W.heap.size 2 1 (.slice (some ⟨g, 0, none⟩) C.length c) C.length (C.map (Value.int .i64))) : PW w w4 w.heap.size (.slice (some ⟨g, 0, none⟩) C.length c) ov C O := by
 refine ⟨h.b.trans (hb.mono h.b.size), ⟨Nat.le_refl _, Nat.le_trans h.hB.2 hb.size⟩, owns_base ho h.hB.2, owns_below h.o hb, ?_, ⟨g, c, rfl⟩, h.so⟩
 intro e
 have h1 := (ho.lt g rfl).1
 have h2 := (h.o.lt g (by rw [<- e]; rfl)).2
 omega
theorem PW.lput {w W w4 : World} {B : Nat} {lv ov lv' : Value} {L O : List Int} {x : Int} {o : Obj} (h : PW w W B lv ov L O) (hown : w4.ownsRow B 2 1 lv' (L.length + 1) ((L ++ [x]).map (Value.int .i64))) (hg : (W.alloc o).grownBy w4 lv.ownBlock) (hbk : lv'.ownBlock = lv.ownBlock ∨ lv'.ownBlock = some (W.alloc o).heap.size) (hn : lv' = .slice none 0 0 ↔ lv = .slice none 0 0 /\ 1 = 0) : PW w w4 B lv' ov (L ++ [x]) O := by
 have hA : Below w.heap.size w (W.alloc o) := h.b.alloc h.b.size _
 have hlt : ∀ g, ov.ownBlock = some g -> g < W.heap.size := fun g e => (h.o.lt g e).2
 refine ⟨hA.grown hg hA.size (fun k e => by have := (h.l.lt k e).1; have := h.hB.1; omega), ⟨h.hB.1, Nat.le_trans h.hB.2 (Nat.le_trans (by simp) hg.size)⟩, ?_, (h.o.alloc o).kept hg (.inr h.ne.symm), ?_, ?_, h.so⟩
 · rw [List.length_append]; exact hown
 · rcases hbk with e | e
   · rw [e]; exact h.ne
   · rw [e]
     intro e2
     have := hlt _ e2.symm
     simp at this
     omega
 · rw [List.length_append]
   obtain ⟨g, c, e⟩ := h.sl
   exact own_sm hown (not_nil hn ⟨g, _, c, e⟩)
theorem pick_step {K i : Nat} {L : List Int} {s : Int} (h : i < K) : pkL (K - i) L s = (L.getD (pkAt (randV s) L.length) 0 :: (pkL (K - (i + 1)) (remL L (pkAt (randV s) L.length)) (randV s)).1, (pkL (K - (i + 1)) (remL L (pkAt (randV s) L.length)) (randV s)).2) := by
 rw [show K - i = (K - (i + 1)) + 1 by omega]
 rfl
theorem pick_nums (s : Int) {D : Nat} (h : 0 < D) : ∃ S : Nat, randV s = S /\ S <= 2147483647 /\ (S : Int) / 65536 % (D : Int) = (pkAt (randV s) D : Nat) /\ pkAt (randV s) D < D := by
 have h1 := inB_true (randV_in s)
 refine ⟨(randV s).toNat, by omega, by omega, ?_, pkAt_lt h⟩
 rw [<- pkAt_is h]
 congr 2
 omega
theorem PW.new2 {w W : World} {lv ov : Value} {L : List Int} (ho : W.ownsRow w.heap.size 2 1 lv L.length (L.map (Value.int .i64))) (hb : Below w.heap.size w W) (hn : lv ≠ .slice none 0 0) (hx : W.ownsRow w.heap.size 2 1 ov 0 (([] : List Int).map (Value.int .i64))) (hm : ov ≠ .slice none 0 0) (hne : lv.ownBlock ≠ ov.ownBlock) : PW w W w.heap.size lv ov L [] :=
 ⟨hb, ⟨Nat.le_refl _, hb.size⟩, ho, hx, hne, own_sm ho hn, own_sm hx hm⟩
set_option maxHeartbeats 2000000 in
theorem specPicked_any (s n k : Int) (w : World) :
   Calls Tryz.prog 23 #[.int .i64 s, .int .i64 n, .int .i64 k] w fun e w' => ∃ sl, e = .returned (.tuple #[sl, .int .i64 (pickS s n k)]) /\ Below w.heap.size w w' /\ w'.ownsRow w.heap.size 2 1 sl (pickV s n k).length ((pickV s n k).map (Value.int .i64)) := by
 have OB : Hid (Below w.heap.size w (w.alloc (.cells #[] 2))) := (Below.refl _ _).alloc (Nat.le_refl _) _
 have ON : Hid ((w.alloc (.cells #[] 2)).ownsRow w.heap.size 2 1 (.slice (some ⟨w.heap.size, 0, none⟩) 0 0) 0 (([] : List Int).map (Value.int .i64))) := own_new0 w
 obtain ⟨R, HR⟩ : ∃ v, Hid (pickV s n k = v) := ⟨_, rfl⟩
 obtain ⟨V, HV⟩ : ∃ v, Hid (pickS s n k = v) := ⟨_, rfl⟩
 rw [HR.out, HV.out]
 cases hp : pickB s n k
 · have HE : Hid (R = [] /\ V = -1) := by
     have := pick_no hp
     rw [HR.out, HV.out] at this
     exact this
   unfold pickB at hp
   rcases Bool.eq_false_or_eq_true (inB n 0 64) with h1 | h1 <;> rcases Bool.eq_false_or_eq_true (inB k 0 n) with h2 | h2 <;> rcases Bool.eq_false_or_eq_true (inB s 0 2147483647) with h3 | h3
   · rw [h1, h2, h3] at hp; simp at hp
   all_goals
     clear hp
     go_enter Tryz.func23, Tryz.ntmps23
     go_wp2_with (go_at_call 21; refine (l1In_any _ _ _ _).mono ?_; rintro e w' ⟨rfl, hw'⟩; subst w'; first | rw [h1] | rw [h2] | rw [h3])
     refine bodyPost_ret (v := .tuple #[.slice (some ⟨w.heap.size, 0, none⟩) 0 0, .int .i64 (-1)]) (by simp [results, Tryz.results23, go_sem]) rfl ⟨_, by rw [HE.out.2], OB.out, by rw [HE.out.1]; exact ON.out⟩
 · obtain ⟨N, K, rfl, rfl, hN, hK, hs0, hs1⟩ := pickB_nat hp
   obtain ⟨e1, e2⟩ := pick_yes hp
   have HR1 : Hid ((pkL K (allL N) s).1 = R /\ (pkL K (allL N) s).2 = V) := ⟨e1.symm.trans HR.out, e2.symm.trans HV.out⟩
   have h1 : inB (N : Int) 0 64 = true := inB_mk (by omega)
   have h2 : inB (K : Int) 0 N = true := inB_mk (by omega)
   have h3 : inB s 0 2147483647 = true := inB_mk (by omega)
   clear e1 e2 hp HR HV
   have O2 : Hid (((w.alloc (.cells #[] 2)).alloc (.cells #[] 2)).ownsRow w.heap.size 2 1 (.slice (some ⟨w.heap.size + 1, 0, none⟩) 0 0) 0 (([] : List Int).map (Value.int .i64))) := by
     have := owns_base (own_new0 (w.alloc (.cells #[] 2))) OB.out.size
     rw [show (w.alloc (.cells #[] 2)).heap.size = w.heap.size + 1 by simp] at this
     exact this
   have X2 : Hid (((w.alloc (.cells #[] 2)).alloc (.cells #[] 2)).ownsRow w.heap.size 2 1 (.slice (some ⟨w.heap.size, 0, none⟩) 0 0) 0 (([] : List Int).map (Value.int .i64))) := ON.out.alloc _
   have B2 : Hid (Below w.heap.size w ((w.alloc (.cells #[] 2)).alloc (.cells #[] 2))) := OB.out.alloc OB.out.size _
   go_enter Tryz.func23, Tryz.ntmps23
   go_wp2_with (go_at_call 21; refine (l1In_any _ _ _ _).mono ?_; rintro e w' ⟨rfl, hw'⟩; subst w'; first | rw [h1] | rw [h2] | rw [h3])
   clear OB ON h1 h2 h3
   go_loopw [9, 10] (fun av t wr => ∃ i : Nat, i <= N /\ t = .int .i64 i /\ PW w wr w.heap.size av (.slice (some ⟨w.heap.size, 0, none⟩) 0 0) (allL i) []) (fun _ t _ => N - (intOf t).toNat)
   case atStart => exact ⟨0, Nat.zero_le _, rfl, PW.new2 O2.out B2.out (by simp) X2.out (by simp) (by simp [Value.ownBlock])⟩
   case round =>
     clear O2 X2 B2
     obtain ⟨i, hi, rfl, hpw⟩ := hrel
     obtain ⟨gl, cl, rfl⟩ := hpw.sl
     rw [allL_length] at hpw ⊢
     have P1 : Hid (PW w wr w.heap.size (.slice (some ⟨gl, 0, none⟩) i cl) (.slice (some ⟨w.heap.size, 0, none⟩) 0 0) (allL i) []) := hpw
     clear hpw
     by_cases hlt : i < N
     · go_wp2_with (
         at_builtin
         refine append_many _ rfl _ _ rfl w.heap.size _ i (allL i) rfl (by have := P1.out.l; rw [allL_length] at this; exact this.alloc _) wr.heap.size 0 1 1 [(i : Int)] rfl rfl (ints_new1 wr i) (by omega) (by omega) (Nat.le_trans P1.out.hB.2 (by simp)) ?_
         intro v' w4 hown hg hbk hnl
         have P4 : Hid (PW w w4 w.heap.size v' (.slice (some ⟨w.heap.size, 0, none⟩) 0 0) (allL (i + 1)) []) := by
           show PW _ _ _ _ _ _ _
           rw [allL_succ]
           exact P1.out.lput (by rw [allL_length]; exact hown) hg hbk hnl
         clear hown hg hbk hnl)
       go_roundw
       case rel => exact ⟨i + 1, by omega, by first | rfl | go_num, P4.out⟩
       case measure => simp [intOf]; omega
     · have hiN : i = N := by omega
       rw [hiN] at P1 ⊢
       clear hi hlt hiN
       go_wp2_with fail
       go_loopw [0, 8, 9, 11] (fun sv ov lv t wr => ∃ (i : Nat) (s : Int) (L O : List Int), i <= K /\ L.length = N - i /\ L.Nodup /\ t = .int .i64 i /\ sv = .int .i64 s /\ O.length = i /\ PW w wr w.heap.size lv ov L O /\ O ++ (pkL (K - i) L s).1 = R /\ (pkL (K - i) L s).2 = V /\ 0 <= s /\ s <= 2147483647) (fun _ _ _ t _ => K - (intOf t).toNat)
       case atStart => exact ⟨0, s, allL N, [], Nat.zero_le _, by rw [allL_length]; rfl, allL_nodup N, rfl, rfl, rfl, P1.out, HR1.out.1, HR1.out.2, hs0, hs1⟩
       case round =>
         clear P1
         obtain ⟨i, s, L, O, hi, hl, hnd, rfl, rfl, ho, hpw, hres, hseed, hs0, hs1⟩ := hrel
         obtain ⟨gl, cl, rfl⟩ := hpw.sl
         obtain ⟨go, co, rfl⟩ := hpw.so
         have P1 : Hid (PW w wr w.heap.size (.slice (some ⟨gl, 0, none⟩) L.length cl) (.slice (some ⟨go, 0, none⟩) O.length co) L O) := hpw
         have HL : Hid (L.length = N - i) := hl
         have HO : Hid (O.length = i) := ho
         have HND : Hid L.Nodup := hnd
         have HRS : Hid (O ++ (pkL (K - i) L s).1 = R /\ (pkL (K - i) L s).2 = V) := ⟨hres, hseed⟩
         clear hpw hl ho hnd hres hseed
         rw [HO.out] at P1 ⊢
         by_cases hlt : i < K
         · have hD : 0 < L.length := by rw [HL.out]; omega
           have hDb : L.length <= 64 := by rw [HL.out]; omega
           obtain ⟨S, hS, hSb, hat, hatl⟩ := pick_nums s hD
           have hst := pick_step (L := L) (s := s) hlt
           obtain ⟨D, HD⟩ : ∃ D, Hid (L.length = D) := ⟨_, rfl⟩
           rw [HD.out] at hD hDb hat hatl hst P1 ⊢
           obtain ⟨p, HP⟩ : ∃ p, Hid (pkAt (randV s) D = p) := ⟨_, rfl⟩
           rw [HP.out] at hat hatl hst
           have HS : Hid (randV s = S) := hS
           rw [HS.out] at hst
           have HRS2 : Hid ((O ++ [L.getD p 0]) ++ (pkL (K - (i + 1)) (remL L p) S).1 = R /\ (pkL (K - (i + 1)) (remL L p) S).2 = V) := by
             have h := HRS.out
             rw [hst] at h
             refine ⟨?_, h.2⟩
             rw [<- h.1, List.append_assoc]; rfl
           have cx : wr.cell? ⟨gl, p, none⟩ = some (.int .i64 (L.getD p 0)) := by
             obtain ⟨_, _, e, h⟩ := owns_ints' P1.out.l HD.out p (by rw [HD.out]; exact hatl)
             simp at e
             obtain ⟨rfl, rfl⟩ := e
             rw [Nat.zero_add] at h
             exact h
           have HCUT : Hid (cutP L (L.getD p 0) = remL L p) := cutP_rem HND.out (by rw [HD.out]; exact hatl)
           have HRL : Hid ((remL L p).length = D - 1) := by show _ = _; rw [remL_length (by rw [HD.out]; exact hatl), HD.out]
           have HRN : Hid (remL L p).Nodup := remL_nodup HND.out p
           obtain ⟨x, HX⟩ : ∃ f, Hid (L.getD p 0 = f) := ⟨_, rfl⟩
           rw [HX.out] at cx HRS2 HCUT
           have hpD : (p : Int) < (D : Int) := by omega
           clear hst hS hs0 hs1 HRS
           have hib : i <= 64 := by omega
           go_wp2_with (first
             | (go_at_call 55; refine (specRand_any _ _).mono ?_; rintro e w' ⟨rfl, hw'⟩; subst w'; rw [HS.out])
             | (at_builtin
                refine append_many _ rfl (.tmp 51) (.tmp 56) rfl w.heap.size _ i O rfl (by have := P1.out.o; rw [HO.out] at this; exact this.alloc _) wr.heap.size 0 1 1 [x] rfl rfl (ints_new1 wr x) (by omega) (by omega) (Nat.le_trans P1.out.hB.2 (by simp)) ?_
                intro ov' w4 hown hg hbk hnl
                have P4 : Hid (PW w w4 w.heap.size (.slice (some ⟨gl, 0, none⟩) D cl) ov' L (O ++ [x])) := P1.out.put (by rw [HO.out]; exact hown) hg hbk hnl
                have I4 : Hid (IntsAt w4 (some ⟨gl, 0, none⟩) L) := owns_ints' P4.out.l HD.out
                have c4 : w4.cell? ⟨gl, p, none⟩ = some (.int .i64 x) := by
                  obtain ⟨_, _, e, h⟩ := I4.out p (by rw [HD.out]; exact hatl)
                  simp at e
                  obtain ⟨rfl, rfl⟩ := e
                  rw [Nat.zero_add] at h
                  rw [h, HX.out]
                clear hown hg hbk hnl)
             | (go_at_call 27
                have hcut := l4CutP_any gl 0 cl L x w4 I4.out (by rw [HD.out]; omega)
                rw [HD.out, HCUT.out] at hcut
                refine hcut.mono ?_
                rintro e w5 ⟨g5, c5, rfl, hb5, ho5⟩
                have P5 : Hid (PW w w5 w.heap.size (.slice (some ⟨g5, 0, none⟩) (remL L p).length c5) ov' (remL L p) (O ++ [x])) := P4.out.cut hb5 ho5
                clear hcut hb5 ho5))
           go_roundw
           case rel => exact ⟨i + 1, S, remL L p, O ++ [x], by omega, by rw [HRL.out, <- HD.out, HL.out]; omega, HRN.out, by first | rfl | go_num, rfl, by rw [List.length_append, HO.out]; rfl, P5.out, HRS2.out.1, HRS2.out.2, by omega, by omega⟩
           case measure => simp [intOf]; omega
         · have hiK : K - i = 0 := by omega
           have HE : Hid (O = R /\ s = V) := by
             have h := HRS.out
             rw [hiK] at h
             refine ⟨?_, h.2⟩
             rw [<- h.1]
             exact (List.append_nil _).symm
           have HOR : Hid (wr.ownsRow w.heap.size 2 1 (.slice (some ⟨go, 0, none⟩) i co) R.length (R.map (Value.int .i64))) := by
             have := P1.out.o
             rw [HE.out.1] at this
             exact this
           have HB : Hid (Below w.heap.size w wr) := P1.out.b
           obtain ⟨D, HD⟩ : ∃ D, Hid (L.length = D) := ⟨_, rfl⟩
           rw [HD.out, HE.out.2]
           go_wp2
           refine bodyPost_ret (v := .tuple #[.slice (some ⟨go, 0, none⟩) i co, .int .i64 V]) (by simp [results, Tryz.results23, go_sem]) rfl ⟨_, rfl, HB.out, HOR.out⟩
end Go.Proofs.YtjlhmkmhehcmkaaGreat
namespace Go.Proofs.YtjlhmkmhehcmkaaGreat
open Go.RowKit
def markA (cur : Array Value) (k0 : Int) : Nat -> Array Value
 | 0 => cur
 | m + 1 => (markA cur k0 m).setIfInBounds m (.int .i64 (k0 + (m : Nat)))
theorem markA_size (cur : Array Value) (k0 : Int) : ∀ m, (markA cur k0 m).size = cur.size
 | 0 => rfl
 | m + 1 => by simp [markA, markA_size cur k0 m]
theorem markA_get (cur : Array Value) (k0 : Int) : ∀ m, m <= cur.size -> ∀ j, j < m -> (markA cur k0 m)[j]? = some (.int .i64 (k0 + (j : Nat)))
 | 0, _, j, hj => by omega
 | m + 1, hm, j, hj => by
   unfold markA
   by_cases e : j = m
   · subst e
     rw [Array.getElem?_setIfInBounds_self_of_lt (by rw [markA_size]; omega)]
   · rw [Array.getElem?_setIfInBounds_ne (by omega)]
     exact markA_get cur k0 m (by omega) j (by omega)
theorem row_some {w : World} {g : Nat} {cur : Array Value} {T : TypeId} (h : w.heap[g]? = some (.cells cur T (0, 0))) {j : Nat} (hj : j < cur.size) : ∃ v, w.cell? ⟨g, j, none⟩ = some v := by
 rw [cell_of_row _ _ j _ _ _ h]
 exact ⟨cur[j], by simp [hj]⟩
theorem mark_step {w : World} {g m : Nat} {cur : Array Value} {T : TypeId} {k0 v : Int} (h : w.heap[g]? = some (.cells (markA cur k0 m) T (0, 0))) (hv : v = k0 + (m : Nat)) : (w.setCell ⟨g, m, none⟩ (.int .i64 v)).heap[g]? = some (.cells (markA cur k0 (m + 1)) T (0, 0)) := by
 rw [heap_setCell_same _ _ _ _ _ _ h, hv]
 rfl
end Go.Proofs.YtjlhmkmhehcmkaaGreat
namespace Go.Proofs.YtjlhmkmhehcmkaaGreat
open Go.RowKit
def seqL (k : Int) (n : Nat) : List Int := (List.range n).map (fun i : Nat => k + (i : Int))
theorem seqL_len (k : Int) (n : Nat) : (seqL k n).length = n := by simp [seqL]
theorem seqL_at {k : Int} {n j : Nat} (h : j < n) : (seqL k n)[j]? = some (k + (j : Int)) := by simp [seqL, h]
theorem own_row_of {w : World} {base size n rc g : Nat} {e : TypeId} {xs : List Value} (h : w.ownsRow base e size (.slice (some ⟨g, 0, none⟩) n rc) n xs) : ∃ cur, w.heap[g]? = some (.cells cur e (0, 0)) /\ cur.size = rc * size /\ n <= rc /\ rc <= maxLen /\ base <= g := by
 obtain ⟨_, ⟨h1, _⟩ | ⟨g', cap, cur, h2, h3, h4, h5, h6, h7, _⟩⟩ := h
 · cases h1
 · simp only [Value.slice.injEq, Option.some.injEq, Addr.mk.injEq, and_true, true_and] at h2
   obtain ⟨rfl, rfl⟩ := h2
   exact ⟨cur, h4, h7, h5, h6, h3⟩
theorem mark_row {w w' : World} {base size n c g : Nat} {K : Int} {T : TypeId} {cur : Array Value} {xs : List Value} (h : w.ownsRow base T size (.slice (some ⟨g, 0, none⟩) n c) n xs) (hrow : w.heap[g]? = some (.cells cur T (0, 0))) (hr : w'.heap[g]? = some (.cells (markA cur K (n * size)) T (0, 0))) : w'.ownsRow base T size (.slice (some ⟨g, 0, none⟩) n c) n ((seqL K (n * size)).map (Value.int .i64)) := by
 obtain ⟨cur2, k1, k2, k3, k4, k5⟩ := own_row_of h
 rw [hrow] at k1
 simp only [Option.some.injEq, Obj.cells.injEq, and_true] at k1
 subst k1
 have hle : n * size <= cur.size := by rw [k2]; exact Nat.mul_le_mul_right _ k3
 refine ownV_of_cells hr (by rw [markA_size, k2]) k3 k4 k5 (by rw [List.length_map, seqL_len]) (fun j hj => ?_)
 rw [cell_of_row _ _ j _ _ _ hr, markA_get cur K (n * size) hle j hj, List.getElem?_map, seqL_at hj]
 rfl
end Go.Proofs.YtjlhmkmhehcmkaaGreat
namespace Go.Proofs.YtjlhmkmhehcmkaaGreat
open Go.RowKit
set_option maxHeartbeats 1000000 in
theorem markInt64S_any (g n cap : Nat) (k0 : Int) (cur : Array Value) (T : TypeId) (w : World) (hrow0 : w.heap[g]? = some (.cells cur T (0, 0))) (hn : n <= cur.size) (h0 : 0 <= k0) (h1 : k0 <= 1000000000000) (hn1 : n <= 10000000) :
   Calls Tryz.prog 48 #[.slice (some ⟨g, 0, none⟩) n cap, .int .i64 k0] w fun e w' => e = .returned (.int .i64 (k0 + ((n : Nat) : Int))) /\ w.grownBy w' (some g) /\ w'.heap[g]? = some (.cells (markA cur k0 (n)) T (0, 0)) := by
 have HR0 : Hid (w.heap[g]? = some (.cells cur T (0, 0))) := hrow0
 clear hrow0
 go_enter Tryz.func48, Tryz.ntmps48
 go_wp2_with fail
 go_loopw [1, 5] (fun kk t wr => ∃ k : Nat, k <= n /\ t = .int .i64 k /\ kk = .int .i64 (k0 + ((k : Nat) : Int)) /\ w.grownBy wr (some g) /\ wr.heap[g]? = some (.cells (markA cur k0 (k)) T (0, 0))) (fun _ t _ => n - (intOf t).toNat)
 case atStart => exact ⟨0, Nat.zero_le _, rfl, by simp, grown_refl _ _, HR0.out⟩
 case round =>
   obtain ⟨k, hk, rfl, rfl, hg, hrow⟩ := hrel
   have HG : Hid (w.grownBy wr (some g)) := hg
   clear hg
   obtain ⟨K, HK⟩ : ∃ t, Hid (k0 + ((k : Nat) : Int) = t) := ⟨_, rfl⟩
   have hkb : 0 <= K /\ K <= 1000100000000 := by
     have := HK.out
     omega
   rw [HK.out]
   by_cases hlt : k < n
   · have fz := fun i => frozen_of_row _ _ i _ _ hrow
     obtain ⟨z0, y0⟩ := row_some hrow (j := k) (by rw [markA_size]; omega)
     have HROW : Hid ((World.heap (World.setCell wr ⟨g, k, none⟩ (Value.int .i64 K)))[g]? = some (.cells (markA cur k0 ((k + 1))) T (0, 0))) := by
       show _ = _
       exact (mark_step hrow (by have := HK.out; omega))
     have HGR : Hid (w.grownBy (World.setCell wr ⟨g, k, none⟩ (Value.int .i64 K)) (some g)) := (grown_trans HG.out (grown_set _ _ _ _))
     have HK1 : Hid (k0 + (((k + 1) : Nat) : Int) = K + 1) := by
       show _ = _
       have := HK.out
       omega
     clear hrow
     go_wp2
     go_roundw
     case rel => exact ⟨k + 1, by omega, by go_num, by first | (rw [HK1.out]; go_num) | rw [HK1.out], HGR.out, HROW.out⟩
     case measure => simp [intOf]; omega
   · have hkl : k = n := by omega
     subst hkl
     have HROW : Hid (wr.heap[g]? = _) := hrow
     clear hrow
     go_wp2
     go_ret
     exact ⟨ret_int HK.out.symm, HG.out, HROW.out⟩
set_option maxHeartbeats 400000 in
theorem markInt64S_nil (a : Option Addr) (cap : Nat) (k0 : Int) (w : World) :
   Calls Tryz.prog 48 #[.slice a 0 cap, .int .i64 k0] w fun e w' => e = .returned (.int .i64 k0) /\ w' = w := by
 go_enter Tryz.func48, Tryz.ntmps48
 go_wp2_with fail
 go_loop [1, 5] (fun kk t => t = .int .i64 0 /\ kk = .int .i64 k0) (fun _ _ => 0)
 case atStart => exact ⟨rfl, rfl⟩
 case round =>
   obtain ⟨rfl, rfl⟩ := hrel
   go_wp2
   go_ret
   exact ⟨rfl, rfl⟩
end Go.Proofs.YtjlhmkmhehcmkaaGreat
namespace Go.Proofs.YtjlhmkmhehcmkaaGreat
open Go.RowKit
set_option maxHeartbeats 1000000 in
theorem heldInt64S_any (g n cap : Nat) (k0 : Int) (w : World) (hc : ∀ j, j < n -> w.cell? ⟨g, j, none⟩ = some (.int .i64 (k0 + (j : Nat)))) (h0 : 0 <= k0) (h1 : k0 <= 1000000000000) (hn1 : n <= 10000000) :
   Calls Tryz.prog 50 #[.slice (some ⟨g, 0, none⟩) n cap, .int .i64 k0] w fun e w' => e = .returned (.int .i64 (k0 + ((n : Nat) : Int))) /\ w' = w := by
 have HC : Hid (∀ j, j < n -> w.cell? ⟨g, j, none⟩ = some (.int .i64 (k0 + (j : Nat)))) := hc
 clear hc
 go_enter Tryz.func50, Tryz.ntmps50
 go_wp2_with fail
 go_loop [1, 5] (fun kk t => ∃ k : Nat, k <= n /\ t = .int .i64 k /\ kk = .int .i64 (k0 + ((k : Nat) : Int))) (fun _ t => n - (intOf t).toNat)
 case atStart => exact ⟨0, Nat.zero_le _, rfl, by simp⟩
 case round =>
   obtain ⟨k, hk, rfl, rfl⟩ := hrel
   obtain ⟨K, HK⟩ : ∃ t, Hid (k0 + ((k : Nat) : Int) = t) := ⟨_, rfl⟩
   have hkb : 0 <= K /\ K <= 1000100000000 := by
     have := HK.out
     omega
   rw [HK.out]
   by_cases hlt : k < n
   · have HK1 : Hid (k0 + (((k + 1) : Nat) : Int) = K + 1) := by
       show _ = _
       have := HK.out
       omega
     have y0 := HC.out (k) (by omega)
     rw [show k0 + (((k : Nat)) : Int) = K by have := HK.out; omega] at y0
     go_wp2
     go_round
     case rel => exact ⟨k + 1, by omega, by go_num, by first | (rw [HK1.out]; go_num) | rw [HK1.out]⟩
     case measure => simp [intOf]; omega
   · have hkl : k = n := by omega
     subst hkl
     go_wp2
     go_ret
     exact ⟨ret_int HK.out.symm, rfl⟩
set_option maxHeartbeats 400000 in
theorem heldInt64S_nil (a : Option Addr) (cap : Nat) (k0 : Int) (w : World) :
   Calls Tryz.prog 50 #[.slice a 0 cap, .int .i64 k0] w fun e w' => e = .returned (.int .i64 k0) /\ w' = w := by
 go_enter Tryz.func50, Tryz.ntmps50
 go_wp2_with fail
 go_loop [1, 5] (fun kk t => t = .int .i64 0 /\ kk = .int .i64 k0) (fun _ _ => 0)
 case atStart => exact ⟨rfl, rfl⟩
 case round =>
   obtain ⟨rfl, rfl⟩ := hrel
   go_wp2
   go_ret
   exact ⟨rfl, rfl⟩
end Go.Proofs.YtjlhmkmhehcmkaaGreat
namespace Go.Proofs.YtjlhmkmhehcmkaaGreat
end Go.Proofs.YtjlhmkmhehcmkaaGreat
namespace Go.Proofs.YtjlhmkmhehcmkaaGreat
open Go.RowKit
set_option maxHeartbeats 1000000 in
theorem markOrderS_any (g n cap : Nat) (k0 : Int) (cur : Array Value) (T : TypeId) (w : World) (hrow0 : w.heap[g]? = some (.cells cur T (0, 0))) (hn : n * 6 <= cur.size) (h0 : 0 <= k0) (h1 : k0 <= 1000000000000) (hn1 : n <= 10000000) :
   Calls Tryz.prog 45 #[.slice (some ⟨g, 0, none⟩) n cap, .int .i64 k0] w fun e w' => e = .returned (.int .i64 (k0 + ((n * 6 : Nat) : Int))) /\ w.grownBy w' (some g) /\ w'.heap[g]? = some (.cells (markA cur k0 (n * 6)) T (0, 0)) := by
 have HR0 : Hid (w.heap[g]? = some (.cells cur T (0, 0))) := hrow0
 clear hrow0
 go_enter Tryz.func45, Tryz.ntmps45
 go_wp2_with fail
 go_loopw [1, 5] (fun kk t wr => ∃ k : Nat, k <= n /\ t = .int .i64 k /\ kk = .int .i64 (k0 + ((k * 6 : Nat) : Int)) /\ w.grownBy wr (some g) /\ wr.heap[g]? = some (.cells (markA cur k0 (k * 6)) T (0, 0))) (fun _ t _ => n - (intOf t).toNat)
 case atStart => exact ⟨0, Nat.zero_le _, rfl, by simp, grown_refl _ _, HR0.out⟩
 case round =>
   obtain ⟨k, hk, rfl, rfl, hg, hrow⟩ := hrel
   have HG : Hid (w.grownBy wr (some g)) := hg
   clear hg
   obtain ⟨K, HK⟩ : ∃ t, Hid (k0 + ((k * 6 : Nat) : Int) = t) := ⟨_, rfl⟩
   have hkb : 0 <= K /\ K <= 1000100000000 := by
     have := HK.out
     omega
   rw [HK.out]
   by_cases hlt : k < n
   · have fz := fun i => frozen_of_row _ _ i _ _ hrow
     obtain ⟨z0, y0⟩ := row_some hrow (j := k * 6) (by rw [markA_size]; omega)
     obtain ⟨z1, y1⟩ := row_some hrow (j := k * 6 + 1) (by rw [markA_size]; omega)
     obtain ⟨z2, y2⟩ := row_some hrow (j := k * 6 + 2) (by rw [markA_size]; omega)
     obtain ⟨z3, y3⟩ := row_some hrow (j := k * 6 + 3) (by rw [markA_size]; omega)
     obtain ⟨z4, y4⟩ := row_some hrow (j := k * 6 + 4) (by rw [markA_size]; omega)
     obtain ⟨z5, y5⟩ := row_some hrow (j := k * 6 + 5) (by rw [markA_size]; omega)
     have HROW : Hid ((World.heap (World.setCell (World.setCell (World.setCell (World.setCell (World.setCell (World.setCell wr ⟨g, k * 6, none⟩ (Value.int .i64 K)) ⟨g, k * 6 + 1, none⟩ (Value.int .i64 (K + 1))) ⟨g, k * 6 + 2, none⟩ (Value.int .i64 (K + 1 + 1))) ⟨g, k * 6 + 3, none⟩ (Value.int .i64 (K + 1 + 1 + 1))) ⟨g, k * 6 + 4, none⟩ (Value.int .i64 (K + 1 + 1 + 1 + 1))) ⟨g, k * 6 + 5, none⟩ (Value.int .i64 (K + 1 + 1 + 1 + 1 + 1))))[g]? = some (.cells (markA cur k0 (((k + 1) * 6))) T (0, 0))) := by
       show _ = _
       rw [show (k + 1) * 6 = k * 6 + 1 + 1 + 1 + 1 + 1 + 1 by omega]
       exact (mark_step (mark_step (mark_step (mark_step (mark_step (mark_step hrow (by have := HK.out; omega)) (by have := HK.out; omega)) (by have := HK.out; omega)) (by have := HK.out; omega)) (by have := HK.out; omega)) (by have := HK.out; omega))
     have HGR : Hid (w.grownBy (World.setCell (World.setCell (World.setCell (World.setCell (World.setCell (World.setCell wr ⟨g, k * 6, none⟩ (Value.int .i64 K)) ⟨g, k * 6 + 1, none⟩ (Value.int .i64 (K + 1))) ⟨g, k * 6 + 2, none⟩ (Value.int .i64 (K + 1 + 1))) ⟨g, k * 6 + 3, none⟩ (Value.int .i64 (K + 1 + 1 + 1))) ⟨g, k * 6 + 4, none⟩ (Value.int .i64 (K + 1 + 1 + 1 + 1))) ⟨g, k * 6 + 5, none⟩ (Value.int .i64 (K + 1 + 1 + 1 + 1 + 1))) (some g)) := (grown_trans (grown_trans (grown_trans (grown_trans (grown_trans (grown_trans HG.out (grown_set _ _ _ _)) (grown_set _ _ _ _)) (grown_set _ _ _ _)) (grown_set _ _ _ _)) (grown_set _ _ _ _)) (grown_set _ _ _ _))
     have HK1 : Hid (k0 + ((((k + 1) * 6) : Nat) : Int) = K + 6) := by
       show _ = _
       have := HK.out
       omega
     clear hrow
     go_wp2
     go_roundw
     case rel => exact ⟨k + 1, by omega, by go_num, by first | (rw [HK1.out]; go_num) | rw [HK1.out], HGR.out, HROW.out⟩
     case measure => simp [intOf]; omega
   · have hkl : k = n := by omega
     subst hkl
     have HROW : Hid (wr.heap[g]? = _) := hrow
     clear hrow
     go_wp2
     go_ret
     exact ⟨ret_int HK.out.symm, HG.out, HROW.out⟩
set_option maxHeartbeats 400000 in
theorem markOrderS_nil (a : Option Addr) (cap : Nat) (k0 : Int) (w : World) :
   Calls Tryz.prog 45 #[.slice a 0 cap, .int .i64 k0] w fun e w' => e = .returned (.int .i64 k0) /\ w' = w := by
 go_enter Tryz.func45, Tryz.ntmps45
 go_wp2_with fail
 go_loop [1, 5] (fun kk t => t = .int .i64 0 /\ kk = .int .i64 k0) (fun _ _ => 0)
 case atStart => exact ⟨rfl, rfl⟩
 case round =>
   obtain ⟨rfl, rfl⟩ := hrel
   go_wp2
   go_ret
   exact ⟨rfl, rfl⟩
end Go.Proofs.YtjlhmkmhehcmkaaGreat
namespace Go.Proofs.YtjlhmkmhehcmkaaGreat
open Go.RowKit
set_option maxHeartbeats 1000000 in
theorem markVehicleS_any (g n cap : Nat) (k0 : Int) (cur : Array Value) (T : TypeId) (w : World) (hrow0 : w.heap[g]? = some (.cells cur T (0, 0))) (hn : n * 5 <= cur.size) (h0 : 0 <= k0) (h1 : k0 <= 1000000000000) (hn1 : n <= 10000000) :
   Calls Tryz.prog 46 #[.slice (some ⟨g, 0, none⟩) n cap, .int .i64 k0] w fun e w' => e = .returned (.int .i64 (k0 + ((n * 5 : Nat) : Int))) /\ w.grownBy w' (some g) /\ w'.heap[g]? = some (.cells (markA cur k0 (n * 5)) T (0, 0)) := by
 have HR0 : Hid (w.heap[g]? = some (.cells cur T (0, 0))) := hrow0
 clear hrow0
 go_enter Tryz.func46, Tryz.ntmps46
 go_wp2_with fail
 go_loopw [1, 5] (fun kk t wr => ∃ k : Nat, k <= n /\ t = .int .i64 k /\ kk = .int .i64 (k0 + ((k * 5 : Nat) : Int)) /\ w.grownBy wr (some g) /\ wr.heap[g]? = some (.cells (markA cur k0 (k * 5)) T (0, 0))) (fun _ t _ => n - (intOf t).toNat)
 case atStart => exact ⟨0, Nat.zero_le _, rfl, by simp, grown_refl _ _, HR0.out⟩
 case round =>
   obtain ⟨k, hk, rfl, rfl, hg, hrow⟩ := hrel
   have HG : Hid (w.grownBy wr (some g)) := hg
   clear hg
   obtain ⟨K, HK⟩ : ∃ t, Hid (k0 + ((k * 5 : Nat) : Int) = t) := ⟨_, rfl⟩
   have hkb : 0 <= K /\ K <= 1000100000000 := by
     have := HK.out
     omega
   rw [HK.out]
   by_cases hlt : k < n
   · have fz := fun i => frozen_of_row _ _ i _ _ hrow
     obtain ⟨z0, y0⟩ := row_some hrow (j := k * 5) (by rw [markA_size]; omega)
     obtain ⟨z1, y1⟩ := row_some hrow (j := k * 5 + 1) (by rw [markA_size]; omega)
     obtain ⟨z2, y2⟩ := row_some hrow (j := k * 5 + 2) (by rw [markA_size]; omega)
     obtain ⟨z3, y3⟩ := row_some hrow (j := k * 5 + 3) (by rw [markA_size]; omega)
     obtain ⟨z4, y4⟩ := row_some hrow (j := k * 5 + 4) (by rw [markA_size]; omega)
     have HROW : Hid ((World.heap (World.setCell (World.setCell (World.setCell (World.setCell (World.setCell wr ⟨g, k * 5, none⟩ (Value.int .i64 K)) ⟨g, k * 5 + 1, none⟩ (Value.int .i64 (K + 1))) ⟨g, k * 5 + 2, none⟩ (Value.int .i64 (K + 1 + 1))) ⟨g, k * 5 + 3, none⟩ (Value.int .i64 (K + 1 + 1 + 1))) ⟨g, k * 5 + 4, none⟩ (Value.int .i64 (K + 1 + 1 + 1 + 1))))[g]? = some (.cells (markA cur k0 (((k + 1) * 5))) T (0, 0))) := by
       show _ = _
       rw [show (k + 1) * 5 = k * 5 + 1 + 1 + 1 + 1 + 1 by omega]
       exact (mark_step (mark_step (mark_step (mark_step (mark_step hrow (by have := HK.out; omega)) (by have := HK.out; omega)) (by have := HK.out; omega)) (by have := HK.out; omega)) (by have := HK.out; omega))
     have HGR : Hid (w.grownBy (World.setCell (World.setCell (World.setCell (World.setCell (World.setCell wr ⟨g, k * 5, none⟩ (Value.int .i64 K)) ⟨g, k * 5 + 1, none⟩ (Value.int .i64 (K + 1))) ⟨g, k * 5 + 2, none⟩ (Value.int .i64 (K + 1 + 1))) ⟨g, k * 5 + 3, none⟩ (Value.int .i64 (K + 1 + 1 + 1))) ⟨g, k * 5 + 4, none⟩ (Value.int .i64 (K + 1 + 1 + 1 + 1))) (some g)) := (grown_trans (grown_trans (grown_trans (grown_trans (grown_trans HG.out (grown_set _ _ _ _)) (grown_set _ _ _ _)) (grown_set _ _ _ _)) (grown_set _ _ _ _)) (grown_set _ _ _ _))
     have HK1 : Hid (k0 + ((((k + 1) * 5) : Nat) : Int) = K + 5) := by
       show _ = _
       have := HK.out
       omega
     clear hrow
     go_wp2
     go_roundw
     case rel => exact ⟨k + 1, by omega, by go_num, by first | (rw [HK1.out]; go_num) | rw [HK1.out], HGR.out, HROW.out⟩
     case measure => simp [intOf]; omega
   · have hkl : k = n := by omega
     subst hkl
     have HROW : Hid (wr.heap[g]? = _) := hrow
     clear hrow
     go_wp2
     go_ret
     exact ⟨ret_int HK.out.symm, HG.out, HROW.out⟩
set_option maxHeartbeats 400000 in
theorem markVehicleS_nil (a : Option Addr) (cap : Nat) (k0 : Int) (w : World) :
   Calls Tryz.prog 46 #[.slice a 0 cap, .int .i64 k0] w fun e w' => e = .returned (.int .i64 k0) /\ w' = w := by
 go_enter Tryz.func46, Tryz.ntmps46
 go_wp2_with fail
 go_loop [1, 5] (fun kk t => t = .int .i64 0 /\ kk = .int .i64 k0) (fun _ _ => 0)
 case atStart => exact ⟨rfl, rfl⟩
 case round =>
   obtain ⟨rfl, rfl⟩ := hrel
   go_wp2
   go_ret
   exact ⟨rfl, rfl⟩
end Go.Proofs.YtjlhmkmhehcmkaaGreat
namespace Go.Proofs.YtjlhmkmhehcmkaaGreat
open Go.RowKit
set_option maxHeartbeats 400000 in
theorem markMat_any (n k0 : Int) (g cap : Nat) (zs : List Int) (w : World) (hrow : w.heap[g]? = some (.cells (cellsOf zs) 2 (0, 0))) (h0 : 0 <= k0) (h1 : k0 <= 100000000) (hl : zs.length <= 1048576) :
   Calls Tryz.prog 44 #[.agg #[.int .i64 n, .slice (some ⟨g, 0, none⟩) zs.length cap], .int .i64 k0] w fun e w' => e = .returned (.int .i64 (k0 + (zs.length : Int))) /\ GrownBut (fun b => b = g) w w' := by
 have HB0 : Hid (Below w.heap.size w (w.alloc (Obj.cells #[Value.int .i64 n, Value.slice (some ⟨g, 0, none⟩) zs.length cap] 39))) := (Below.refl _ _).alloc (Nat.le_refl _) _
 have HR : Hid (w.heap[g]? = _) := hrow
 clear hrow
 go_enter Tryz.func44, Tryz.ntmps44
 go_wp2_with fail
 refine (markInt64S_any g zs.length cap k0 (cellsOf zs) _ _ (below_row HB0.out (row_lt HR.out) HR.out) (by rw [cellsOf_size]; exact Nat.le_refl _) h0 (by omega) (by omega)).mono ?_
 rintro e w1 ⟨rfl, hg, _⟩
 have HG : Hid (GrownBut (fun b => b = g) w w1) := (GrownBut.of_below HB0.out).trans (GrownBut.of_grown hg rfl)
 clear hg
 go_wp2
 go_ret
 exact ⟨rfl, HG.out⟩
set_option maxHeartbeats 1000000 in
theorem markCase_any (n fine : Int) (g go gv cap ko co kv cv : Nat) (zs os vs : List Int) (w : World) (hC : CaseAt w g go gv zs os vs) (hlo : os.length = ko * 6) (hlv : vs.length = kv * 5) (hz : zs.length <= 1048576) (hko : ko <= 1048576) (hkv : kv <= 1048576) :
   Calls Tryz.prog 12 #[.agg #[.int .i64 n, .slice (some ⟨g, 0, none⟩) zs.length cap, .slice (some ⟨go, 0, none⟩) ko co, .slice (some ⟨gv, 0, none⟩) kv cv, .int .i64 fine], .int .i64 1] w fun e w' => ∃ k', e = .returned (.int .i64 k') /\ 0 <= k' /\ k' <= 50000000 /\ GrownBut (fun b => b = g ∨ b = go ∨ b = gv) w w' := by
 have HB0 : Hid (Below w.heap.size w (w.alloc (Obj.cells #[Value.int .i64 n, Value.slice (some ⟨g, 0, none⟩) zs.length cap, Value.slice (some ⟨go, 0, none⟩) ko co, Value.slice (some ⟨gv, 0, none⟩) kv cv, Value.int .i64 fine] 43))) := (Below.refl _ _).alloc (Nat.le_refl _) _
 have HP0 : Hid ((w.alloc (Obj.cells #[Value.int .i64 n, Value.slice (some ⟨g, 0, none⟩) zs.length cap, Value.slice (some ⟨go, 0, none⟩) ko co, Value.slice (some ⟨gv, 0, none⟩) kv cv, Value.int .i64 fine] 43)).heap[w.heap.size]? = _) := heap_alloc_new _ _
 have HC : Hid (CaseAt (w.alloc (Obj.cells #[Value.int .i64 n, Value.slice (some ⟨g, 0, none⟩) zs.length cap, Value.slice (some ⟨go, 0, none⟩) ko co, Value.slice (some ⟨gv, 0, none⟩) kv cv, Value.int .i64 fine] 43)) g go gv zs os vs) := hC.below HB0.out
 have HLO : Hid (os.length = ko * 6) := hlo
 have HLV : Hid (vs.length = kv * 5) := hlv
 clear hC hlo hlv
 go_enter Tryz.func12, Tryz.ntmps12
 obtain ⟨c0, c1, c2, c3, c4⟩ := cells5 HP0.out
 go_wp2_with fail
 clear c0 c1 c2 c3 c4
 have n1 : Hid (go ≠ g /\ gv ≠ g /\ gv ≠ go) := ⟨type_ne HC.out.2.1 HC.out.1 (by decide), type_ne HC.out.2.2 HC.out.1 (by decide), type_ne HC.out.2.2 HC.out.2.1 (by decide)⟩
 have n2 : Hid (w.heap.size ≠ g /\ w.heap.size ≠ go /\ w.heap.size ≠ gv) := ⟨type_ne HP0.out HC.out.1 (by decide), type_ne HP0.out HC.out.2.1 (by decide), type_ne HP0.out HC.out.2.2 (by decide)⟩
 refine (markMat_any n 1 g cap zs _ HC.out.1 (by omega) (by omega) hz).mono ?_
 rintro e w1 ⟨rfl, hg⟩
 have G1 : Hid (GrownBut (fun b => b = g ∨ b = go ∨ b = gv) w w1) := (GrownBut.of_below HB0.out).trans (hg.mono (fun b e => .inl e))
 have P1 : Hid (w1.heap[w.heap.size]? = _) := hg.row HP0.out n2.out.1
 have R1 : Hid (w1.heap[go]? = _) := hg.row HC.out.2.1 n1.out.1
 have V1 : Hid (w1.heap[gv]? = _) := hg.row HC.out.2.2 n1.out.2.1
 clear hg HB0 HP0 HC
 obtain ⟨c0, c1, c2, c3, c4⟩ := cells5 P1.out
 obtain ⟨k1, HK1⟩ : ∃ t, Hid ((1 : Int) + (zs.length : Int) = t) := ⟨_, rfl⟩
 have hk1 : 0 <= k1 /\ k1 <= 2000000 := by have := HK1.out; omega
 rw [HK1.out]
 go_wp2_with fail
 clear c0 c1 c2 c3 c4
 refine (markOrderS_any go ko co k1 (cellsOf os) _ _ R1.out (by rw [cellsOf_size, HLO.out]; exact Nat.le_refl _) (by omega) (by omega) (by omega)).mono ?_
 rintro e w2 ⟨rfl, hg, _⟩
 have hg2 : GrownBut (fun b => b = go) w1 w2 := GrownBut.of_grown hg rfl
 have G2 : Hid (GrownBut (fun b => b = g ∨ b = go ∨ b = gv) w w2) := G1.out.trans (hg2.mono (fun b e => .inr (.inl e)))
 have P2 : Hid (w2.heap[w.heap.size]? = _) := hg2.row P1.out n2.out.2.1
 have V2 : Hid (w2.heap[gv]? = _) := hg2.row V1.out n1.out.2.2
 clear hg hg2 G1 P1 R1 V1
 obtain ⟨c0, c1, c2, c3, c4⟩ := cells5 P2.out
 obtain ⟨k2, HK2⟩ : ∃ t, Hid (k1 + ((ko * 6 : Nat) : Int) = t) := ⟨_, rfl⟩
 have hk2 : 0 <= k2 /\ k2 <= 10000000 := by have := HK2.out; omega
 rw [HK2.out]
 go_wp2_with fail
 clear c0 c1 c2 c3 c4
 refine (markVehicleS_any gv kv cv k2 (cellsOf vs) _ _ V2.out (by rw [cellsOf_size, HLV.out]; exact Nat.le_refl _) (by omega) (by omega) (by omega)).mono ?_
 rintro e w3 ⟨rfl, hg, _⟩
 have G3 : Hid (GrownBut (fun b => b = g ∨ b = go ∨ b = gv) w w3) := G2.out.trans (GrownBut.of_grown hg (.inr (.inr rfl)))
 clear hg
 obtain ⟨k3, HK3⟩ : ∃ t, Hid (k2 + ((kv * 5 : Nat) : Int) = t) := ⟨_, rfl⟩
 have hk3 : 0 <= k3 /\ k3 <= 50000000 := by have := HK3.out; omega
 rw [HK3.out]
 go_wp2
 go_ret
 exact ⟨k3, rfl, hk3.1, hk3.2, G3.out⟩
end Go.Proofs.YtjlhmkmhehcmkaaGreat