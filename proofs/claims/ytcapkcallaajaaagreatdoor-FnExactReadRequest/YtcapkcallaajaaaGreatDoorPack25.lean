import Derived.Test.YtcapkcallaajaaaGreatDoorPack6
import Derived.Test.YtcapkcallaajaaaGreatDoorPack13
import Derived.Test.YtcapkcallaajaaaGreatDoorPack15
import Derived.Test.YtcapkcallaajaaaGreatDoorPack17
import Derived.Test.YtcapkcallaajaaaGreatDoorPack19
import Derived.Test.YtcapkcallaajaaaGreatDoorPack20
import Derived.Test.YtcapkcallaajaaaGreatDoorSpecReqText
import Derived.Test.YtcapkcallaajaaaGreatDoorSpecReadPlan
import Derived.Deep.CutBlock
namespace Go.Proofs.YtcapkcallaajaaaGreatDoor
open Go.RowKit
structure SQ (w W : World) (qa : Nat) (cs : Array Value) : Prop where
 b : Below w.heap.size w W
 z : W.heap[w.heap.size]? = some (.cells #[.int .i64 0, .string ⟨#[]⟩, .int .i64 0, .int .i64 0, .int .i64 0, .int .i64 0, .slice none 0 0, .slice none 0 0, .slice none 0 0, .int .i64 0, .slice none 0 0, .slice none 0 0] 33 (0, 0))
 q : W.heap[qa]? = some (.cells cs 33 (0, 0))
 hq : w.heap.size < qa
theorem SQ.below {w W W' : World} {qa : Nat} {cs : Array Value} (h : SQ w W qa cs) (hb : Below W.heap.size W W') : SQ w W' qa cs := ⟨h.b.trans (hb.mono h.b.size), below_row hb (row_lt h.z) h.z, below_row hb (row_lt h.q) h.q, h.hq⟩
theorem SQ.put {w W : World} {qa : Nat} {cs : Array Value} (h : SQ w W qa cs) (i : Nat) (v : Value) : SQ w (W.setCell ⟨qa, i, none⟩ v) qa (cs.setIfInBounds i v) := by
 have hs := grown_set W qa i v
 have := h.hq
 exact ⟨Below.setCell h.b (by simp only; omega) _, grown_row hs h.z (fun e => by injection e with e; omega), heap_setCell_same _ _ _ _ _ _ h.q, h.hq⟩
theorem txt_list (l : List UInt8) : (txt l).toList = l := by rw [ByteArray.toList_eq]; rfl
theorem ownI {w : World} {base n size c : Nat} {e : TypeId} {ad : Option Addr} {xs : List Int} (h : w.ownsRow base e size (.slice ad n c) n (xs.map (Value.int .i64))) (hz : n = 0 -> xs = []) : IntsAt w ad xs := by
 rcases own_kinds h with ⟨e1, h0⟩ | ⟨g, c', e1, -, -⟩
 · rw [hz h0]
   exact fun j hj => absurd hj (Nat.not_lt_zero _)
 · injection e1 with e1
   subst e1
   exact owns_ints h
def SReadOkQ (w : World) (s : List UInt8) (e : Ending) (w' : World) : Prop :=
 (∃ qv zl ol vl rs ls S, readQ s = some qv /\ qv.R = S.map bare /\ e = .returned (.tuple #[.agg #[.int .i64 qv.kind, .string (txt qv.name), .int .i64 qv.id, .int .i64 qv.seed, .int .i64 qv.steps, .int .i64 qv.c.n, zl, ol, vl, .int .i64 qv.c.f, rs, ls], .bool true]) /\ Below w.heap.size w w' /\ QO w' (w.heap.size + 1) zl ol vl rs ls S qv) ∨ (readQ s = none /\ e = .returned (.tuple #[.agg #[.int .i64 0, .string ⟨#[]⟩, .int .i64 0, .int .i64 0, .int .i64 0, .int .i64 0, .slice none 0 0, .slice none 0 0, .slice none 0 0, .int .i64 0, .slice none 0 0, .slice none 0 0], .bool false]) /\ Below w.heap.size w w')
theorem cutAny (s : List UInt8) (w : World) (hs : s.length <= 1048576) : Calls Tryz.prog 11 #[.string (txt s)] w fun e w' => ∃ x l sl b, lOf s = l /\ e = .returned (.tuple #[.string x, sl, .bool b]) /\ Below w.heap.size w w' /\ w'.ownsRow w.heap.size 2 1 sl l.length (l.map (Value.int .i64)) := by
 refine (l2Cut_any s w hs).mono ?_
 rintro e w' (⟨wd, l, sl, h1, rfl, hb, ho, -⟩ | ⟨h1, rfl, hb⟩)
 · exact ⟨_, l, sl, _, by unfold lOf; rw [h1], rfl, hb, ho⟩
 · exact ⟨_, [], _, _, by unfold lOf; rw [h1], rfl, hb, World.ownsRow_nil _ _ _ _⟩
theorem caseAny (s : List UInt8) (w : World) (hs : s.length <= 1048576) : Calls Tryz.prog 12 #[.string (txt s)] w fun e w' => ∃ c zl ol vl b, cOf s = c /\ e = .returned (.tuple #[.agg #[.int .i64 c.n, zl, ol, vl, .int .i64 c.f], .bool b]) /\ Below w.heap.size w w' /\ CO w' (w.heap.size + 1) zl ol vl c := by
 refine (specReadCase_any s w hs).mono ?_
 rintro e w' (⟨c, zl, ol, vl, h1, rfl, hb, hz, ho, hv⟩ | ⟨h1, rfl, hb⟩)
 · exact ⟨c, zl, ol, vl, _, by unfold cOf; rw [<- specC_is, h1]; rfl, rfl, hb, hz, ho, hv⟩
 · exact ⟨cv0, _, _, _, _, by unfold cOf; rw [<- specC_is, h1]; rfl, rfl, hb, CO.nilQ _ _⟩
theorem planAny (s : List UInt8) (w : World) (hs : s.length <= 1048576) : Calls Tryz.prog 13 #[.string (txt s)] w fun e w' => ∃ S L rs ls b, pOf s = (S.map bare, L) /\ e = .returned (.tuple #[.agg #[rs, ls], .bool b]) /\ Below w.heap.size w w' /\ PO w' (w.heap.size + 1) rs S ls L := by
 refine (specReadPlan_any s w hs).mono ?_
 rintro e w' (⟨S, rs, ls, L, h1, rfl, hb, hp⟩ | ⟨h1, rfl, hb⟩)
 · exact ⟨S, L, rs, ls, _, by unfold pOf; rw [<- specRead_is, h1]; rfl, rfl, hb, hp⟩
 · exact ⟨[], [], _, _, _, by unfold pOf; rw [<- specRead_is, h1]; rfl, rfl, hb, PO.nilQ _ _⟩
theorem txt_keyQ {q : QV} {S : List RT} (h : q.R = S.map bare) : QV.txt ⟨q.kind, q.name, q.id, q.seed, q.steps, ⟨q.c.n, q.c.f, q.c.zs, q.c.os, q.c.vs, q.c.ko, q.c.kv⟩, S, q.L⟩ = q.txt := by
 obtain ⟨k, nm, id, sd, st, c, R, L⟩ := q
 simp only at h
 subst h
 have e1 := formB_key L (key_bareQ S)
 have e2 := planL_key L (key_bareQ S)
 have e3 : QV.ok ⟨k, nm, id, sd, st, c, S.map bare, L⟩ = QV.ok ⟨k, nm, id, sd, st, c, S, L⟩ := by
  unfold QV.ok QV.bare QV.calm
  simp only [e1, List.length_map]
 have e4 : QV.tx ⟨k, nm, id, sd, st, c, S.map bare, L⟩ = QV.tx ⟨k, nm, id, sd, st, c, S, L⟩ := by
  unfold QV.tx QV.nums QV.rest
  simp only [e2]
 unfold QV.txt
 rw [e3, e4]
theorem capI {w : World} {base n size c : Nat} {e : TypeId} {ad : Option Addr} {xs : List Value} (h : w.ownsRow base e size (.slice ad n c) n xs) : n <= c := by
 obtain ⟨_, ⟨h1, h2⟩ | ⟨g', c', cur, h1, _, _, h2, _⟩⟩ := h
 · injection h1; omega
 · injection h1; omega
theorem sq_small (s : List UInt8) : (sq s).name.length <= s.length /\ ((sq s).c.ko <= 12 /\ (sq s).c.kv <= 5 /\ (sq s).c.zs.length <= 1048576) /\ (sq s).R.length <= 5 /\ (sq s).L.length <= 12 /\ ∀ r ∈ (sq s).R, r.ids.length <= 12 := by
 refine ⟨?_, ?_, ?_⟩
 · have h1 := fstF_len 10 s
   have h2 := fstF_len 32 (fstF 10 s).1
   have h3 := fstF_len 32 (fstF 32 (fstF 10 s).1).2
   show (fstF 32 (fstF 32 (fstF 10 s).1).2).1.length <= s.length
   omega
 · unfold sq mkQ
   generalize (fstF 32 (fstF 10 s).1).1 = w
   generalize (fstF 10 s).2 = r
   show (CV.ko (if w = wSnap then cOf r else cv0) <= 12 /\ CV.kv (if w = wSnap then cOf r else cv0) <= 5 /\ (CV.zs (if w = wSnap then cOf r else cv0)).length <= 1048576)
   have h0 : cv0.ko <= 12 /\ cv0.kv <= 5 /\ cv0.zs.length <= 1048576 := by decide
   split
   · unfold cOf
     cases h : readC r with
     | none => exact h0
     | some c =>
       have hk : caseB c.n c.zs c.os c.vs c.ko c.kv c.f = true := (readC_is h).1
       obtain ⟨hm, _⟩ := caseB_four hk
       obtain ⟨m1, m2, m3, -⟩ := matB_true hm
       have hmm : c.n * c.n <= 16 * 16 := Int.mul_le_mul m2 m2 (by omega) (by omega)
       exact ⟨(caseB_lens hk).2.1, (caseB_lens hk).2.2, by show c.zs.length <= 1048576; omega⟩
   · exact h0
 · unfold sq mkQ
   generalize (fstF 32 (fstF 10 s).1).1 = w
   generalize (fstF 10 s).2 = r
   show ((if w = wPlan then (pOf r).1 else []).length <= 5 /\ (if w = wPlan then (pOf r).2 else []).length <= 12 /\ ∀ x ∈ (if w = wPlan then (pOf r).1 else []), x.ids.length <= 12)
   split
   · unfold pOf
     cases h : readF r with
     | none => exact ⟨Nat.zero_le _, Nat.zero_le _, fun x hx => by simp at hx⟩
     | some x =>
       obtain ⟨R, L⟩ := x
       obtain ⟨f1, f2, f3⟩ := (formB_iff R L).1 (readF_is h).1
       exact ⟨f1, ((idsB_iff L).1 f2).1, fun r hr => (f3 r hr).2.1⟩
   · exact ⟨Nat.zero_le _, Nat.zero_le _, fun x hx => by simp at hx⟩
set_option maxRecDepth 20000 in
set_option maxHeartbeats 8000000 in
theorem specReadReq_any (s : List UInt8) (w : World) (hs : s.length <= 1048576) : Calls Tryz.prog 4 #[.string (txt s)] w (SReadOkQ w s) := by
 have Z0 : Hid ((w.alloc (.cells #[.int .i64 0, .string ⟨#[]⟩, .int .i64 0, .int .i64 0, .int .i64 0, .int .i64 0, .slice none 0 0, .slice none 0 0, .slice none 0 0, .int .i64 0, .slice none 0 0, .slice none 0 0] 33)).heap[w.heap.size]? = some (.cells #[.int .i64 0, .string ⟨#[]⟩, .int .i64 0, .int .i64 0, .int .i64 0, .int .i64 0, .slice none 0 0, .slice none 0 0, .slice none 0 0, .int .i64 0, .slice none 0 0, .slice none 0 0] 33 (0, 0))) := heap_alloc_new _ _
 have B0 := hdn ((Below.refl w.heap.size w).alloc (Nat.le_refl _) (.cells #[.int .i64 0, .string ⟨#[]⟩, .int .i64 0, .int .i64 0, .int .i64 0, .int .i64 0, .slice none 0 0, .slice none 0 0, .slice none 0 0, .int .i64 0, .slice none 0 0, .slice none 0 0] 33))
 have HSQ : Hid (sq s = mkQ (fstF 32 (fstF 10 s).1).1 (fstF 32 (fstF 32 (fstF 10 s).1).2).1 (lOf (fstF 32 (fstF 10 s).1).2) (fstF 10 s).2) := rfl
 have HSL := hdn (hs)
 have HSR : Hid (readQ s = if s ≠ [] /\ (sq s).txt = s then some (sq s) else none) := (specReq_is s).symm
 have F1 := l11First_any s (w.alloc (.cells #[.int .i64 0, .string ⟨#[]⟩, .int .i64 0, .int .i64 0, .int .i64 0, .int .i64 0, .slice none 0 0, .slice none 0 0, .slice none 0 0, .int .i64 0, .slice none 0 0, .slice none 0 0] 33)) hs
 have hl1 := fstF_len 10 s
 obtain ⟨ln, HLN⟩ := nmd (fstF 10 s).1
 obtain ⟨rt, HRT⟩ := nmd (fstF 10 s).2
 rw [HLN.out] at HSQ F1 hl1
 rw [HRT.out] at HSQ F1 hl1
 have hl2 := fstF_len 32 ln
 obtain ⟨wd, HWD⟩ := nmd (fstF 32 ln).1
 obtain ⟨mo, HMO⟩ := nmd (fstF 32 ln).2
 have F2 := fun W => l11Word_any ln W (by omega)
 rw [HWD.out, HMO.out] at HSQ F2 hl2
 have hl3 := fstF_len 32 mo
 obtain ⟨nm, HNM⟩ := nmd (fstF 32 mo).1
 have F3 := fun W => l11Word_any mo W (by omega)
 have F4 := fun W => cutAny mo W (by omega)
 rw [HNM.out] at HSQ F3 hl3
 obtain ⟨l, HL⟩ := nmd (lOf mo)
 rw [HL.out] at HSQ F4
 have HRL : Hid (rt.length <= 1048576) := by show _ <= _; omega
 have HNL : Hid (nm.length <= 1048576) := by show _ <= _; omega
 have FF := hdn F3
 have FG := hdn F4
 have FE := hdn F2
 clear F2 F3 F4 hl1 hl2 hl3 hs HLN HRT HWD HMO HNM HL
 obtain ⟨a, HA⟩ := nmd (txt s)
 rw [HA.out] at F1 ⊢
 go_enter Tryz.func4, Tryz.ntmps4
 go_wp2_with fail
 generalize (w.alloc (.cells #[.int .i64 0, .string ⟨#[]⟩, .int .i64 0, .int .i64 0, .int .i64 0, .int .i64 0, .slice none 0 0, .slice none 0 0, .slice none 0 0, .int .i64 0, .slice none 0 0, .slice none 0 0] 33)) = W0 at *
 refine F1.mono ?_
 rintro e w1 ⟨rfl, hb⟩
 have Z1 := hdn (below_row hb (row_lt Z0.out) Z0.out)
 have B1 := hdn (B0.out.trans (hb.mono B0.out.size))
 clear hb Z0 B0 F1
 go_wp2_with fail
 refine (FE.out _).mono ?_
 rintro e w2 ⟨rfl, hb⟩
 have Z2 := hdn (below_row hb (row_lt Z1.out) Z1.out)
 have B2 := hdn (B1.out.trans (hb.mono B1.out.size))
 clear hb Z1 B1 FE
 go_wp2_with fail
 refine (FF.out _).mono ?_
 rintro e w3 ⟨rfl, hb⟩
 have Z3 := hdn (below_row hb (row_lt Z2.out) Z2.out)
 have B3 := hdn (B2.out.trans (hb.mono B2.out.size))
 clear hb Z2 B2 FF
 go_wp2_with fail
 refine (FG.out _).mono ?_
 rintro e w4 ⟨x, l', sl, b, hl, rfl, hb, ho⟩
 subst l'
 have Z4 := hdn (below_row hb (row_lt Z3.out) Z3.out)
 have B4 := hdn (B3.out.trans (hb.mono B3.out.size))
 have O4 := hdn (owns_base ho (Nat.le_trans (Nat.le_of_lt (row_lt Z3.out)) (Nat.le_refl _)))
 clear hb Z3 B3 FG ho
 obtain ⟨la, lc, e, -⟩ := own_sl9 O4.out
 subst e
 obtain ⟨m, HM⟩ := nmd l.length
 rw [HM.out] at O4 ⊢
 have S4 : Hid (SQ w (w4.alloc (.cells #[.int .i64 0, .string (txt nm), .int .i64 0, .int .i64 0, .int .i64 0, .int .i64 0, .slice none 0 0, .slice none 0 0, .slice none 0 0, .int .i64 0, .slice none 0 0, .slice none 0 0] 33)) w4.heap.size #[.int .i64 0, .string (txt nm), .int .i64 0, .int .i64 0, .int .i64 0, .int .i64 0, .slice none 0 0, .slice none 0 0, .slice none 0 0, .int .i64 0, .slice none 0 0, .slice none 0 0]) := ⟨B4.out.alloc B4.out.size _, (heap_alloc_old w4 _ (row_lt Z4.out)).trans Z4.out, heap_alloc_new _ _, row_lt Z4.out⟩
 have O5 := hdn (O4.out.alloc (.cells #[.int .i64 0, .string (txt nm), .int .i64 0, .int .i64 0, .int .i64 0, .int .i64 0, .slice none 0 0, .slice none 0 0, .slice none 0 0, .int .i64 0, .slice none 0 0, .slice none 0 0] 33))
 go_upto_if 39 with fail
 obtain ⟨NM, HNM⟩ := nmd (txt nm)
 rw [HNM.out] at S4 O5
 simp only [HNM.out]
 generalize (w4.alloc (.cells #[.int .i64 0, .string NM, .int .i64 0, .int .i64 0, .int .i64 0, .int .i64 0, .slice none 0 0, .slice none 0 0, .slice none 0 0, .int .i64 0, .slice none 0 0, .slice none 0 0] 33)) = W5 at *
 generalize w4.heap.size = qa at *
 clear Z4 B4 O4
 go_cut [] from 39 to 43 (fun wx => SQ w wx qa #[.int .i64 0, .string NM, .int .i64 (l.getD 0 0), .int .i64 0, .int .i64 0, .int .i64 0, .slice none 0 0, .slice none 0 0, .slice none 0 0, .int .i64 0, .slice none 0 0, .slice none 0 0] /\ wx.ownsRow w.heap.size 2 1 (.slice la m lc) m (l.map (Value.int .i64)))
 case first =>
  obtain ⟨d0, d1, d2, d3, d4, d5, d6, d7, d8, d9, d10, d11⟩ := cells12q S4.out.q
  have zf := fun i => frozen_of_row _ _ i _ _ S4.out.q
  by_cases hm : 0 < m
  · have hI := ownI O5.out (fun h => by omega)
    obtain ⟨b5, off, e, hc⟩ := hI 0 (by rw [HM.out]; exact hm)
    subst e
    obtain ⟨y, HY⟩ := nmd (l.getD 0 0)
    rw [HY.out, Nat.add_zero] at hc
    have hmI : (0 : Int) < (m : Int) := by omega
    go_wp2_with fail
    go_meet
    rw [HY.out]
    exact ⟨S4.out.put 2 _, own_grown O5.out (grown_set _ qa 2 _) (own_oth9 O5.out S4.out.q (by decide))⟩
  · have hl : l = [] := List.eq_nil_of_length_eq_zero (by rw [HM.out]; omega)
    have hmI : ¬ ((0 : Int) < (m : Int)) := by omega
    go_wp2_with fail
    go_meet
    exact ⟨by rw [hl]; exact S4.out, O5.out⟩
 case rest =>
  obtain ⟨hS, hO⟩ := hcut
  have S6 := hdn hS
  have O6 := hdn hO
  clear hS hO S4 O5
  obtain ⟨y, HY⟩ := nmd (l.getD 0 0)
  rw [HY.out] at S6
  obtain ⟨wt, HWT⟩ := nmd (txt wd)
  simp only [HWT.out]
  go_upto_block 0 with fail
  go_cut [] from 45 to 82 (fun wx => ∃ zl ol vl rs ls S, (sq s).R = S.map bare /\ SQ w wx qa #[.int .i64 (sq s).kind, .string (txt (sq s).name), .int .i64 (sq s).id, .int .i64 (sq s).seed, .int .i64 (sq s).steps, .int .i64 (sq s).c.n, zl, ol, vl, .int .i64 (sq s).c.f, rs, ls] /\ QO wx (w.heap.size + 1) zl ol vl rs ls S (sq s))
  case first =>
   have zf := fun i => frozen_of_row _ _ i _ _ S6.out.q
   have hqa := S6.out.hq
   obtain ⟨k0, k1, k2, k3, k4, k5, k6, k7, k8, k9, k10, k11⟩ := cells12q S6.out.q
   clear HSR
   by_cases e1 : wd = wSnap
   · have g1 : (wt.toList == [115, 110, 97, 112]) = true := by rw [<- HWT.out, txt_list, e1]; rfl
     have HM9 : Hid (mkQ wd nm l rt = ⟨1, nm, y, 0, 0, cOf rt, [], []⟩) := by show _ = _; rw [e1, <- HY.out]; rfl
     clear e1
     go_wp2_with fail
     refine (caseAny rt _ HRL.out).mono ?_
     rintro e w8 ⟨c, zl, ol, vl, b, hc, rfl, hb, hco⟩
     obtain ⟨ca, cn, cb, cm, cd, ck, rfl, rfl, rfl⟩ := hco.z0
     have S8 : Hid (SQ w w8 qa #[.int .i64 1, .string NM, .int .i64 y, .int .i64 0, .int .i64 0, .int .i64 0, .slice none 0 0, .slice none 0 0, .slice none 0 0, .int .i64 0, .slice none 0 0, .slice none 0 0]) := (S6.out.put 0 (.int .i64 1)).below hb
     obtain ⟨d0, d1, d2, d3, d4, d5, d6, d7, d8, d9, d10, d11⟩ := cells12q S8.out.q
     have C8 := hdn hco
     have zf8 := fun i => frozen_of_row _ _ i _ _ S8.out.q
     clear hb hco zf k0 k1 k2 k3 k4 k5 k6 k7 k8 k9 k10 k11
     go_wp2_with fail
     go_meet
     have SZ := ((((S8.out.put 5 (.int .i64 c.n)).put 6 (.slice ca c.zs.length cn)).put 7 (.slice cb c.ko cm)).put 8 (.slice cd c.kv ck)).put 9 (.int .i64 c.f)
     rw [HSQ.out, HM9.out, hc, HNM.out]
     have hBB : qa < (wc.setCell ⟨qa, 0, none⟩ (.int .i64 1)).heap.size + 1 := by have := row_lt S6.out.q; simp; omega
     have Q8 : QO w8 ((wc.setCell ⟨qa, 0, none⟩ (.int .i64 1)).heap.size + 1) (.slice ca c.zs.length cn) (.slice cb c.ko cm) (.slice cd c.kv ck) (.slice none 0 0) (.slice none 0 0) [] ⟨1, nm, y, 0, 0, c, [], []⟩ := ⟨C8.out, PO.nilQ _ _⟩
     exact ⟨_, _, _, _, _, [], rfl, SZ, (((((Q8.set hBB).set hBB).set hBB).set hBB).set hBB).base (by omega)⟩
   have g1 : (wt.toList == [115, 110, 97, 112]) = false := by rw [<- HWT.out, txt_list]; simpa [wSnap] using e1
   by_cases e2 : wd = wPlan
   · have g2 : (wt.toList == [112, 108, 97, 110]) = true := by rw [<- HWT.out, txt_list, e2]; rfl
     have HM9 : Hid (mkQ wd nm l rt = ⟨2, nm, y, 0, 0, cv0, (pOf rt).1, (pOf rt).2⟩) := by show _ = _; rw [e2, <- HY.out]; rfl
     clear e2
     go_wp2_with fail
     refine (planAny rt _ HRL.out).mono ?_
     rintro e w8 ⟨S, L, rs, ls, b, hc, rfl, hb, hpo⟩
     obtain ⟨pa, pc, rfl, -⟩ := own_sl9 hpo.r
     obtain ⟨qb, qc, rfl, -⟩ := own_sl9 hpo.l
     have S8 : Hid (SQ w w8 qa #[.int .i64 2, .string NM, .int .i64 y, .int .i64 0, .int .i64 0, .int .i64 0, .slice none 0 0, .slice none 0 0, .slice none 0 0, .int .i64 0, .slice none 0 0, .slice none 0 0]) := (S6.out.put 0 (.int .i64 2)).below hb
     obtain ⟨d0, d1, d2, d3, d4, d5, d6, d7, d8, d9, d10, d11⟩ := cells12q S8.out.q
     have P8 := hdn hpo
     have zf8 := fun i => frozen_of_row _ _ i _ _ S8.out.q
     clear hb hpo zf k0 k1 k2 k3 k4 k5 k6 k7 k8 k9 k10 k11
     go_wp2_with fail
     go_meet
     have SZ := (S8.out.put 10 (.slice pa S.length pc)).put 11 (.slice qb L.length qc)
     rw [HSQ.out, HM9.out, hc, HNM.out]
     have hBB : qa < (wc.setCell ⟨qa, 0, none⟩ (.int .i64 2)).heap.size + 1 := by have := row_lt S6.out.q; simp; omega
     have Q8 : QO w8 ((wc.setCell ⟨qa, 0, none⟩ (.int .i64 2)).heap.size + 1) (.slice none 0 0) (.slice none 0 0) (.slice none 0 0) (.slice pa S.length pc) (.slice qb L.length qc) S ⟨2, nm, y, 0, 0, cv0, S.map bare, L⟩ := ⟨CO.nilQ _ _, P8.out⟩
     exact ⟨_, _, _, _, _, S, rfl, SZ, ((Q8.set hBB).set hBB).base (by omega)⟩
   have g2 : (wt.toList == [112, 108, 97, 110]) = false := by rw [<- HWT.out, txt_list]; simpa [wPlan] using e2
   by_cases e3 : wd = wSearch
   · have g3 : (wt.toList == [115, 101, 97, 114, 99, 104]) = true := by rw [<- HWT.out, txt_list, e3]; rfl
     by_cases h3 : m = 3
     · have h3b : ((m : Int) == 3) = true := by rw [h3]; rfl
       obtain ⟨y1, HY1⟩ := nmd (l.getD 1 0)
       obtain ⟨y2, HY2⟩ := nmd (l.getD 2 0)
       have HM9 : Hid (mkQ wd nm l rt = ⟨3, nm, y, y1, y2, cv0, [], []⟩) := by
        show _ = _
        rw [e3]
        unfold mkQ
        rw [if_pos ⟨rfl, by rw [HM.out]; exact h3⟩, if_pos ⟨rfl, by rw [HM.out]; exact h3⟩, HY.out, HY1.out, HY2.out]
        rfl
       have m1 : (1 : Int) < (m : Int) := by omega
       have m2 : (2 : Int) < (m : Int) := by omega
       clear e3 h3
       rcases own_kinds O6.out with ⟨e9, h0⟩ | ⟨g9, c9, e9, -, -⟩
       · omega
       injection e9 with e9 e8 e7
       subst e9 e7
       clear e8
       have hne : g9 ≠ qa := fun e => own_oth9 O6.out S6.out.q (by decide) (by rw [<- e]; rfl)
       have hI := ownI O6.out (fun h => by omega)
       obtain ⟨b5, off, e, hc1⟩ := hI 1 (by rw [HM.out]; omega)
       obtain ⟨b6, off6, e6, hc2⟩ := hI 2 (by rw [HM.out]; omega)
       injection e with e; injection e with e e0; subst e e0
       injection e6 with e6; injection e6 with e6 e0; subst e6 e0
       rw [HY1.out, Nat.zero_add] at hc1
       rw [HY2.out, Nat.zero_add] at hc2
       clear hI
       go_wp2_with fail
       go_meet
       rw [HSQ.out, HM9.out, HNM.out]
       exact ⟨_, _, _, _, _, [], rfl, ((S6.out.put 0 (.int .i64 3)).put 3 (.int .i64 y1)).put 4 (.int .i64 y2), CO.nilQ _ _, PO.nilQ _ _⟩
     · have h3b : ((m : Int) == 3) = false := by simp; omega
       have HM9 : Hid (mkQ wd nm l rt = ⟨3, nm, y, 0, 0, cv0, [], []⟩) := by
        show _ = _
        rw [e3]
        unfold mkQ
        rw [if_neg (fun h => h3 (by rw [<- HM.out]; exact h.2)), if_neg (fun h => h3 (by rw [<- HM.out]; exact h.2)), HY.out]
        rfl
       clear e3
       go_wp2_with fail
       go_meet
       rw [HSQ.out, HM9.out, HNM.out]
       exact ⟨_, _, _, _, _, [], rfl, S6.out.put 0 (.int .i64 3), CO.nilQ _ _, PO.nilQ _ _⟩
   have g3 : (wt.toList == [115, 101, 97, 114, 99, 104]) = false := by rw [<- HWT.out, txt_list]; simpa [wSearch] using e3
   by_cases e4 : wd = wPublish
   · have g4 : (wt.toList == [112, 117, 98, 108, 105, 115, 104]) = true := by rw [<- HWT.out, txt_list, e4]; rfl
     have HM9 : Hid (mkQ wd nm l rt = ⟨4, nm, y, 0, 0, cv0, [], []⟩) := by show _ = _; rw [e4, <- HY.out]; rfl
     clear e4
     go_wp2_with fail
     go_meet
     rw [HSQ.out, HM9.out, HNM.out]
     exact ⟨_, _, _, _, _, [], rfl, S6.out.put 0 (.int .i64 4), CO.nilQ _ _, PO.nilQ _ _⟩
   have g4 : (wt.toList == [112, 117, 98, 108, 105, 115, 104]) = false := by rw [<- HWT.out, txt_list]; simpa [wPublish] using e4
   by_cases e5 : wd = wSweep
   · have g5 : (wt.toList == [115, 119, 101, 101, 112]) = true := by rw [<- HWT.out, txt_list, e5]; rfl
     have HM9 : Hid (mkQ wd nm l rt = ⟨5, nm, y, 0, 0, cv0, [], []⟩) := by show _ = _; rw [e5, <- HY.out]; rfl
     clear e5
     go_wp2_with fail
     go_meet
     rw [HSQ.out, HM9.out, HNM.out]
     exact ⟨_, _, _, _, _, [], rfl, S6.out.put 0 (.int .i64 5), CO.nilQ _ _, PO.nilQ _ _⟩
   have g5 : (wt.toList == [115, 119, 101, 101, 112]) = false := by rw [<- HWT.out, txt_list]; simpa [wSweep] using e5
   have HM9 : Hid (mkQ wd nm l rt = ⟨0, nm, y, 0, 0, cv0, [], []⟩) := by
    show _ = _
    unfold mkQ kOf
    simp only [e1, e2, e3, e4, e5, if_false, false_and, HY.out]
   clear e1 e2 e3 e4 e5
   go_wp2_with fail
   go_meet
   rw [HSQ.out, HM9.out, HNM.out]
   exact ⟨_, _, _, _, _, [], rfl, S6.out, CO.nilQ _ _, PO.nilQ _ _⟩
  case rest =>
   obtain ⟨zl, ol, vl, rs, ls, S, hR, hS, hQ⟩ := hcut
   clear HSQ HM HNM HWT S6 O6 HRL HNL
   obtain ⟨qv, HQV⟩ := nmd (sq s)
   rw [HQV.out] at hR hS hQ HSR
   have H7 := hdn hS
   have Q7 := hdn hQ
   have HRR := hdn hR
   have hlens := (sq_lens s).1
   have hsmall := sq_small s
   rw [HQV.out] at hlens hsmall
   have HSM : Hid (qv.c.lens /\ qv.name.length <= 1048576 /\ (qv.c.ko <= 12 /\ qv.c.kv <= 5 /\ qv.c.zs.length <= 1048576) /\ (qv.c.ko = 0 -> qv.c.os = []) /\ (qv.c.kv = 0 -> qv.c.vs = []) /\ qv.R.length <= 5 /\ qv.L.length <= 12 /\ ∀ r ∈ qv.R, r.ids.length <= 12) :=
    ⟨hlens, Nat.le_trans hsmall.1 HSL.out, hsmall.2.1, fun h => List.eq_nil_of_length_eq_zero (by rw [hlens.1, h]), fun h => List.eq_nil_of_length_eq_zero (by rw [hlens.2, h]), hsmall.2.2⟩
   clear hlens hsmall
   clear hS hQ hR HQV
   have HN0 : Hid (a.toList.isEmpty = decide (s = [])) := by show _ = _; rw [<- HA.out]; exact txt_nil s
   by_cases hnil : s = []
   · have hR : readQ s = none := by rw [HSR.out, if_neg (fun h => h.1 hnil)]
     have HR := hdn hR
     have h0 := HN0.out
     rw [decide_eq_true hnil] at h0
     clear hR hnil HSR HN0
     obtain ⟨z0, z1, z2, z3, z4, z5, z6, z7, z8, z9, z10, z11⟩ := cells12q H7.out.z
     have zf := fun i => frozen_of_row _ _ i _ _ H7.out.z
     go_wp2_with fail
     clear zf z0 z1 z2 z3 z4 z5 z6 z7 z8 z9 z10 z11
     have HGF := hdn (putAll_grown w.heap.size [.int .i64 0, .string ⟨#[]⟩, .int .i64 0, .int .i64 0, .int .i64 0, .int .i64 0, .slice none 0 0, .slice none 0 0, .slice none 0 0, .int .i64 0, .slice none 0 0, .slice none 0 0] 0 wc)
     have ZR := hdn (putAll12 (.int .i64 0) (.string ⟨#[]⟩) (.int .i64 0) (.int .i64 0) (.int .i64 0) (.int .i64 0) (.slice none 0 0) (.slice none 0 0) (.slice none 0 0) (.int .i64 0) (.slice none 0 0) (.slice none 0 0) H7.out.z)
     have BF := hdn (Below.grown H7.out.b HGF.out H7.out.b.size (fun g e => by injection e with e; omega))
     refine bodyPost_ret (w := putAll w.heap.size [.int .i64 0, .string ⟨#[]⟩, .int .i64 0, .int .i64 0, .int .i64 0, .int .i64 0, .slice none 0 0, .slice none 0 0, .slice none 0 0, .int .i64 0, .slice none 0 0, .slice none 0 0] 0 wc) (v := .tuple #[.agg #[.int .i64 0, .string ⟨#[]⟩, .int .i64 0, .int .i64 0, .int .i64 0, .int .i64 0, .slice none 0 0, .slice none 0 0, .slice none 0 0, .int .i64 0, .slice none 0 0, .slice none 0 0], .bool false]) ?_ rfl ?_
     · have r1 := run_loadVar_row (P := Tryz.prog) _ w.heap.size 33 33 #[.int .i64 0, .string ⟨#[]⟩, .int .i64 0, .int .i64 0, .int .i64 0, .int .i64 0, .slice none 0 0, .slice none 0 0, .slice none 0 0, .int .i64 0, .slice none 0 0, .slice none 0 0] (0, 0) _ ZR.out Tryz.underlying33 rfl sizeReq
       simp [results, Tryz.results4, asAddr, r1]
     · exact .inr ⟨HR.out, rfl, BF.out⟩
   · have h0 := HN0.out
     rw [decide_eq_false hnil] at h0
     have HNN := hdn hnil
     clear hnil HN0
     obtain ⟨ca, cn, cb, cm, cd, ck, rfl, rfl, rfl⟩ := Q7.out.c.z0
     obtain ⟨pa, pc, rfl, -⟩ := own_sl9 Q7.out.p.r
     obtain ⟨qb, qc, rfl, -⟩ := own_sl9 Q7.out.p.l
     have QA7 : QA wc ca cb cd pa qb qv.c.zs qv.c.os qv.c.vs S qv.L := ⟨ownI Q7.out.c.z (fun h => List.eq_nil_of_length_eq_zero h), ownI Q7.out.c.o (fun h => HSM.out.2.2.2.1 h), ownI Q7.out.c.v (fun h => HSM.out.2.2.2.2.1 h), Q7.out.p.at, po_lQ Q7.out.p⟩
     have hSl : S.length = qv.R.length := by rw [HRR.out, List.length_map]
     have hBK := HSM.out.2.2.1
     have hRL := HSM.out.2.2.2.2.2
     have QZ7 : QZ qv.name qv.c.zs.length cn qv.c.ko qv.c.kv S.length qv.L.length qv.c.zs qv.c.os qv.c.vs S qv.L :=
      ⟨Nat.le_trans HSM.out.2.1 (by decide), rfl, HSM.out.1.1, HSM.out.1.2, by omega, capI Q7.out.c.z, rfl, rfl, by omega, fun r hr => Nat.le_trans (hRL.2.2 (bare r) (by rw [HRR.out]; exact List.mem_map_of_mem hr)) (by decide), fun r hr => by
        rcases own_kinds (Q7.out.p.s r hr) with ⟨e, h0⟩ | ⟨g, c, e, -, -⟩
        · simp only [Value.slice.injEq] at e
          exact .inl ⟨e.1, List.length_eq_zero_iff.1 h0⟩
        · simp only [Value.slice.injEq] at e
          exact .inr ⟨g, 0, e.1⟩⟩
     clear hSl hBK hRL
     have C := reqText_any qv.kind qv.id qv.seed qv.steps qv.c.n qv.c.f qv.name ca cb cd pa qb qv.c.zs.length cn qv.c.ko cm qv.c.kv ck S.length pc qv.L.length qc qv.c.zs qv.c.os qv.c.vs qv.L S wc QA7 QZ7
     have hte : QV.txt ⟨qv.kind, qv.name, qv.id, qv.seed, qv.steps, ⟨qv.c.n, qv.c.f, qv.c.zs, qv.c.os, qv.c.vs, qv.c.ko, qv.c.kv⟩, S, qv.L⟩ = qv.txt := txt_keyQ HRR.out
     rw [hte] at C
     obtain ⟨tq, HTQ⟩ := nmd (txt qv.txt)
     rw [HTQ.out] at C
     clear hte QA7 QZ7
     obtain ⟨d0, d1, d2, d3, d4, d5, d6, d7, d8, d9, d10, d11⟩ := cells12q H7.out.q
     go_wp2_with fail
     clear d0 d1 d2 d3 d4 d5 d6 d7 d8 d9 d10 d11
     refine C.mono ?_
     rintro e w9 ⟨rfl, hb⟩
     have H9 := hdn (H7.out.below hb)
     have Q9 := hdn (Q7.out.below hb)
     clear hb C H7 Q7
     obtain ⟨d0, d1, d2, d3, d4, d5, d6, d7, d8, d9, d10, d11⟩ := cells12q H9.out.q
     obtain ⟨z0, z1, z2, z3, z4, z5, z6, z7, z8, z9, z10, z11⟩ := cells12q H9.out.z
     have zf := fun i => frozen_of_row _ _ i _ _ H9.out.z
     by_cases hE : qv.txt = s
     · have hR : readQ s = some qv := by rw [HSR.out, if_pos ⟨HNN.out, hE⟩]
       have HR := hdn hR
       have hcmp : (tq.toList == a.toList) = true := by rw [<- HTQ.out, <- HA.out, hE]; exact str_eq rfl
       clear hR hE HSR
       go_wp2_with fail
       clear d0 d1 d2 d3 d4 d5 d6 d7 d8 d9 d10 d11 z0 z1 z2 z3 z4 z5 z6 z7 z8 z9 z10 z11 zf
       have HGF := hdn (putAll_grown w.heap.size [.int .i64 qv.kind, .string (txt qv.name), .int .i64 qv.id, .int .i64 qv.seed, .int .i64 qv.steps, .int .i64 qv.c.n, .slice ca qv.c.zs.length cn, .slice cb qv.c.ko cm, .slice cd qv.c.kv ck, .int .i64 qv.c.f, .slice pa S.length pc, .slice qb qv.L.length qc] 0 w9)
       have ZR := hdn (putAll12 (.int .i64 qv.kind) (.string (txt qv.name)) (.int .i64 qv.id) (.int .i64 qv.seed) (.int .i64 qv.steps) (.int .i64 qv.c.n) (.slice ca qv.c.zs.length cn) (.slice cb qv.c.ko cm) (.slice cd qv.c.kv ck) (.int .i64 qv.c.f) (.slice pa S.length pc) (.slice qb qv.L.length qc) H9.out.z)
       have BF := hdn (Below.grown H9.out.b HGF.out H9.out.b.size (fun g e => by injection e with e; omega))
       refine bodyPost_ret (w := putAll w.heap.size [.int .i64 qv.kind, .string (txt qv.name), .int .i64 qv.id, .int .i64 qv.seed, .int .i64 qv.steps, .int .i64 qv.c.n, .slice ca qv.c.zs.length cn, .slice cb qv.c.ko cm, .slice cd qv.c.kv ck, .int .i64 qv.c.f, .slice pa S.length pc, .slice qb qv.L.length qc] 0 w9) (v := .tuple #[.agg #[.int .i64 qv.kind, .string (txt qv.name), .int .i64 qv.id, .int .i64 qv.seed, .int .i64 qv.steps, .int .i64 qv.c.n, .slice ca qv.c.zs.length cn, .slice cb qv.c.ko cm, .slice cd qv.c.kv ck, .int .i64 qv.c.f, .slice pa S.length pc, .slice qb qv.L.length qc], .bool true]) ?_ rfl ?_
       · have r1 := run_loadVar_row (P := Tryz.prog) _ w.heap.size 33 33 #[.int .i64 qv.kind, .string (txt qv.name), .int .i64 qv.id, .int .i64 qv.seed, .int .i64 qv.steps, .int .i64 qv.c.n, .slice ca qv.c.zs.length cn, .slice cb qv.c.ko cm, .slice cd qv.c.kv ck, .int .i64 qv.c.f, .slice pa S.length pc, .slice qb qv.L.length qc] (0, 0) _ ZR.out Tryz.underlying33 rfl sizeReq
         simp [results, Tryz.results4, asAddr, r1]
       · exact .inl ⟨qv, _, _, _, _, _, S, HR.out, HRR.out, rfl, BF.out, ⟨Q9.out.c.otherQ HGF.out (by omega), Q9.out.p.otherQ HGF.out (by omega)⟩⟩
     · have hR : readQ s = none := by rw [HSR.out, if_neg (fun h => hE h.2)]
       have HR := hdn hR
       have hcmp : (tq.toList == a.toList) = false := by rw [<- HTQ.out, <- HA.out]; exact str_ne (fun e => hE (txt_inj e))
       clear hR hE HSR
       go_wp2_with fail
       clear d0 d1 d2 d3 d4 d5 d6 d7 d8 d9 d10 d11 z0 z1 z2 z3 z4 z5 z6 z7 z8 z9 z10 z11 zf
       have HGF := hdn (putAll_grown w.heap.size [.int .i64 0, .string ⟨#[]⟩, .int .i64 0, .int .i64 0, .int .i64 0, .int .i64 0, .slice none 0 0, .slice none 0 0, .slice none 0 0, .int .i64 0, .slice none 0 0, .slice none 0 0] 0 w9)
       have ZR := hdn (putAll12 (.int .i64 0) (.string ⟨#[]⟩) (.int .i64 0) (.int .i64 0) (.int .i64 0) (.int .i64 0) (.slice none 0 0) (.slice none 0 0) (.slice none 0 0) (.int .i64 0) (.slice none 0 0) (.slice none 0 0) H9.out.z)
       have BF := hdn (Below.grown H9.out.b HGF.out H9.out.b.size (fun g e => by injection e with e; omega))
       refine bodyPost_ret (w := putAll w.heap.size [.int .i64 0, .string ⟨#[]⟩, .int .i64 0, .int .i64 0, .int .i64 0, .int .i64 0, .slice none 0 0, .slice none 0 0, .slice none 0 0, .int .i64 0, .slice none 0 0, .slice none 0 0] 0 w9) (v := .tuple #[.agg #[.int .i64 0, .string ⟨#[]⟩, .int .i64 0, .int .i64 0, .int .i64 0, .int .i64 0, .slice none 0 0, .slice none 0 0, .slice none 0 0, .int .i64 0, .slice none 0 0, .slice none 0 0], .bool false]) ?_ rfl ?_
       · have r1 := run_loadVar_row (P := Tryz.prog) _ w.heap.size 33 33 #[.int .i64 0, .string ⟨#[]⟩, .int .i64 0, .int .i64 0, .int .i64 0, .int .i64 0, .slice none 0 0, .slice none 0 0, .slice none 0 0, .int .i64 0, .slice none 0 0, .slice none 0 0] (0, 0) _ ZR.out Tryz.underlying33 rfl sizeReq
         simp [results, Tryz.results4, asAddr, r1]
       · exact .inr ⟨HR.out, rfl, BF.out⟩
def qv0 : QV := ⟨0, [], 0, 0, 0, cv0, [], []⟩
def rdQ (s : List UInt8) : QV := match readQ s with | some q => q | none => qv0
def rdQB (s : List UInt8) : Bool := (readQ s).isSome
theorem okc_small {c : CV} (h1 : c.ok = true) (h2 : c.lens) : c.zs.length <= 256 /\ c.ko <= 12 /\ c.kv <= 5 /\ c.os.length = c.ko * 6 /\ c.vs.length = c.kv * 5 := by
 obtain ⟨n, f, zs, os, vs, ko, kv⟩ := c
 have hc : caseB n zs os vs ko kv f = true := h1
 obtain ⟨k1, k2, k3, -⟩ := caseB_four hc
 obtain ⟨m1, m2, m3, -⟩ := matB_true k1
 have e1 := (ordsB_true k2).1
 have e2 := (vehsB_true k3).1
 have m4 : n * n <= 16 * 16 := Int.mul_le_mul m2 m2 (by omega) (by omega)
 exact ⟨by simp only; omega, by simp only; omega, by simp only; omega, h2.1, h2.2⟩
theorem cv0_small : cv0.zs.length <= 256 /\ cv0.ko <= 12 /\ cv0.kv <= 5 /\ cv0.os.length = cv0.ko * 6 /\ cv0.vs.length = cv0.kv * 5 := by simp [cv0]
def QV.small (q : QV) : Prop := (q.c.zs.length <= 256 /\ q.c.ko <= 12 /\ q.c.kv <= 5 /\ q.c.os.length = q.c.ko * 6 /\ q.c.vs.length = q.c.kv * 5) /\ q.R.length <= 5 /\ (∀ r ∈ q.R, r.ids.length <= 12) /\ q.L.length <= 12
theorem okq_small {q : QV} (h : q.ok = true) (hl : q.c.lens) : q.small := by
 have nilR : q.bare = true -> q.R.length <= 5 /\ (∀ r ∈ q.R, r.ids.length <= 12) /\ q.L.length <= 12 := fun hb => by
  obtain ⟨b1, b2⟩ := bare_nil hb
  rw [b1, b2]
  simp
 have nilC : noC q.c = true -> q.c.zs.length <= 256 /\ q.c.ko <= 12 /\ q.c.kv <= 5 /\ q.c.os.length = q.c.ko * 6 /\ q.c.vs.length = q.c.kv * 5 := fun hb => by
  rw [noC_cv0 hb hl]
  exact cv0_small
 unfold QV.ok at h
 rw [Bool.and_eq_true] at h
 have hk := h.2
 clear h
 unfold QV.small
 split at hk
 · simp only [Bool.and_eq_true] at hk
   exact ⟨okc_small hk.1 hl, nilR hk.2.1⟩
 · split at hk
   · simp only [Bool.and_eq_true] at hk
     obtain ⟨h1, h2, h3⟩ := (formB_iff q.R q.L).1 hk.2.1
     exact ⟨nilC hk.1, h1, fun r hr => (h3 r hr).2.1, ((idsB_iff q.L).1 h2).1⟩
   · split at hk
     · simp only [Bool.and_eq_true] at hk
       exact ⟨nilC hk.1, nilR hk.2.1⟩
     · split at hk
       · simp only [Bool.and_eq_true] at hk
         exact ⟨nilC hk.1, nilR hk.2.1⟩
       · split at hk
         · simp only [Bool.and_eq_true] at hk
           exact ⟨nilC hk.1, nilR hk.2.1⟩
         · cases hk
theorem rdQ_small (s : List UInt8) : (rdQ s).small := by
 unfold rdQ
 cases h : readQ s with
 | none => exact ⟨cv0_small, by simp [qv0]⟩
 | some q => exact okq_small (readQ_is h).1 (readQ_is h).2.1
theorem key_bare9 {R S : List RT} (h : R = S.map bare) : S.map RT.key = R.map RT.key := by rw [h, List.map_map]; rfl
structure RK (w : World) (base : Nat) (za : Option Addr) (nz zc : Nat) (oa : Option Addr) (no oc : Nat) (va : Option Addr) (nv vc : Nat) (ra : Option Addr) (n rc : Nat) (la : Option Addr) (m lc : Nat) (zs os vs : List Int) (S : List RT) (L : List Int) : Prop where
 c : CK w base za nz zc oa no oc va nv vc zs os vs
 p : PL w base ra rc la lc n m S L
theorem RK.below {w w' : World} {base nz zc no oc nv vc n rc m lc : Nat} {za oa va ra la : Option Addr} {zs os vs L : List Int} {S : List RT} (h : RK w base za nz zc oa no oc va nv vc ra n rc la m lc zs os vs S L) (hb : Below w.heap.size w w') : RK w' base za nz zc oa no oc va nv vc ra n rc la m lc zs os vs S L := ⟨h.c.below hb, h.p.below hb⟩
structure RL (B : Nat) (za : Option Addr) (nz zc : Nat) (oa : Option Addr) (no oc : Nat) (va : Option Addr) (nv vc : Nat) (ra : Option Addr) (n rc : Nat) (la : Option Addr) (m lc : Nat) (S : List RT) : Prop where
 c : ∀ b, caseBl (.slice za nz zc) (.slice oa no oc) (.slice va nv vc) b -> b < B
 p : LO B ra rc la lc n m S
theorem RK.low {w : World} {base nz zc no oc nv vc n rc m lc : Nat} {za oa va ra la : Option Addr} {zs os vs L : List Int} {S : List RT} (h : RK w base za nz zc oa no oc va nv vc ra n rc la m lc zs os vs S L) : RL w.heap.size za nz zc oa no oc va nv vc ra n rc la m lc S := ⟨fun b hb => (h.c.tops b hb).2, h.p.low⟩
theorem RK.keep {B : Nat} {w w' : World} {base nz zc no oc nv vc n rc m lc : Nat} {za oa va ra la : Option Addr} {zs os vs L : List Int} {S : List RT} (h : RK w base za nz zc oa no oc va nv vc ra n rc la m lc zs os vs S L) (hb : Below B w w') (lo : RL B za nz zc oa no oc va nv vc ra n rc la m lc S) : RK w' base za nz zc oa no oc va nv vc ra n rc la m lc zs os vs S L :=
 ⟨⟨own_keeps h.c.z hb (fun k e => lo.c k (.inl e)), own_keeps h.c.o hb (fun k e => lo.c k (.inr (.inl e))), own_keeps h.c.v hb (fun k e => lo.c k (.inr (.inr e)))⟩, h.p.keep hb lo.p⟩
theorem RK.qa {w : World} {base nz zc no oc nv vc n rc m lc : Nat} {za oa va ra la : Option Addr} {zs os vs L : List Int} {S : List RT} (h : RK w base za nz zc oa no oc va nv vc ra n rc la m lc zs os vs S L) : QA w za oa va ra la zs os vs S L := ⟨own_intsC h.c.z, own_intsC h.c.o, own_intsC h.c.v, h.p.at, h.p.lf⟩
theorem own_capQ {w : World} {base n size c : Nat} {e : TypeId} {a : Option Addr} {xs : List Value} (h : w.ownsRow base e size (.slice a n c) n xs) : n <= c := by
 rcases own_kinds h with ⟨e1, h0⟩ | ⟨g, c', e1, -, -⟩
 · omega
 · simp only [Value.slice.injEq, true_and] at e1
   obtain ⟨rfl, rfl⟩ := e1
   obtain ⟨cur, -, -, k3, -⟩ := own_row_of h
   exact k3
theorem RK.qz {w : World} {base nz zc no oc nv vc n rc m lc : Nat} {za oa va ra la : Option Addr} {zs os vs L : List Int} {S : List RT} (h : RK w base za nz zc oa no oc va nv vc ra n rc la m lc zs os vs S L) (hz : zs.length = nz) (ho : os.length = no * 6) (hv : vs.length = nv * 5) (bz : nz <= 256) (bo : no <= 12) (bv : nv <= 5) (bn : n <= 5) (bm : m <= 12) (hi : ∀ s ∈ S, s.ids.length <= 12) : QZ [] nz zc no nv n m zs os vs S L :=
 ⟨by simp, hz, ho, hv, by omega, own_capQ h.c.z, h.p.2.1, h.p.2.2, by omega, fun r hr => by have := hi r hr; omega, fun r hr => by
   have h9 := h.p.1.s r hr
   rcases own_kinds h9 with ⟨e1, h0⟩ | ⟨g, c', e1, -, -⟩
   · simp only [Value.slice.injEq] at e1
     exact .inl ⟨e1.1, List.eq_nil_of_length_eq_zero h0⟩
   · simp only [Value.slice.injEq] at e1
     exact .inr ⟨g, 0, e1.1⟩⟩
theorem eqRK {w : World} {b1 b2 nz zc1 no oc1 nv vc1 n rc1 m lc1 zc2 oc2 vc2 rc2 lc2 : Nat} {za1 oa1 va1 ra1 la1 za2 oa2 va2 ra2 la2 : Option Addr} {zs os vs L : List Int} {S1 S2 : List RT} (k id sd st cn cf : Int) (nm : ByteArray) (h1 : RK w b1 za1 nz zc1 oa1 no oc1 va1 nv vc1 ra1 n rc1 la1 m lc1 zs os vs S1 L) (h2 : RK w b2 za2 nz zc2 oa2 no oc2 va2 nv vc2 ra2 n rc2 la2 m lc2 zs os vs S2 L) (hk : S2.map RT.key = S1.map RT.key) (hz : zs.length = nz) (ho : os.length = no * 6) (hv : vs.length = nv * 5) (bz : nz <= 256) (bo : no <= 12) (bv : nv <= 5) (bn : n <= 5) (bm : m <= 12) (hi : ∀ s ∈ S1, s.ids.length <= 12) :
 Calls Tryz.prog 6 #[.agg #[.int .i64 k, .string nm, .int .i64 id, .int .i64 sd, .int .i64 st, .int .i64 cn, .slice za1 nz zc1, .slice oa1 no oc1, .slice va1 nv vc1, .int .i64 cf, .slice ra1 n rc1, .slice la1 m lc1], .agg #[.int .i64 k, .string nm, .int .i64 id, .int .i64 sd, .int .i64 st, .int .i64 cn, .slice za2 nz zc2, .slice oa2 no oc2, .slice va2 nv vc2, .int .i64 cf, .slice ra2 n rc2, .slice la2 m lc2]] w fun e w' => e = .returned (.bool true) /\ Below w.heap.size w w' :=
 eqReq_same k id sd st cn cf nm [] za1 oa1 va1 ra1 la1 za2 oa2 va2 ra2 la2 nz zc1 no oc1 nv vc1 n rc1 m lc1 zc2 oc2 vc2 rc2 lc2 zs os vs L S1 S2 w h1.qa h2.qa hk (h1.qz hz ho hv bz bo bv bn bm hi)
theorem implReadQ_is {w w' : World} {s : List UInt8} {e : Ending} (h : ReadOkQ w s e w') : ∃ za zc oa oc va vc ra rc la lc S, e = .returned (.tuple #[.agg #[.int .i64 (rdQ s).kind, .string (txt (rdQ s).name), .int .i64 (rdQ s).id, .int .i64 (rdQ s).seed, .int .i64 (rdQ s).steps, .int .i64 (rdQ s).c.n, .slice za (rdQ s).c.zs.length zc, .slice oa (rdQ s).c.ko oc, .slice va (rdQ s).c.kv vc, .int .i64 (rdQ s).c.f, .slice ra (rdQ s).R.length rc, .slice la (rdQ s).L.length lc], .bool (rdQB s)]) /\ Below w.heap.size w w' /\ RK w' (w.heap.size + 3) za (rdQ s).c.zs.length zc oa (rdQ s).c.ko oc va (rdQ s).c.kv vc ra (rdQ s).R.length rc la (rdQ s).L.length lc (rdQ s).c.zs (rdQ s).c.os (rdQ s).c.vs S (rdQ s).L /\ Apt S la /\ NilQ (.slice za (rdQ s).c.zs.length zc) (.slice oa (rdQ s).c.ko oc) (.slice va (rdQ s).c.kv vc) (.slice ra (rdQ s).R.length rc) la S /\ S.map RT.key = (rdQ s).R.map RT.key := by
 rcases h with ⟨qv, zl, ol, vl, rs, la, lc, S, hr, hS, rfl, hb, ho, hap, hnq⟩ | ⟨hr, rfl, hb⟩
 · obtain ⟨za, zc, oa, oc, va, vc, rfl, rfl, rfl⟩ := ho.c.z0
   obtain ⟨ra, rc, e1, -⟩ := own_sl ho.p.r
   subst e1
   have e1 : rdQ s = qv := by unfold rdQ; rw [hr]
   have e2 : rdQB s = true := by unfold rdQB; rw [hr]; rfl
   have e3 : S.length = qv.R.length := by rw [hS, List.length_map]
   rw [e1, e2, <- e3]
   exact ⟨za, zc, oa, oc, va, vc, ra, rc, la, lc, S, rfl, hb, ⟨⟨ho.c.z, ho.c.o, ho.c.v⟩, ho.p, rfl, rfl⟩, hap, hnq, key_bare9 hS⟩
 · have e1 : rdQ s = qv0 := by unfold rdQ; rw [hr]
   have e2 : rdQB s = false := by unfold rdQB; rw [hr]; rfl
   rw [e1, e2]
   refine ⟨none, 0, none, 0, none, 0, none, 0, none, 0, [], rfl, hb, ⟨⟨(CO.nil0 w' _).z, (CO.nil0 w' _).o, (CO.nil0 w' _).v⟩, PO.nil0 _ _, rfl, rfl⟩, by simp [Apt], .inl ⟨rfl, rfl, rfl⟩, rfl⟩
theorem specReadQ_is {w w' : World} {s : List UInt8} {e : Ending} (h : SReadOkQ w s e w') : ∃ za zc oa oc va vc ra rc la lc S, e = .returned (.tuple #[.agg #[.int .i64 (rdQ s).kind, .string (txt (rdQ s).name), .int .i64 (rdQ s).id, .int .i64 (rdQ s).seed, .int .i64 (rdQ s).steps, .int .i64 (rdQ s).c.n, .slice za (rdQ s).c.zs.length zc, .slice oa (rdQ s).c.ko oc, .slice va (rdQ s).c.kv vc, .int .i64 (rdQ s).c.f, .slice ra (rdQ s).R.length rc, .slice la (rdQ s).L.length lc], .bool (rdQB s)]) /\ Below w.heap.size w w' /\ RK w' (w.heap.size + 1) za (rdQ s).c.zs.length zc oa (rdQ s).c.ko oc va (rdQ s).c.kv vc ra (rdQ s).R.length rc la (rdQ s).L.length lc (rdQ s).c.zs (rdQ s).c.os (rdQ s).c.vs S (rdQ s).L /\ S.map RT.key = (rdQ s).R.map RT.key := by
 rcases h with ⟨qv, zl, ol, vl, rs, ls, S, hr, hS, rfl, hb, ho⟩ | ⟨hr, rfl, hb⟩
 · obtain ⟨za, zc, oa, oc, va, vc, rfl, rfl, rfl⟩ := ho.c.z0
   obtain ⟨ra, rc, e1, -⟩ := own_sl ho.p.r
   obtain ⟨la, lc, e2, -⟩ := own_sl ho.p.l
   subst e1 e2
   have e1 : rdQ s = qv := by unfold rdQ; rw [hr]
   have e2 : rdQB s = true := by unfold rdQB; rw [hr]; rfl
   have e3 : S.length = qv.R.length := by rw [hS, List.length_map]
   rw [e1, e2, <- e3]
   exact ⟨za, zc, oa, oc, va, vc, ra, rc, la, lc, S, rfl, hb, ⟨⟨ho.c.z, ho.c.o, ho.c.v⟩, ho.p, rfl, rfl⟩, key_bare9 hS⟩
 · have e1 : rdQ s = qv0 := by unfold rdQ; rw [hr]
   have e2 : rdQB s = false := by unfold rdQB; rw [hr]; rfl
   rw [e1, e2]
   exact ⟨none, 0, none, 0, none, 0, none, 0, none, 0, [], rfl, hb, ⟨⟨(CO.nil0 w' _).z, (CO.nil0 w' _).o, (CO.nil0 w' _).v⟩, PO.nil0 _ _, rfl, rfl⟩, rfl⟩
end Go.Proofs.YtcapkcallaajaaaGreatDoor
