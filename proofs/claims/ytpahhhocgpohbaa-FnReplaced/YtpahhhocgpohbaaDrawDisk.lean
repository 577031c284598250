import Derived.Test.YtpahhhocgpohbaaDiskDraw
import Derived.Deep.RegionHeld3
import Derived.Deep.CutRange
import Derived.Laws.BytesArg
import Derived.Laws.MakeOwn
namespace Go.Proofs.Ytpahhhocgpohbaa
open Go.RowKit

/-- A row that the call made, or none. -/
def NewA (m : Nat) (x : Option Addr) : Prop := ∀ b off, x = some ⟨b, off, none⟩ → m ≤ b
theorem own_new {w : World} {base k e size n c : Nat} {ao : Option Addr} {xs : List Value} (h : w.ownsRow base e size (.slice ao n c) k xs) : NewA base ao := fun b off hb => by
  obtain ⟨_, ⟨h1, _⟩ | ⟨g, cap, cur, h2, h3, _⟩⟩ := h
  · injection h1 with h1 _ _
    rw [h1] at hb
    cases hb
  · injection h2 with h2 _ _
    rw [h2] at hb
    injection hb with hb
    injection hb with hb _ _
    omega
/-- What a drawn disk answers. -/
def DiskOkD (w : World) (q : Nat) (a : Option Addr) (bs : List Int) (c : Nat) (e : Ending) (w' : World) : Prop :=
  ∃ (la sa oa : Option Addr) (ln sn on lc sc oc p' : Nat) (L S : List FI) (O : List OP), e = .returned (.agg #[.slice la ln lc, .slice sa sn sc, .slice oa on oc]) ∧ DAt w' la sa oa L S O ∧ DskOk L S O ∧ (L.length = ln ∧ S.length = sn ∧ O.length = on) ∧ (on ≤ oc ∧ (oa = none → on = 0 ∧ oc = 0)) ∧ (NewA w.heap.size la ∧ NewA w.heap.size sa ∧ NewA w.heap.size oa) ∧ RD w' q a bs c p' ∧ w.grownBy w' (some q)
/-- Inside the draw, behind the loop: a disk that may be no right one. -/
structure DE (w W : World) (q : Nat) (a : Option Addr) (bs : List Int) (c : Nat) (la sa oa : Option Addr) (ln sn on lc sc oc : Nat) (L S : List FI) (O : List OP) : Prop where
  r0 : ∃ p, RD w q a bs c p
  rd : ∃ p, RD W q a bs c p
  g : w.grownBy W (some q)
  r2 : W.heap[w.heap.size]? = some (.cells #[.slice none 0 0, .slice none 0 0, .slice none 0 0] 27 (0, 0))
  r3 : W.heap[w.heap.size + 1]? = some (.cells #[.slice la ln lc, .slice sa sn sc, .slice oa on oc] 27 (0, 0))
  da : DAt W la sa oa L S O
  ok : DskOk L S O
  ln : L.length = ln ∧ S.length = sn ∧ O.length = on
  cp : on ≤ oc ∧ (oa = none → on = 0 ∧ oc = 0)
  nw : NewA w.heap.size la ∧ NewA w.heap.size sa ∧ NewA w.heap.size oa
theorem DE.fin {w W : World} {q c ln sn on lc sc oc : Nat} {a la sa oa : Option Addr} {bs : List Int} {L S : List FI} {O : List OP} (h : DE w W q a bs c la sa oa ln sn on lc sc oc L S O) : DiskOkD w q a bs c (.returned (.agg #[.slice la ln lc, .slice sa sn sc, .slice oa on oc])) (((W.setCell ⟨w.heap.size, 0, none⟩ (.slice la ln lc)).setCell ⟨w.heap.size, 1, none⟩ (.slice sa sn sc)).setCell ⟨w.heap.size, 2, none⟩ (.slice oa on oc)) := by
  obtain ⟨p, hr⟩ := h.rd
  obtain ⟨k1, k2⟩ := rd_box3 (x := .slice la ln lc) (y := .slice sa sn sc) (z := .slice oa on oc) h.r0 hr h.g (Nat.le_refl _)
  exact ⟨la, sa, oa, ln, sn, on, lc, sc, oc, p, L, S, O, rfl, h.da.box3 h.r2, h.ok, h.ln, h.cp, h.nw, k1, k2⟩
theorem ops_tail {w : World} {og oc : Nat} {O : List OP} (h : OpsAt w (some ⟨og, 0, none⟩) O) (hc : O.length ≤ oc) : OpsAt w (if oc = 1 then some ⟨og, 0, none⟩ else some ⟨og, 4, none⟩) O.tail := fun j hj => by
  rw [List.length_tail] at hj
  obtain ⟨b, off, e, c0, c1, c2, c3⟩ := h (j + 1) (by omega)
  injection e with e
  injection e with e1 e2 e3
  subst e1 e2
  have hg : O.tail.getD j op0 = O.getD (j + 1) op0 := by cases O <;> simp
  rw [hg, if_neg (by omega)]
  refine ⟨og, 4, rfl, ?_, ?_, ?_, ?_⟩
  · rw [show 4 + j * 4 = 0 + (j + 1) * 4 by omega]; exact c0
  · rw [show 4 + j * 4 + 1 = 0 + (j + 1) * 4 + 1 by omega]; exact c1
  · rw [show 4 + j * 4 + 2 = 0 + (j + 1) * 4 + 2 by omega]; exact c2
  · rw [show 4 + j * 4 + 3 = 0 + (j + 1) * 4 + 3 by omega]; exact c3
/-- The first op is cut away. -/
theorem DD.cut {w W : World} {q c ln sn on lc sc oc og : Nat} {a la sa : Option Addr} {bs : List Int} {L S : List FI} {O : List OP} (h : DD w W q a bs c (.slice la ln lc) (.slice sa sn sc) (.slice (some ⟨og, 0, none⟩) on oc) L S O) (h1 : L.length = ln) (h2 : S.length = sn) (h3 : O.length = on) (hd : DskOk L S O) : DE w (W.setCell ⟨w.heap.size + 1, 2, none⟩ (.slice (if oc = 1 then some ⟨og, 0, none⟩ else some ⟨og, 4, none⟩) (on - 1) (oc - 1))) q a bs c la sa (if oc = 1 then some ⟨og, 0, none⟩ else some ⟨og, 4, none⟩) ln sn (on - 1) lc sc (oc - 1) L S O.tail := by
  obtain ⟨p0, h0⟩ := h.r0
  obtain ⟨p, hr⟩ := h.rd
  have hset : ∀ g, some (w.heap.size + 1) = some g → w.heap.size ≤ g := fun g e => by injection e with e; omega
  have hne : w.heap.size ≠ w.heap.size + 1 := by omega
  have hcp := own_capF h.da.d.o
  have hat := h.at h1 h2 h3
  refine ⟨⟨p0, h0⟩, ⟨p, h0.kept2 hr (grown_set _ _ _ _) hset⟩, grown_own h.g (grown_set _ _ _ _) hset, (heap_setCell_other _ _ _ _ hne).trans h.r2, by have := heap_setCell_same W (w.heap.size + 1) 2 _ _ (.slice (if oc = 1 then some ⟨og, 0, none⟩ else some ⟨og, 4, none⟩) (on - 1) (oc - 1)) h.r3; simpa using this, ⟨hat.l.box h.r3, hat.s.box h.r3, (ops_tail hat.o (by rw [h3]; exact hcp.1)).box h.r3⟩, ⟨hd.ln, hd.sn, by have := hd.on; rw [List.length_tail]; omega, hd.lt, hd.st, hd.ls, hd.ss, fun j hj => ?_⟩, ⟨h1, h2, by rw [List.length_tail, h3]⟩, ⟨by have := hcp.1; omega, fun e => ?_⟩, ⟨own_new h.da.d.l, own_new h.da.d.s, fun b off e => ?_⟩⟩
  · rw [List.length_tail] at hj
    have hg : O.tail.getD j op0 = O.getD (j + 1) op0 := by cases O <;> simp
    rw [hg]
    exact hd.os (j + 1) (by omega)
  · split at e <;> cases e
  · have hog := own_new h.da.d.o og 0 rfl
    split at e
    · injection e with e; injection e with e _ _; omega
    · injection e with e; injection e with e _ _; omega
theorem made_zeroB (n : Nat) : madeCells (Value.int .u8 0).cells (n * 1) = Array.replicate n (Value.int .u8 0) := by
  apply Array.ext
  · simp [madeCells]
  · intro i h1 h2
    simp [madeCells, Value.cells, Nat.mod_one]
theorem infoBB : (Try.prog.info? 5).map (fun i => (i.zero, i.size, i.bytes)) = some (some (Value.int .u8 0), 1, 1) := by kernel_rfl
theorem make_bytes (W : World) (len : Nat) (hlen : len ≤ 1048576) :
    (Instr.makeSlice 22 (.int .i64 len) (.int .i64 len)).run Try.prog W = .ok (.slice (some ⟨W.heap.size, 0, none⟩) len len) (W.alloc (.cells (Array.replicate len (Value.int .u8 0)) 5)) := by
  obtain ⟨i, hq, hz, hs, hb⟩ := inf_parts infoBB
  have := run_make (P := Try.prog) W 22 5 i (.int .u8 0) Try.underlying22 hq hz .i64 .i64 len len (by omega) (by omega) (by rw [hb]; omega) (by omega)
  rw [this, hs]
  simp only [Int.toNat_natCast, made_zeroB]
theorem byte_cells (w : World) (n i : Nat) (hi : i < n) : (w.alloc (.cells (Array.replicate n (Value.int .u8 0)) 5)).cell? ⟨w.heap.size, 0 + i, none⟩ = some (.int .u8 ((List.replicate n (0 : Int)).getD i 0)) := by
  rw [cell_of_row _ _ _ _ _ _ (heap_alloc_new _ _), Nat.zero_add]
  simp [List.getD_eq_getElem?_getD, hi]
/-- One big file, the same row twice. -/
theorem DD.big {w W : World} {q c gf : Nat} {a : Option Addr} {bs : List Int} {lv sv ov : Value} {L S : List FI} {O : List OP} {n s : ByteArray} (h : DD w W q a bs c lv sv ov L S O) (hf : W.heap[gf]? = some (.cells #[.string n, .string s] 55 (0, 0))) (hs : s.size ≤ 200000) (hn : n.size ≤ 1000000000) (hgw : w.heap.size ≤ gf) : DE w ((((W.setCell ⟨w.heap.size + 1, 0, none⟩ (.slice (some ⟨gf, 0, none⟩) 1 1)).setCell ⟨w.heap.size + 1, 1, none⟩ (.slice none 0 0)).setCell ⟨w.heap.size + 1, 2, none⟩ (.slice none 0 0)).setCell ⟨w.heap.size + 1, 1, none⟩ (.slice (some ⟨gf, 0, none⟩) 1 1)) q a bs c (some ⟨gf, 0, none⟩) (some ⟨gf, 0, none⟩) none 1 1 0 1 1 0 [(n, s)] [(n, s)] [] := by
  obtain ⟨p0, h0⟩ := h.r0
  obtain ⟨p, hr⟩ := h.rd
  obtain ⟨k1, k2⟩ := rd_box3 (x := .slice (some ⟨gf, 0, none⟩) 1 1) (y := .slice none 0 0) (z := .slice none 0 0) h.r0 hr h.g (show w.heap.size ≤ w.heap.size + 1 by omega)
  have hset : ∀ g, some (w.heap.size + 1) = some g → w.heap.size ≤ g := fun g e => by injection e with e; omega
  have hne : w.heap.size ≠ w.heap.size + 1 := by omega
  have hgf : gf ≠ w.heap.size + 1 := fun e => by
    subst e
    have := h.r3
    rw [hf] at this
    injection this with this
    injection this with _ t _
    exact absurd t (by decide)
  have r3 := boxW (u := .slice (some ⟨gf, 0, none⟩) 1 1) (v := .slice none 0 0) (x := .slice none 0 0) h.r3
  have f4 : ((((W.setCell ⟨w.heap.size + 1, 0, none⟩ (.slice (some ⟨gf, 0, none⟩) 1 1)).setCell ⟨w.heap.size + 1, 1, none⟩ (.slice none 0 0)).setCell ⟨w.heap.size + 1, 2, none⟩ (.slice none 0 0)).setCell ⟨w.heap.size + 1, 1, none⟩ (.slice (some ⟨gf, 0, none⟩) 1 1)).heap[gf]? = some (.cells #[.string n, .string s] 55 (0, 0)) := (heap_setCell_other _ _ _ _ hgf).trans ((heap_setCell_other _ _ _ _ hgf).trans ((heap_setCell_other _ _ _ _ hgf).trans ((heap_setCell_other _ _ _ _ hgf).trans hf)))
  have fa : FilesAt ((((W.setCell ⟨w.heap.size + 1, 0, none⟩ (.slice (some ⟨gf, 0, none⟩) 1 1)).setCell ⟨w.heap.size + 1, 1, none⟩ (.slice none 0 0)).setCell ⟨w.heap.size + 1, 2, none⟩ (.slice none 0 0)).setCell ⟨w.heap.size + 1, 1, none⟩ (.slice (some ⟨gf, 0, none⟩) 1 1)) (some ⟨gf, 0, none⟩) [(n, s)] := fun j hj => by
    have : j = 0 := by simp at hj; exact hj
    subst this
    obtain ⟨c1, c2⟩ := cells2 f4
    exact ⟨gf, 0, rfl, c1, c2⟩
  have ht : totL [(n, s)] ≤ 1048576 := by show s.size + 0 ≤ _; omega
  have hsh : Shrt [(n, s)] := fun f hf => by rw [List.mem_singleton.1 hf]; exact hn
  refine ⟨⟨p0, h0⟩, ⟨p, h0.kept2 k1 (grown_set _ _ _ _) hset⟩, grown_own k2 (grown_set _ _ _ _) hset, (heap_setCell_other _ _ _ _ hne).trans ((heap_setCell_other _ _ _ _ hne).trans ((heap_setCell_other _ _ _ _ hne).trans ((heap_setCell_other _ _ _ _ hne).trans h.r2))), by have := heap_setCell_same _ (w.heap.size + 1) 1 _ _ (.slice (some ⟨gf, 0, none⟩) 1 1) r3; simpa using this, ⟨fa, fa, fun j hj => by simp at hj⟩, ⟨by simp, by simp, by simp, ht, ht, hsh, hsh, fun j hj => by simp at hj⟩, ⟨rfl, rfl, rfl⟩, ⟨Nat.le_refl _, fun _ => ⟨rfl, rfl⟩⟩, ⟨fun b off e => by injection e with e; injection e with e _ _; omega, fun b off e => by injection e with e; injection e with e _ _; omega, fun b off e => by cases e⟩⟩
theorem dok_app {L S : List FI} {O : List OP} {n : ByteArray} (h : DskOk L S O) (hl : L.length ≤ 60) (hn : n.size ≤ 1000000000) : DskOk (L ++ [(n, ⟨#[]⟩)]) S O :=
  ⟨by rw [List.length_append]; show L.length + 1 ≤ _; omega, h.sn, h.on, by have := h.lt; rw [totL_app]; show totL L + 0 ≤ _; omega, h.st, fun f hf => by
    rcases List.mem_append.1 hf with h1 | h1
    · exact h.ls f h1
    · rw [List.mem_singleton.1 h1]; exact hn, h.ss, h.os⟩
theorem DE.of {w W : World} {q c ln sn on lc sc oc : Nat} {a la sa oa : Option Addr} {bs : List Int} {L S : List FI} {O : List OP} (h : DD w W q a bs c (.slice la ln lc) (.slice sa sn sc) (.slice oa on oc) L S O) (h1 : L.length = ln) (h2 : S.length = sn) (h3 : O.length = on) (hd : DskOk L S O) : DE w W q a bs c la sa oa ln sn on lc sc oc L S O :=
  ⟨h.r0, h.rd, h.g, h.r2, h.r3, h.at h1 h2 h3, hd, ⟨h1, h2, h3⟩, own_capF h.da.d.o, ⟨own_new h.da.d.l, own_new h.da.d.s, own_new h.da.d.o⟩⟩

set_option maxHeartbeats 8000000 in
set_option maxRecDepth 20000 in
theorem disk_any (q p c : Nat) (a : Option Addr) (bs : List Int) (w : World) (h : RD w q a bs c p) :
    Calls Try.prog 21 #[.pointer (some ⟨q, 0, none⟩)] w (DiskOkD w q a bs c) := by
  have D0 : Hid (DD w ((w.alloc (.cells #[.slice none 0 0, .slice none 0 0, .slice none 0 0] 27)).alloc (.cells #[.slice none 0 0, .slice none 0 0, .slice none 0 0] 27)) q a bs c (.slice none 0 0) (.slice none 0 0) (.slice none 0 0) [] [] []) := by
    have hb : Below w.heap.size w ((w.alloc (.cells #[.slice none 0 0, .slice none 0 0, .slice none 0 0] 27)).alloc (.cells #[.slice none 0 0, .slice none 0 0, .slice none 0 0] 27)) := ((Below.refl _ _).alloc (Nat.le_refl _) _).alloc (by simp) _
    exact ⟨⟨p, h⟩, ⟨p, h.below hb⟩, grown_of_below _ hb, heap_alloc2_old _ _ _, heap_alloc2_new _ _ _, da_nil⟩
  clear h
  go_enter Try.func21, Try.ntmps21
  go_wp2_with fail
  generalize ((w.alloc (.cells #[.slice none 0 0, .slice none 0 0, .slice none 0 0] 27)).alloc (.cells #[.slice none 0 0, .slice none 0 0, .slice none 0 0] 27)) = W0 at *
  obtain ⟨p0, hr0⟩ := D0.out.rd
  refine (size_any q p0 c 3 10 a bs W0 hr0 (by omega) (by omega) (by omega) (by omega)).mono ?_
  rintro e w1 ⟨n, p1, rfl, hn1, hn2, hr, hg⟩
  have D1 : Hid (DD w w1 q a bs c (.slice none 0 0) (.slice none 0 0) (.slice none 0 0) [] [] []) := D0.out.read hr hg
  clear hr hg hr0 D0 hn1
  go_wp2_with fail
  go_loopw [4] (fun t wr => ∃ (m : Nat) (la sa oa : Option Addr) (ln sn on lc sc oc : Nat) (L S : List FI) (O : List OP), m ≤ 10 ∧ t = .int .i64 m ∧ DD w wr q a bs c (.slice la ln lc) (.slice sa sn sc) (.slice oa on oc) L S O ∧ dskB L S O = true ∧ OSm O ∧ (L.length = ln ∧ S.length = sn ∧ O.length = on)) (fun t _ => (intOf t).toNat)
  case atStart => exact ⟨n, none, none, none, 0, 0, 0, 0, 0, 0, [], [], [], hn2, rfl, D1.out, dsk_nil, (fun o h => by cases h), ⟨rfl, rfl, rfl⟩⟩
  case round =>
    obtain ⟨m, la, sa, oa, ln, sn, on, lc, sc, oc, L, S, O, hm, rfl, hdd, hdk, hos, hln, hsn, hon⟩ := hrel
    have DR : Hid (DD w wr q a bs c (.slice la ln lc) (.slice sa sn sc) (.slice oa on oc) L S O) := hdd
    have HDK : Hid (dskB L S O = true) := hdk
    have HOS : Hid (OSm O) := hos
    have HLN : Hid (L.length = ln) := hln
    have HSN : Hid (S.length = sn) := hsn
    have HON : Hid (O.length = on) := hon
    clear D1 hdd hdk hos hln hsn hon
    by_cases hm0 : 0 < m
    · have hm1 : (0 : Int) < m := by omega
      have hms : wrap64 ((m : Int) - 1) = ((m - 1 : Nat) : Int) := by unfold wrap64; omega
      go_wp2_with fail
      obtain ⟨p2, hr2⟩ := DR.out.rd
      refine (once_any q p2 c 5 a bs wr hr2 (by omega) (by omega)).mono ?_
      rintro e w2 ⟨v, p3, rfl, hr, hg⟩
      have D2 : Hid (DD w w2 q a bs c (.slice la ln lc) (.slice sa sn sc) (.slice oa on oc) L S O) := DR.out.read hr hg
      clear hr hg hr2 DR
      cases v with
      | true =>
        have SY : Hid (Calls Try.prog 43 #[.agg #[.slice la ln lc, .slice sa sn sc, .slice oa on oc]] w2 fun e w' => ∃ a1 c1 a2 c2 a3 c3, e = .returned (.agg #[.slice a1 ln c1, .slice a2 ln c2, .slice a3 0 c3]) ∧ Below w2.heap.size w2 w' ∧ DA w' w2.heap.size (.slice a1 ln c1) (.slice a2 ln c2) (.slice a3 0 c3) L L []) := by
          have h := specSync_any la sa oa lc sc oc ln sn on ln L S O w2 (D2.out.at HLN.out HSN.out HON.out) (dsk_dok HDK.out HOS.out) HLN.out HSN.out HON.out (by rw [sy_right HDK.out]; exact HLN.out)
          rw [sy_right HDK.out] at h
          exact h
        obtain ⟨z0, z1, z2⟩ := cells3 D2.out.r3
        go_wp2_with fail
        refine SY.out.mono ?_
        rintro e w3 ⟨a1, c1, a2, c2, a3, c3, rfl, hb, hda⟩
        have D3 : Hid (DD w w3 q a bs c (.slice la ln lc) (.slice sa sn sc) (.slice oa on oc) L S O) := D2.out.below hb
        have D4 : Hid (DD w (((w3.setCell ⟨w.heap.size + 1, 0, none⟩ (.slice a1 ln c1)).setCell ⟨w.heap.size + 1, 1, none⟩ (.slice a2 ln c2)).setCell ⟨w.heap.size + 1, 2, none⟩ (.slice a3 0 c3)) q a bs c (.slice a1 ln c1) (.slice a2 ln c2) (.slice a3 0 c3) L L []) := D3.out.store (hda.bse (by have := D2.out.size; omega))
        obtain ⟨y0, y1, y2⟩ := cells3 D3.out.r3
        have yf := fun i => frozen_of_row _ _ i _ _ D3.out.r3
        have HDS : Hid (dskB L L [] = true) := dsk_sync HDK.out
        clear hb hda z0 z1 z2
        go_wp2_with fail
        go_roundw
        case rel => exact ⟨m - 1, a1, a2, a3, ln, ln, 0, c1, c2, c3, L, L, [], by omega, by first | rfl | go_num, D4.out, HDS.out, (fun o h => by cases h), ⟨HLN.out, HLN.out, rfl⟩⟩
        case measure => simp [intOf]; omega
      | false =>
        go_upto_region 7 with fail
        go_cut [5, 6] from 10 to 27 (fun s5 s6 wx => ∃ (o : OP) (kz x1 x2 x3 : Nat) (a1 a2 a3 : Option Addr) (c1 c2 c3 : Nat), s5 = .pointer (some ⟨kz, 0, none⟩) ∧ s6 = .int .i64 (actK L O o) ∧ (o.n.size ≤ 200 ∧ o.t.size ≤ 200 ∧ o.d.size ≤ 1048576) ∧ ((actL L O o).length = x1 ∧ S.length = x2 ∧ (actO L O o).length = x3) ∧ DD w wx q a bs c (.slice la ln lc) (.slice sa sn sc) (.slice oa on oc) L S O ∧ wx.heap[kz]? = some (.cells #[.slice a1 x1 c1, .slice a2 x2 c2, .slice a3 x3 c3] 27 (0, 0)) ∧ w.heap.size + 2 ≤ kz ∧ DA wx w.heap.size (.slice a1 x1 c1) (.slice a2 x2 c2) (.slice a3 x3 c3) (actL L O o) S (actO L O o))
        case first =>
          go_wp2_with fail
          have HSS : Hid (∀ W, DD w W q a bs c (.slice la ln lc) (.slice sa sn sc) (.slice oa on oc) L S O → (fun W => W.cell? ⟨w.heap.size + 1, 0, none⟩ = some (.slice la ln lc) ∧ W.cell? ⟨w.heap.size + 1, 1, none⟩ = some (.slice sa sn sc) ∧ W.cell? ⟨w.heap.size + 1, 2, none⟩ = some (.slice oa on oc)) W) := fun W hW => cells3 hW.r3
          have CS : Hid (DD w w2.drew q a bs c (.slice la ln lc) (.slice sa sn sc) (.slice oa on oc) L S O) := D2.out.below (Below.refl _ _).drew
          have HDO : Hid (∀ (W : World) (oo : OP), DD w W q a bs c (.slice la ln lc) (.slice sa sn sc) (.slice oa on oc) L S O → oo.n.size ≤ 200 → oo.t.size ≤ 200 → oo.d.size ≤ 1048576 → Calls Try.prog 15 #[.agg #[.slice la ln lc, .slice sa sn sc, .slice oa on oc], .agg #[.int .i64 oo.k, .string oo.n, .string oo.t, .string oo.d]] W fun e w' => ∃ x1 x2 x3 a1 c1 a2 c2 a3 c3, e = .returned (.tuple #[.agg #[.slice a1 x1 c1, .slice a2 x2 c2, .slice a3 x3 c3], .int .i64 (actK L O oo)]) ∧ ((actL L O oo).length = x1 ∧ S.length = x2 ∧ (actO L O oo).length = x3) ∧ Below W.heap.size W w' ∧ DA w' W.heap.size (.slice a1 x1 c1) (.slice a2 x2 c2) (.slice a3 x3 c3) (actL L O oo) S (actO L O oo)) := fun W oo hW s1 s2 s3 => by
            obtain ⟨e1, e2, e3, e4⟩ := do_right oo HDK.out
            have h := specDo_any la sa oa lc sc oc ln sn on _ _ _ _ L S O oo W (hW.at HLN.out HSN.out HON.out) (dsk_dok HDK.out HOS.out) HLN.out HSN.out HON.out (by omega) (by omega) s3 e1 (by rw [e2]) (by rw [e3]) (by rw [e4])
            rw [e2, e3, e4] at h
            exact h.mono fun e w' ⟨a1, c1, a2, c2, a3, c3, r1, r2, r3⟩ => ⟨_, _, _, a1, c1, a2, c2, a3, c3, r1, ⟨rfl, rfl, rfl⟩, r2, r3⟩
          refine wp_region_held_drew (S := (fun W => W.cell? ⟨w.heap.size + 1, 0, none⟩ = some (.slice la ln lc) ∧ W.cell? ⟨w.heap.size + 1, 1, none⟩ = some (.slice sa sn sc) ∧ W.cell? ⟨w.heap.size + 1, 2, none⟩ = some (.slice oa on oc))) (by kernel_rfl) ?_ (fun hHeld => ?_)
          · exact HSS.out _ CS.out
          generalize w2.drew = WD at *
          refine wpAnyH_take (i := 0) (v := ?_) rfl (by kernel_rfl) (by kernel_rfl) (by kernel_rfl) (fun _ _ _ h => h) (Or.inl ⟨by kernel_rfl, ?_⟩) hHeld ?_
          rotate_left 1; focus (intro w hSw; (try dsimp only at hSw); (try go_split_ands); go_simp; all_goals (first | done | with_reducible rfl))
          change wpAnyH _ _ _ _ _ _ _ (Act.put _ (some 19) _) _; simp only [Act.put, List.setIfInBounds_toArray, List.set_cons_zero, List.set_cons_succ]
          refine wpAnyH_take (i := 1) (v := ?_) rfl (by kernel_rfl) (by kernel_rfl) (by kernel_rfl) (fun _ _ _ h => h) (Or.inl ⟨by kernel_rfl, ?_⟩) hHeld ?_
          rotate_left 1; focus (intro w hSw; (try dsimp only at hSw); (try go_split_ands); go_simp; all_goals (first | done | with_reducible rfl))
          change wpAnyH _ _ _ _ _ _ _ (Act.put _ (some 20) _) _; simp only [Act.put, List.setIfInBounds_toArray, List.set_cons_zero, List.set_cons_succ]
          refine wpAnyH_ready (rs := [2, 7]) (by kernel_rfl) (by simp) ?_
          refine AllReadyH.cons rfl (fun K hK => ?_) ?_
          · skip
            (try simp only [Act.put, List.setIfInBounds_toArray])
            go_simp
            obtain ⟨pp1, hrp⟩ := CS.out.rd
            refine (dop_any q pp1 c a bs _ hrp).mono ?_
            rintro e V1 ⟨ok, on', ot, od, pq1, rfl, ⟨hs1, hs2, hs3⟩, hr, hg⟩
            have C1 : Hid (DD w V1 q a bs c (.slice la ln lc) (.slice sa sn sc) (.slice oa on oc) L S O) := CS.out.read hr hg
            clear hr hg hrp
            (try go_wp2_with fail)
            refine hK.out _ _ ?_ (fun hHeld => ?_)
            · exact HSS.out _ C1.out
            clear hK K
            refine wpAnyH_ready (rs := [3, 7]) (by kernel_rfl) (by simp) ?_
            refine AllReadyH.cons rfl (fun K hK => ?_) ?_
            · skip
              (try simp only [Act.put, List.setIfInBounds_toArray])
              go_simp
              refine (HDO.out V1 ⟨ok, on', ot, od⟩ C1.out (by simp only; omega) (by simp only; omega) (by simp only; omega)).mono ?_
              rintro e V2 ⟨x1, x2, x3, a1, c1, a2, c2, a3, c3, rfl, hxs, hb, hda⟩
              have HXS : Hid ((actL L O ⟨ok, on', ot, od⟩).length = x1 ∧ S.length = x2 ∧ (actO L O ⟨ok, on', ot, od⟩).length = x3) := hxs
              have hda2 := hda.bse (show w.heap.size ≤ V1.heap.size by have := C1.out.size; omega)
              have C2 : Hid (DD w V2 q a bs c (.slice la ln lc) (.slice sa sn sc) (.slice oa on oc) L S O) := C1.out.below hb
              have A2 : Hid (DA V2 w.heap.size (.slice a1 x1 c1) (.slice a2 x2 c2) (.slice a3 x3 c3) (actL L O ⟨ok, on', ot, od⟩) S (actO L O ⟨ok, on', ot, od⟩)) := hda2
              clear hb hda hda2 hxs
              obtain ⟨qk, HQK⟩ : ∃ x, Hid (actK L O ⟨ok, on', ot, od⟩ = x) := ⟨_, rfl⟩
              rw [HQK.out]
              (try go_wp2_with fail)
              refine hK.out _ _ ?_ (fun hHeld => ?_)
              · exact HSS.out _ C2.out
              clear hK K
              refine wpAnyH_take (i := 4) (v := ?_) rfl (by kernel_rfl) (by kernel_rfl) (by kernel_rfl) (fun _ _ _ h => h) (Or.inl ⟨by kernel_rfl, ?_⟩) hHeld ?_
              rotate_left 1; focus (intro w hSw; (try dsimp only at hSw); (try go_split_ands); go_simp; all_goals (first | done | with_reducible rfl))
              change wpAnyH _ _ _ _ _ _ _ (Act.put _ (some 18) _) _; simp only [Act.put, List.setIfInBounds_toArray, List.set_cons_zero, List.set_cons_succ]
              refine wpAnyH_take (i := 5) (v := ?_) rfl (by kernel_rfl) (by kernel_rfl) (by kernel_rfl) (fun _ _ _ h => h) (Or.inl ⟨by kernel_rfl, ?_⟩) hHeld ?_
              rotate_left 1; focus (intro w hSw; (try dsimp only at hSw); (try go_split_ands); go_simp; all_goals (first | done | with_reducible rfl))
              change wpAnyH _ _ _ _ _ _ _ (Act.put _ (some 23) _) _; simp only [Act.put, List.setIfInBounds_toArray, List.set_cons_zero, List.set_cons_succ]
              refine wpAnyH_take (i := 6) (v := ?_) rfl (by kernel_rfl) (by kernel_rfl) (by kernel_rfl) (fun _ _ _ h => h) (Or.inl ⟨by kernel_rfl, ?_⟩) hHeld ?_
              rotate_left 1; focus (intro w hSw; (try dsimp only at hSw); (try go_split_ands); go_simp; all_goals (first | done | with_reducible rfl))
              change wpAnyH _ _ _ _ _ _ _ (Act.put _ (some 24) _) _; simp only [Act.put, List.setIfInBounds_toArray, List.set_cons_zero, List.set_cons_succ]
              refine wpAnyH_ready (rs := [7]) (by kernel_rfl) (by simp) ?_
              refine AllReadyH.cons rfl (fun K hK => ?_) AllReadyH.nil
              have hb : Below V2.heap.size V2 (V2.alloc (.cells #[.slice none 0 0, .slice none 0 0, .slice none 0 0] 27)) := (Below.refl _ _).alloc (Nat.le_refl _) _
              have KZL : Hid (w.heap.size + 2 ≤ V2.heap.size) := C2.out.size
              have C3 : Hid (DD w (V2.alloc (.cells #[.slice none 0 0, .slice none 0 0, .slice none 0 0] 27)) q a bs c (.slice la ln lc) (.slice sa sn sc) (.slice oa on oc) L S O) := C2.out.below hb
              have A3 : Hid (DA (V2.alloc (.cells #[.slice none 0 0, .slice none 0 0, .slice none 0 0] 27)) w.heap.size (.slice a1 x1 c1) (.slice a2 x2 c2) (.slice a3 x3 c3) (actL L O ⟨ok, on', ot, od⟩) S (actO L O ⟨ok, on', ot, od⟩)) := A2.out.below hb
              have ZX : Hid ((V2.alloc (.cells #[.slice none 0 0, .slice none 0 0, .slice none 0 0] 27)).heap[V2.heap.size]? = some (.cells #[.slice none 0 0, .slice none 0 0, .slice none 0 0] 27 (0, 0))) := heap_alloc_new _ _
              clear hb
              (try simp only [Act.put, List.setIfInBounds_toArray])
              go_simp
              refine hK.out _ _ ?_ (fun hHeld => ?_)
              · exact HSS.out _ C3.out
              clear hK K
              obtain ⟨kz, HG⟩ : ∃ g, Hid (V2.heap.size = g) := ⟨_, rfl⟩
              rw [HG.out] at ZX KZL ⊢
              generalize (V2.alloc (.cells #[.slice none 0 0, .slice none 0 0, .slice none 0 0] 27)) = V3 at *
              clear HG
              refine wpAnyH_ready (rs := [8]) (by kernel_rfl) (by simp) ?_
              refine AllReadyH.cons rfl (fun K hK => ?_) AllReadyH.nil
              obtain ⟨r0, r1, r2⟩ := cells3 ZX.out
              have rf := fun i => frozen_of_row _ _ i _ _ ZX.out
              have ZF : Hid ((((V3.setCell ⟨kz, 0, none⟩ (.slice a1 x1 c1)).setCell ⟨kz, 1, none⟩ (.slice a2 x2 c2)).setCell ⟨kz, 2, none⟩ (.slice a3 x3 c3)).heap[kz]? = some (.cells #[.slice a1 x1 c1, .slice a2 x2 c2, .slice a3 x3 c3] 27 (0, 0))) := boxW ZX.out
              have AF : Hid (DA (((V3.setCell ⟨kz, 0, none⟩ (.slice a1 x1 c1)).setCell ⟨kz, 1, none⟩ (.slice a2 x2 c2)).setCell ⟨kz, 2, none⟩ (.slice a3 x3 c3)) w.heap.size (.slice a1 x1 c1) (.slice a2 x2 c2) (.slice a3 x3 c3) (actL L O ⟨ok, on', ot, od⟩) S (actO L O ⟨ok, on', ot, od⟩)) := da_box3 A3.out ZX.out
              have CF : Hid (DD w (((V3.setCell ⟨kz, 0, none⟩ (.slice a1 x1 c1)).setCell ⟨kz, 1, none⟩ (.slice a2 x2 c2)).setCell ⟨kz, 2, none⟩ (.slice a3 x3 c3)) q a bs c (.slice la ln lc) (.slice sa sn sc) (.slice oa on oc) L S O) := C3.out.far KZL.out ZX.out
              go_simp
              refine hK.out _ _ ?_ (fun hHeld => ?_)
              · exact HSS.out _ CF.out
              clear hK K
              clear r0 r1 r2 rf
              generalize (((V3.setCell ⟨kz, 0, none⟩ (.slice a1 x1 c1)).setCell ⟨kz, 1, none⟩ (.slice a2 x2 c2)).setCell ⟨kz, 2, none⟩ (.slice a3 x3 c3)) = WF at *
              refine wpAnyH_take (i := 9) (v := ?_) rfl (by kernel_rfl) (by kernel_rfl) (by kernel_rfl) (fun _ _ _ h => h) (Or.inl ⟨by kernel_rfl, ?_⟩) hHeld ?_
              rotate_left 1; focus (intro w hSw; (try dsimp only at hSw); (try go_split_ands); go_simp; all_goals (first | done | with_reducible rfl))
              change wpAnyH _ _ _ _ _ _ _ (Act.put _ (some 6) _) _; simp only [Act.put, List.setIfInBounds_toArray, List.set_cons_zero, List.set_cons_succ]
              refine wpAnyH_done (by kernel_rfl) ?_ _
              clear hHeld
              (try go_wp2_with fail)
              go_meet
              exact ⟨⟨ok, on', ot, od⟩, kz, x1, x2, x3, a1, a2, a3, c1, c2, c3, rfl, by rw [HQK.out], ⟨by simp only; omega, by simp only; omega, by simp only; omega⟩, HXS.out, CF.out, ZF.out, KZL.out, AF.out⟩
            refine AllReadyH.cons rfl (fun K hK => ?_) AllReadyH.nil
            have hb : Below V1.heap.size V1 (V1.alloc (.cells #[.slice none 0 0, .slice none 0 0, .slice none 0 0] 27)) := (Below.refl _ _).alloc (Nat.le_refl _) _
            have KZL : Hid (w.heap.size + 2 ≤ V1.heap.size) := C1.out.size
            have C2 : Hid (DD w (V1.alloc (.cells #[.slice none 0 0, .slice none 0 0, .slice none 0 0] 27)) q a bs c (.slice la ln lc) (.slice sa sn sc) (.slice oa on oc) L S O) := C1.out.below hb
            have ZX : Hid ((V1.alloc (.cells #[.slice none 0 0, .slice none 0 0, .slice none 0 0] 27)).heap[V1.heap.size]? = some (.cells #[.slice none 0 0, .slice none 0 0, .slice none 0 0] 27 (0, 0))) := heap_alloc_new _ _
            clear hb
            (try simp only [Act.put, List.setIfInBounds_toArray])
            go_simp
            refine hK.out _ _ ?_ (fun hHeld => ?_)
            · exact HSS.out _ C2.out
            clear hK K
            obtain ⟨kz, HG⟩ : ∃ g, Hid (V1.heap.size = g) := ⟨_, rfl⟩
            rw [HG.out] at ZX KZL ⊢
            generalize (V1.alloc (.cells #[.slice none 0 0, .slice none 0 0, .slice none 0 0] 27)) = V2 at *
            clear HG
            refine wpAnyH_ready (rs := [3]) (by kernel_rfl) (by simp) ?_
            refine AllReadyH.cons rfl (fun K hK => ?_) AllReadyH.nil
            (try simp only [Act.put, List.setIfInBounds_toArray])
            go_simp
            refine (HDO.out V2 ⟨ok, on', ot, od⟩ C2.out (by simp only; omega) (by simp only; omega) (by simp only; omega)).mono ?_
            rintro e V3 ⟨x1, x2, x3, a1, c1, a2, c2, a3, c3, rfl, hxs, hb, hda⟩
            have HXS : Hid ((actL L O ⟨ok, on', ot, od⟩).length = x1 ∧ S.length = x2 ∧ (actO L O ⟨ok, on', ot, od⟩).length = x3) := hxs
            have hda2 := hda.bse (show w.heap.size ≤ V2.heap.size by have := C2.out.size; omega)
            have C3 : Hid (DD w V3 q a bs c (.slice la ln lc) (.slice sa sn sc) (.slice oa on oc) L S O) := C2.out.below hb
            have Z3 : Hid (V3.heap[kz]? = some (.cells #[.slice none 0 0, .slice none 0 0, .slice none 0 0] 27 (0, 0))) := below_row hb (row_lt ZX.out) ZX.out
            have A3 : Hid (DA V3 w.heap.size (.slice a1 x1 c1) (.slice a2 x2 c2) (.slice a3 x3 c3) (actL L O ⟨ok, on', ot, od⟩) S (actO L O ⟨ok, on', ot, od⟩)) := hda2
            clear hb hda hda2 hxs
            obtain ⟨qk, HQK⟩ : ∃ x, Hid (actK L O ⟨ok, on', ot, od⟩ = x) := ⟨_, rfl⟩
            rw [HQK.out]
            (try go_wp2_with fail)
            refine hK.out _ _ ?_ (fun hHeld => ?_)
            · exact HSS.out _ C3.out
            clear hK K
            refine wpAnyH_take (i := 4) (v := ?_) rfl (by kernel_rfl) (by kernel_rfl) (by kernel_rfl) (fun _ _ _ h => h) (Or.inl ⟨by kernel_rfl, ?_⟩) hHeld ?_
            rotate_left 1; focus (intro w hSw; (try dsimp only at hSw); (try go_split_ands); go_simp; all_goals (first | done | with_reducible rfl))
            change wpAnyH _ _ _ _ _ _ _ (Act.put _ (some 18) _) _; simp only [Act.put, List.setIfInBounds_toArray, List.set_cons_zero, List.set_cons_succ]
            refine wpAnyH_take (i := 5) (v := ?_) rfl (by kernel_rfl) (by kernel_rfl) (by kernel_rfl) (fun _ _ _ h => h) (Or.inl ⟨by kernel_rfl, ?_⟩) hHeld ?_
            rotate_left 1; focus (intro w hSw; (try dsimp only at hSw); (try go_split_ands); go_simp; all_goals (first | done | with_reducible rfl))
            change wpAnyH _ _ _ _ _ _ _ (Act.put _ (some 23) _) _; simp only [Act.put, List.setIfInBounds_toArray, List.set_cons_zero, List.set_cons_succ]
            refine wpAnyH_take (i := 6) (v := ?_) rfl (by kernel_rfl) (by kernel_rfl) (by kernel_rfl) (fun _ _ _ h => h) (Or.inl ⟨by kernel_rfl, ?_⟩) hHeld ?_
            rotate_left 1; focus (intro w hSw; (try dsimp only at hSw); (try go_split_ands); go_simp; all_goals (first | done | with_reducible rfl))
            change wpAnyH _ _ _ _ _ _ _ (Act.put _ (some 24) _) _; simp only [Act.put, List.setIfInBounds_toArray, List.set_cons_zero, List.set_cons_succ]
            refine wpAnyH_ready (rs := [8]) (by kernel_rfl) (by simp) ?_
            refine AllReadyH.cons rfl (fun K hK => ?_) AllReadyH.nil
            obtain ⟨r0, r1, r2⟩ := cells3 Z3.out
            have rf := fun i => frozen_of_row _ _ i _ _ Z3.out
            have ZF : Hid ((((V3.setCell ⟨kz, 0, none⟩ (.slice a1 x1 c1)).setCell ⟨kz, 1, none⟩ (.slice a2 x2 c2)).setCell ⟨kz, 2, none⟩ (.slice a3 x3 c3)).heap[kz]? = some (.cells #[.slice a1 x1 c1, .slice a2 x2 c2, .slice a3 x3 c3] 27 (0, 0))) := boxW Z3.out
            have AF : Hid (DA (((V3.setCell ⟨kz, 0, none⟩ (.slice a1 x1 c1)).setCell ⟨kz, 1, none⟩ (.slice a2 x2 c2)).setCell ⟨kz, 2, none⟩ (.slice a3 x3 c3)) w.heap.size (.slice a1 x1 c1) (.slice a2 x2 c2) (.slice a3 x3 c3) (actL L O ⟨ok, on', ot, od⟩) S (actO L O ⟨ok, on', ot, od⟩)) := da_box3 A3.out Z3.out
            have CF : Hid (DD w (((V3.setCell ⟨kz, 0, none⟩ (.slice a1 x1 c1)).setCell ⟨kz, 1, none⟩ (.slice a2 x2 c2)).setCell ⟨kz, 2, none⟩ (.slice a3 x3 c3)) q a bs c (.slice la ln lc) (.slice sa sn sc) (.slice oa on oc) L S O) := C3.out.far KZL.out Z3.out
            go_simp
            refine hK.out _ _ ?_ (fun hHeld => ?_)
            · exact HSS.out _ CF.out
            clear hK K
            clear r0 r1 r2 rf
            generalize (((V3.setCell ⟨kz, 0, none⟩ (.slice a1 x1 c1)).setCell ⟨kz, 1, none⟩ (.slice a2 x2 c2)).setCell ⟨kz, 2, none⟩ (.slice a3 x3 c3)) = WF at *
            refine wpAnyH_take (i := 9) (v := ?_) rfl (by kernel_rfl) (by kernel_rfl) (by kernel_rfl) (fun _ _ _ h => h) (Or.inl ⟨by kernel_rfl, ?_⟩) hHeld ?_
            rotate_left 1; focus (intro w hSw; (try dsimp only at hSw); (try go_split_ands); go_simp; all_goals (first | done | with_reducible rfl))
            change wpAnyH _ _ _ _ _ _ _ (Act.put _ (some 6) _) _; simp only [Act.put, List.setIfInBounds_toArray, List.set_cons_zero, List.set_cons_succ]
            refine wpAnyH_done (by kernel_rfl) ?_ _
            clear hHeld
            (try go_wp2_with fail)
            go_meet
            exact ⟨⟨ok, on', ot, od⟩, kz, x1, x2, x3, a1, a2, a3, c1, c2, c3, rfl, by rw [HQK.out], ⟨by simp only; omega, by simp only; omega, by simp only; omega⟩, HXS.out, CF.out, ZF.out, KZL.out, AF.out⟩
          refine AllReadyH.cons rfl (fun K hK => ?_) AllReadyH.nil
          have hb : Below WD.heap.size WD (WD.alloc (.cells #[.slice none 0 0, .slice none 0 0, .slice none 0 0] 27)) := (Below.refl _ _).alloc (Nat.le_refl _) _
          have KZL : Hid (w.heap.size + 2 ≤ WD.heap.size) := CS.out.size
          have C1 : Hid (DD w (WD.alloc (.cells #[.slice none 0 0, .slice none 0 0, .slice none 0 0] 27)) q a bs c (.slice la ln lc) (.slice sa sn sc) (.slice oa on oc) L S O) := CS.out.below hb
          have ZX : Hid ((WD.alloc (.cells #[.slice none 0 0, .slice none 0 0, .slice none 0 0] 27)).heap[WD.heap.size]? = some (.cells #[.slice none 0 0, .slice none 0 0, .slice none 0 0] 27 (0, 0))) := heap_alloc_new _ _
          clear hb
          (try simp only [Act.put, List.setIfInBounds_toArray])
          go_simp
          refine hK.out _ _ ?_ (fun hHeld => ?_)
          · exact HSS.out _ C1.out
          clear hK K
          obtain ⟨kz, HG⟩ : ∃ g, Hid (WD.heap.size = g) := ⟨_, rfl⟩
          rw [HG.out] at ZX KZL ⊢
          generalize (WD.alloc (.cells #[.slice none 0 0, .slice none 0 0, .slice none 0 0] 27)) = V1 at *
          clear HG
          refine wpAnyH_ready (rs := [2]) (by kernel_rfl) (by simp) ?_
          refine AllReadyH.cons rfl (fun K hK => ?_) AllReadyH.nil
          (try simp only [Act.put, List.setIfInBounds_toArray])
          go_simp
          obtain ⟨pp2, hrp⟩ := C1.out.rd
          refine (dop_any q pp2 c a bs _ hrp).mono ?_
          rintro e V2 ⟨ok, on', ot, od, pq2, rfl, ⟨hs1, hs2, hs3⟩, hr, hg⟩
          have C2 : Hid (DD w V2 q a bs c (.slice la ln lc) (.slice sa sn sc) (.slice oa on oc) L S O) := C1.out.read hr hg
          have Z2 : Hid (V2.heap[kz]? = some (.cells #[.slice none 0 0, .slice none 0 0, .slice none 0 0] 27 (0, 0))) := row_gq ZX.out (row_lt ZX.out) hg (by have := C1.out.lt; have := KZL.out; omega)
          clear hr hg hrp
          (try go_wp2_with fail)
          refine hK.out _ _ ?_ (fun hHeld => ?_)
          · exact HSS.out _ C2.out
          clear hK K
          refine wpAnyH_ready (rs := [3]) (by kernel_rfl) (by simp) ?_
          refine AllReadyH.cons rfl (fun K hK => ?_) AllReadyH.nil
          (try simp only [Act.put, List.setIfInBounds_toArray])
          go_simp
          refine (HDO.out V2 ⟨ok, on', ot, od⟩ C2.out (by simp only; omega) (by simp only; omega) (by simp only; omega)).mono ?_
          rintro e V3 ⟨x1, x2, x3, a1, c1, a2, c2, a3, c3, rfl, hxs, hb, hda⟩
          have HXS : Hid ((actL L O ⟨ok, on', ot, od⟩).length = x1 ∧ S.length = x2 ∧ (actO L O ⟨ok, on', ot, od⟩).length = x3) := hxs
          have hda2 := hda.bse (show w.heap.size ≤ V2.heap.size by have := C2.out.size; omega)
          have C3 : Hid (DD w V3 q a bs c (.slice la ln lc) (.slice sa sn sc) (.slice oa on oc) L S O) := C2.out.below hb
          have Z3 : Hid (V3.heap[kz]? = some (.cells #[.slice none 0 0, .slice none 0 0, .slice none 0 0] 27 (0, 0))) := below_row hb (row_lt Z2.out) Z2.out
          have A3 : Hid (DA V3 w.heap.size (.slice a1 x1 c1) (.slice a2 x2 c2) (.slice a3 x3 c3) (actL L O ⟨ok, on', ot, od⟩) S (actO L O ⟨ok, on', ot, od⟩)) := hda2
          clear hb hda hda2 hxs
          obtain ⟨qk, HQK⟩ : ∃ x, Hid (actK L O ⟨ok, on', ot, od⟩ = x) := ⟨_, rfl⟩
          rw [HQK.out]
          (try go_wp2_with fail)
          refine hK.out _ _ ?_ (fun hHeld => ?_)
          · exact HSS.out _ C3.out
          clear hK K
          refine wpAnyH_take (i := 4) (v := ?_) rfl (by kernel_rfl) (by kernel_rfl) (by kernel_rfl) (fun _ _ _ h => h) (Or.inl ⟨by kernel_rfl, ?_⟩) hHeld ?_
          rotate_left 1; focus (intro w hSw; (try dsimp only at hSw); (try go_split_ands); go_simp; all_goals (first | done | with_reducible rfl))
          change wpAnyH _ _ _ _ _ _ _ (Act.put _ (some 18) _) _; simp only [Act.put, List.setIfInBounds_toArray, List.set_cons_zero, List.set_cons_succ]
          refine wpAnyH_take (i := 5) (v := ?_) rfl (by kernel_rfl) (by kernel_rfl) (by kernel_rfl) (fun _ _ _ h => h) (Or.inl ⟨by kernel_rfl, ?_⟩) hHeld ?_
          rotate_left 1; focus (intro w hSw; (try dsimp only at hSw); (try go_split_ands); go_simp; all_goals (first | done | with_reducible rfl))
          change wpAnyH _ _ _ _ _ _ _ (Act.put _ (some 23) _) _; simp only [Act.put, List.setIfInBounds_toArray, List.set_cons_zero, List.set_cons_succ]
          refine wpAnyH_take (i := 6) (v := ?_) rfl (by kernel_rfl) (by kernel_rfl) (by kernel_rfl) (fun _ _ _ h => h) (Or.inl ⟨by kernel_rfl, ?_⟩) hHeld ?_
          rotate_left 1; focus (intro w hSw; (try dsimp only at hSw); (try go_split_ands); go_simp; all_goals (first | done | with_reducible rfl))
          change wpAnyH _ _ _ _ _ _ _ (Act.put _ (some 24) _) _; simp only [Act.put, List.setIfInBounds_toArray, List.set_cons_zero, List.set_cons_succ]
          refine wpAnyH_ready (rs := [8]) (by kernel_rfl) (by simp) ?_
          refine AllReadyH.cons rfl (fun K hK => ?_) AllReadyH.nil
          obtain ⟨r0, r1, r2⟩ := cells3 Z3.out
          have rf := fun i => frozen_of_row _ _ i _ _ Z3.out
          have ZF : Hid ((((V3.setCell ⟨kz, 0, none⟩ (.slice a1 x1 c1)).setCell ⟨kz, 1, none⟩ (.slice a2 x2 c2)).setCell ⟨kz, 2, none⟩ (.slice a3 x3 c3)).heap[kz]? = some (.cells #[.slice a1 x1 c1, .slice a2 x2 c2, .slice a3 x3 c3] 27 (0, 0))) := boxW Z3.out
          have AF : Hid (DA (((V3.setCell ⟨kz, 0, none⟩ (.slice a1 x1 c1)).setCell ⟨kz, 1, none⟩ (.slice a2 x2 c2)).setCell ⟨kz, 2, none⟩ (.slice a3 x3 c3)) w.heap.size (.slice a1 x1 c1) (.slice a2 x2 c2) (.slice a3 x3 c3) (actL L O ⟨ok, on', ot, od⟩) S (actO L O ⟨ok, on', ot, od⟩)) := da_box3 A3.out Z3.out
          have CF : Hid (DD w (((V3.setCell ⟨kz, 0, none⟩ (.slice a1 x1 c1)).setCell ⟨kz, 1, none⟩ (.slice a2 x2 c2)).setCell ⟨kz, 2, none⟩ (.slice a3 x3 c3)) q a bs c (.slice la ln lc) (.slice sa sn sc) (.slice oa on oc) L S O) := C3.out.far KZL.out Z3.out
          go_simp
          refine hK.out _ _ ?_ (fun hHeld => ?_)
          · exact HSS.out _ CF.out
          clear hK K
          clear r0 r1 r2 rf
          generalize (((V3.setCell ⟨kz, 0, none⟩ (.slice a1 x1 c1)).setCell ⟨kz, 1, none⟩ (.slice a2 x2 c2)).setCell ⟨kz, 2, none⟩ (.slice a3 x3 c3)) = WF at *
          refine wpAnyH_take (i := 9) (v := ?_) rfl (by kernel_rfl) (by kernel_rfl) (by kernel_rfl) (fun _ _ _ h => h) (Or.inl ⟨by kernel_rfl, ?_⟩) hHeld ?_
          rotate_left 1; focus (intro w hSw; (try dsimp only at hSw); (try go_split_ands); go_simp; all_goals (first | done | with_reducible rfl))
          change wpAnyH _ _ _ _ _ _ _ (Act.put _ (some 6) _) _; simp only [Act.put, List.setIfInBounds_toArray, List.set_cons_zero, List.set_cons_succ]
          refine wpAnyH_done (by kernel_rfl) ?_ _
          clear hHeld
          (try go_wp2_with fail)
          go_meet
          exact ⟨⟨ok, on', ot, od⟩, kz, x1, x2, x3, a1, a2, a3, c1, c2, c3, rfl, by rw [HQK.out], ⟨by simp only; omega, by simp only; omega, by simp only; omega⟩, HXS.out, CF.out, ZF.out, KZL.out, AF.out⟩
        case rest =>
          obtain ⟨o, kz, x1, x2, x3, a1, a2, a3, c1, c2, c3, rfl, rfl, ⟨hs1, hs2, hs3⟩, ⟨hx1, hx2, hx3⟩, hdd, hrow, hkz, hda⟩ := hcut
          have D5 : Hid (DD w wc q a bs c (.slice la ln lc) (.slice sa sn sc) (.slice oa on oc) L S O) := hdd
          have A5 : Hid (DA wc w.heap.size (.slice a1 x1 c1) (.slice a2 x2 c2) (.slice a3 x3 c3) (actL L O o) S (actO L O o)) := hda
          have HX : Hid ((actL L O o).length = x1 ∧ S.length = x2 ∧ (actO L O o).length = x3) := ⟨hx1, hx2, hx3⟩
          have HO2 : Hid (OSm (actO L O o)) := HOS.out.act ⟨hs1, hs2, hs3⟩
          have HKK : Hid (actK L O o = 0 → dskB (actL L O o) S (actO L O o) = true) := fun h => dsk_act HDK.out h
          obtain ⟨z0, z1, z2⟩ := cells3 hrow
          clear hdd hda hs1 hs2 hs3 hx1 hx2 hx3 hrow hkz D2
          generalize actL L O o = XL at *
          generalize actO L O o = XO at *
          generalize actK L O o = kd at *
          by_cases hk0 : kd = 0
          · subst hk0
            have D6 : Hid (DD w (((wc.setCell ⟨w.heap.size + 1, 0, none⟩ (.slice a1 x1 c1)).setCell ⟨w.heap.size + 1, 1, none⟩ (.slice a2 x2 c2)).setCell ⟨w.heap.size + 1, 2, none⟩ (.slice a3 x3 c3)) q a bs c (.slice a1 x1 c1) (.slice a2 x2 c2) (.slice a3 x3 c3) XL S XO) := D5.out.store A5.out
            obtain ⟨y0, y1, y2⟩ := cells3 D5.out.r3
            have yf := fun i => frozen_of_row _ _ i _ _ D5.out.r3
            have HD6 : Hid (dskB XL S XO = true) := HKK.out rfl
            clear HKK
            go_wp2_with fail
            go_roundw
            case rel => exact ⟨m - 1, a1, a2, a3, x1, x2, x3, c1, c2, c3, XL, S, XO, by omega, by first | rfl | go_num, D6.out, HD6.out, HO2.out, HX.out⟩
            case measure => simp [intOf]; omega
          · have hkb : (kd == 0) = false := by simp [hk0]
            clear z0 z1 z2
            go_wp2_with fail
            go_roundw
            case rel => exact ⟨m - 1, la, sa, oa, ln, sn, on, lc, sc, oc, L, S, O, by omega, by first | rfl | go_num, D5.out, HDK.out, HOS.out, ⟨HLN.out, HSN.out, HON.out⟩⟩
            case measure => simp [intOf]; omega
    · have hm1 : ¬ ((0 : Int) < m) := by omega
      go_wp2_with fail
      obtain ⟨p2, hr2⟩ := DR.out.rd
      refine (below_any q p2 c 40 a bs wr hr2 (by omega)).mono ?_
      rintro e w2 ⟨v, p3, rfl, hv0, hv1, hr, hg⟩
      have D2 : Hid (DD w w2 q a bs c (.slice la ln lc) (.slice sa sn sc) (.slice oa on oc) L S O) := DR.out.read hr hg
      clear hr hg hr2 DR
      by_cases hv39 : v = 39
      · subst hv39
        have hb : Below w2.heap.size w2 (w2.alloc (.cells #[.string ⟨#[122, 122]⟩, .string ⟨#[]⟩] 55)) := (Below.refl _ _).alloc (Nat.le_refl _) _
        have D3 : Hid (DD w (w2.alloc (.cells #[.string ⟨#[122, 122]⟩, .string ⟨#[]⟩] 55)) q a bs c (.slice la ln lc) (.slice sa sn sc) (.slice oa on oc) L S O) := D2.out.below hb
        have HFC : Hid (∀ j u, (rowF [(⟨#[122, 122]⟩, ⟨#[]⟩)])[j]? = some u → ∃ b off, some (⟨w2.heap.size, 0, none⟩ : Addr) = some ⟨b, off, none⟩ ∧ (w2.alloc (.cells #[.string ⟨#[122, 122]⟩, .string ⟨#[]⟩] 55)).cell? ⟨b, off + j, none⟩ = some u) := fun j u hu => ⟨_, 0, rfl, by rw [Nat.zero_add, cell_of_row _ _ j _ _ _ (heap_alloc_new _ _)]; simpa [rowF] using hu⟩
        have bln : ln ≤ 60 := by rw [← HLN.out]; exact (filB_true.1 (dsk_parts HDK.out).1).1
        obtain ⟨z0, z1, z2⟩ := cells3 D3.out.r3
        obtain ⟨z0', _, _⟩ := cells3 D2.out.r3
        have ONL : Hid ((w2.alloc (.cells #[.string ⟨#[122, 122]⟩, .string ⟨#[]⟩] 55)).ownsRow w.heap.size 55 2 (.slice la ln lc) ln (rowF L)) := by have := D3.out.da.d.l; rw [HLN.out] at this; exact this
        have BSZ : Hid (w.heap.size ≤ (w2.alloc (.cells #[.string ⟨#[122, 122]⟩, .string ⟨#[]⟩] 55)).heap.size) := by have := D3.out.size; show _ ≤ _; omega
        clear hb
        go_wp2_with (
          at_builtin
          refine append_opt Try.underlying24 infF32 rfl (by decide) _ rfl _ _ rfl w.heap.size (.slice la ln lc) ln (rowF L) rfl ONL.out (some ⟨w2.heap.size, 0, none⟩) 1 1 (rowF [(⟨#[122, 122]⟩, ⟨#[]⟩)]) rfl rfl HFC.out (rowF_one _) (by omega) (by omega) BSZ.out ?_
          intro v' w4 hown hg hbk hnl
          rw [← rowF_app] at hown
          obtain ⟨na, nc, rfl⟩ := own_anyV hown
          have D4 : Hid (DD w (w4.setCell ⟨w.heap.size + 1, 0, none⟩ (.slice na (ln + 1) nc)) q a bs c (.slice na (ln + 1) nc) (.slice sa sn sc) (.slice oa on oc) (L ++ [(⟨#[122, 122]⟩, ⟨#[]⟩)]) S O) := D3.out.app hown hg hbk HLN.out
          have r3 := D3.out.keep3 hg
          obtain ⟨y0, y1, y2⟩ := cells3 r3
          have yf := fun i => frozen_of_row _ _ i _ _ r3
          have E4 : Hid (DE w (w4.setCell ⟨w.heap.size + 1, 0, none⟩ (.slice na (ln + 1) nc)) q a bs c na sa oa (ln + 1) sn on nc sc oc (L ++ [(⟨#[122, 122]⟩, ⟨#[]⟩)]) S O) := DE.of D4.out (by rw [List.length_append, HLN.out]; rfl) HSN.out HON.out (dok_app (dsk_dok HDK.out HOS.out) (by rw [HLN.out]; omega) (by decide))
          obtain ⟨e0, e1, e2⟩ := cells3 E4.out.r3
          obtain ⟨f0, f1, f2⟩ := cells3 E4.out.r2
          have ff := fun i => frozen_of_row _ _ i _ _ E4.out.r2
          have RZ := boxW (u := .slice na (ln + 1) nc) (v := .slice sa sn sc) (x := .slice oa on oc) E4.out.r2
          obtain ⟨r0, r1, r2⟩ := cells3 RZ
          have FE : Hid (DiskOkD w q a bs c (.returned (.agg #[.slice na (ln + 1) nc, .slice sa sn sc, .slice oa on oc])) ((((w4.setCell ⟨w.heap.size + 1, 0, none⟩ (.slice na (ln + 1) nc)).setCell ⟨w.heap.size, 0, none⟩ (.slice na (ln + 1) nc)).setCell ⟨w.heap.size, 1, none⟩ (.slice sa sn sc)).setCell ⟨w.heap.size, 2, none⟩ (.slice oa on oc))) := E4.out.fin
          clear hown hg hbk hnl r3 RZ)
        refine bodyPost_ret (v := .agg #[.slice na (ln + 1) nc, .slice sa sn sc, .slice oa on oc]) (by simp [results, Try.results21, go_sem, r0, r1, r2]) rfl FE.out
      have hv39b : (v == 39) = false := by simp [hv39]
      by_cases hv38 : v = 38
      · subst hv38
        by_cases hon0 : 0 < on
        · have hon1 : (0 : Int) < on := by omega
          obtain ⟨og, rfl⟩ := own_some0 D2.out.da.d.o (by rw [HON.out]; omega)
          have hcap := (own_capF D2.out.da.d.o).1
          obtain ⟨z0, z1, z2⟩ := cells3 D2.out.r3
          have zf := fun i => frozen_of_row _ _ i _ _ D2.out.r3
          go_upto_region 19 with fail
          have E4 : Hid (DE w (w2.setCell ⟨w.heap.size + 1, 2, none⟩ (.slice (if oc = 1 then some ⟨og, 0, none⟩ else some ⟨og, 4, none⟩) (on - 1) (oc - 1))) q a bs c la sa (if oc = 1 then some ⟨og, 0, none⟩ else some ⟨og, 4, none⟩) ln sn (on - 1) lc sc (oc - 1) L S O.tail) := D2.out.cut HLN.out HSN.out HON.out (dsk_dok HDK.out HOS.out)
          clear z0 z1 z2 zf hcap
          generalize (if oc = 1 then some (⟨og, 0, none⟩ : Addr) else some ⟨og, 4, none⟩) = oa2 at *
          generalize on - 1 = on2 at *
          generalize oc - 1 = oc2 at *
          generalize w2.setCell ⟨w.heap.size + 1, 2, none⟩ (.slice oa2 on2 oc2) = w3 at *
          obtain ⟨z0, z1, z2⟩ := cells3 E4.out.r3
          obtain ⟨y0, y1, y2⟩ := cells3 E4.out.r2
          have yf := fun i => frozen_of_row _ _ i _ _ E4.out.r2
          have RZ := boxW (u := .slice la ln lc) (v := .slice sa sn sc) (x := .slice oa2 on2 oc2) E4.out.r2
          have FE : Hid (DiskOkD w q a bs c (.returned (.agg #[.slice la ln lc, .slice sa sn sc, .slice oa2 on2 oc2])) (((w3.setCell ⟨w.heap.size, 0, none⟩ (.slice la ln lc)).setCell ⟨w.heap.size, 1, none⟩ (.slice sa sn sc)).setCell ⟨w.heap.size, 2, none⟩ (.slice oa2 on2 oc2))) := E4.out.fin
          go_wp2
          obtain ⟨r0, r1, r2⟩ := cells3 RZ
          refine bodyPost_ret (v := .agg #[.slice la ln lc, .slice sa sn sc, .slice oa2 on2 oc2]) (by simp [results, Try.results21, go_sem, r0, r1, r2]) rfl FE.out
        have hon1 : ¬ (0 : Int) < on := by omega
        have E2 : Hid (DE w w2 q a bs c la sa oa ln sn on lc sc oc L S O) := DE.of D2.out HLN.out HSN.out HON.out (dsk_dok HDK.out HOS.out)
        obtain ⟨z0, z1, z2⟩ := cells3 E2.out.r3
        obtain ⟨y0, y1, y2⟩ := cells3 E2.out.r2
        have yf := fun i => frozen_of_row _ _ i _ _ E2.out.r2
        have RZ := boxW (u := .slice la ln lc) (v := .slice sa sn sc) (x := .slice oa on oc) E2.out.r2
        have FE : Hid (DiskOkD w q a bs c (.returned (.agg #[.slice la ln lc, .slice sa sn sc, .slice oa on oc])) (((w2.setCell ⟨w.heap.size, 0, none⟩ (.slice la ln lc)).setCell ⟨w.heap.size, 1, none⟩ (.slice sa sn sc)).setCell ⟨w.heap.size, 2, none⟩ (.slice oa on oc))) := E2.out.fin
        go_wp2
        obtain ⟨r0, r1, r2⟩ := cells3 RZ
        refine bodyPost_ret (v := .agg #[.slice la ln lc, .slice sa sn sc, .slice oa on oc]) (by simp [results, Try.results21, go_sem, r0, r1, r2]) rfl FE.out
      have hv38b : (v == 38) = false := by simp [hv38]
      by_cases hv37 : v = 37
      · subst hv37
        obtain ⟨p4, hr4⟩ := D2.out.rd
        go_wp2_with fail
        refine (below_any q p4 c 9 a bs w2 hr4 (by omega)).mono ?_
        rintro e w3 ⟨x, p5, rfl, hx0, hx1, hr, hg⟩
        have D3 : Hid (DD w w3 q a bs c (.slice la ln lc) (.slice sa sn sc) (.slice oa on oc) L S O) := D2.out.read hr hg
        have HWS : Hid (w.heap.size + 2 ≤ w3.heap.size) := D3.out.size
        clear hr hg hr4 D2
        obtain ⟨y, rfl⟩ := Int.eq_ofNat_of_zero_le hx0
        obtain ⟨n0, hn0⟩ : ∃ n : Nat, 200000 - y = n := ⟨_, rfl⟩
        have hz : (200000 : Int) - (y : Int) = (n0 : Int) := by omega
        have hzw : wrap64 ((200000 : Int) - (y : Int)) = (n0 : Int) := by rw [hz]; unfold wrap64; omega
        have hzi : IntKind.i64.wrap ((200000 : Int) - (y : Int)) = (n0 : Int) := by rw [hz]; exact IntWalk.i64_in _ (by omega)
        have hn1 : n0 ≤ 200000 := by omega
        have HMK : Hid ((Instr.makeSlice 22 (.int .i64 n0) (.int .i64 n0)).run Try.prog w3 = .ok (.slice (some ⟨w3.heap.size, 0, none⟩) n0 n0) (w3.alloc (.cells (Array.replicate n0 (Value.int .u8 0)) 5))) := make_bytes w3 n0 (by omega)
        have hmk := HMK.out
        obtain ⟨sb, HSB⟩ : ∃ t, Hid (strOfNums (List.replicate n0 0) = t) := ⟨_, rfl⟩
        have hsz : Hid (sb.size ≤ 200000) := by show _ ≤ _; rw [← HSB.out, strOfNums_size, List.length_replicate]; exact hn1
        have hconv := run_convert_bytes_arg (P := Try.prog) (w3.alloc (.cells (Array.replicate n0 (Value.int .u8 0)) 5)) 22 5 Try.underlying22 Try.underlying5 w3.heap.size 0 n0 n0 (List.replicate n0 0) (by simp) (byte_cells w3 n0) 9 Try.underlying9
        rw [HSB.out] at hconv
        have D4 : Hid (DD w ((w3.alloc (.cells (Array.replicate n0 (Value.int .u8 0)) 5)).alloc (.cells #[.string ⟨#[98, 105, 103]⟩, .string sb] 55)) q a bs c (.slice la ln lc) (.slice sa sn sc) (.slice oa on oc) L S O) := D3.out.below (((Below.refl _ _).alloc (Nat.le_refl _) _).alloc (by simp) _)
        have RF : Hid (((w3.alloc (.cells (Array.replicate n0 (Value.int .u8 0)) 5)).alloc (.cells #[.string ⟨#[98, 105, 103]⟩, .string sb] 55)).heap[w3.heap.size + 1]? = some (.cells #[.string ⟨#[98, 105, 103]⟩, .string sb] 55 (0, 0))) := heap_alloc2_new _ _ _
        obtain ⟨z0, z1, z2⟩ := cells3 D4.out.r3
        have zf := fun i => frozen_of_row _ _ i _ _ D4.out.r3
        clear hz hzw hx0 hx1 HMK D3
        go_upto_region 18 with fail
        obtain ⟨gf, HGF⟩ : ∃ i, Hid (w3.heap.size + 1 = i) := ⟨_, rfl⟩
        have HGW : Hid (w.heap.size ≤ gf) := by show _ ≤ _; rw [← HGF.out]; have := HWS.out; omega
        rw [HGF.out] at RF ⊢
        clear hconv hmk hzi hn0 hn1 HSB z0 z1 z2 zf
        generalize ((w3.alloc (.cells (Array.replicate n0 (Value.int .u8 0)) 5)).alloc (.cells #[.string ⟨#[98, 105, 103]⟩, .string sb] 55)) = w4 at *
        clear HGF
        have E5 : Hid (DE w ((((w4.setCell ⟨w.heap.size + 1, 0, none⟩ (.slice (some ⟨gf, 0, none⟩) 1 1)).setCell ⟨w.heap.size + 1, 1, none⟩ (.slice none 0 0)).setCell ⟨w.heap.size + 1, 2, none⟩ (.slice none 0 0)).setCell ⟨w.heap.size + 1, 1, none⟩ (.slice (some ⟨gf, 0, none⟩) 1 1)) q a bs c (some ⟨gf, 0, none⟩) (some ⟨gf, 0, none⟩) none 1 1 0 1 1 0 [(⟨#[98, 105, 103]⟩, sb)] [(⟨#[98, 105, 103]⟩, sb)] []) := D4.out.big RF.out hsz.out (by decide) HGW.out
        have R5 : Hid ((((w4.setCell ⟨w.heap.size + 1, 0, none⟩ (.slice (some ⟨gf, 0, none⟩) 1 1)).setCell ⟨w.heap.size + 1, 1, none⟩ (.slice none 0 0)).setCell ⟨w.heap.size + 1, 2, none⟩ (.slice none 0 0)).heap[w.heap.size + 1]? = some (.cells #[.slice (some ⟨gf, 0, none⟩) 1 1, .slice none 0 0, .slice none 0 0] 27 (0, 0))) := boxW D4.out.r3
        obtain ⟨z0, z1, z2⟩ := cells3 R5.out
        have zf := fun i => frozen_of_row _ _ i _ _ R5.out
        go_upto_region 19 with fail
        clear z0 z1 z2 zf R5
        generalize (((w4.setCell ⟨w.heap.size + 1, 0, none⟩ (.slice (some ⟨gf, 0, none⟩) 1 1)).setCell ⟨w.heap.size + 1, 1, none⟩ (.slice none 0 0)).setCell ⟨w.heap.size + 1, 2, none⟩ (.slice none 0 0)).setCell ⟨w.heap.size + 1, 1, none⟩ (.slice (some ⟨gf, 0, none⟩) 1 1) = w6 at *
        obtain ⟨z0, z1, z2⟩ := cells3 E5.out.r3
        obtain ⟨y0, y1, y2⟩ := cells3 E5.out.r2
        have yf := fun i => frozen_of_row _ _ i _ _ E5.out.r2
        have RZ := boxW (u := .slice (some ⟨gf, 0, none⟩) 1 1) (v := .slice (some ⟨gf, 0, none⟩) 1 1) (x := .slice none 0 0) E5.out.r2
        have FE : Hid (DiskOkD w q a bs c (.returned (.agg #[.slice (some ⟨gf, 0, none⟩) 1 1, .slice (some ⟨gf, 0, none⟩) 1 1, .slice none 0 0])) (((w6.setCell ⟨w.heap.size, 0, none⟩ (.slice (some ⟨gf, 0, none⟩) 1 1)).setCell ⟨w.heap.size, 1, none⟩ (.slice (some ⟨gf, 0, none⟩) 1 1)).setCell ⟨w.heap.size, 2, none⟩ (.slice none 0 0))) := E5.out.fin
        go_wp2
        obtain ⟨r0, r1, r2⟩ := cells3 RZ
        refine bodyPost_ret (v := .agg #[.slice (some ⟨gf, 0, none⟩) 1 1, .slice (some ⟨gf, 0, none⟩) 1 1, .slice none 0 0]) (by simp [results, Try.results21, go_sem, r0, r1, r2]) rfl FE.out
      have hv37b : (v == 37) = false := by simp [hv37]
      have E2 : Hid (DE w w2 q a bs c la sa oa ln sn on lc sc oc L S O) := DE.of D2.out HLN.out HSN.out HON.out (dsk_dok HDK.out HOS.out)
      obtain ⟨z0, z1, z2⟩ := cells3 E2.out.r3
      obtain ⟨y0, y1, y2⟩ := cells3 E2.out.r2
      have yf := fun i => frozen_of_row _ _ i _ _ E2.out.r2
      have RZ := boxW (u := .slice la ln lc) (v := .slice sa sn sc) (x := .slice oa on oc) E2.out.r2
      have FE : Hid (DiskOkD w q a bs c (.returned (.agg #[.slice la ln lc, .slice sa sn sc, .slice oa on oc])) (((w2.setCell ⟨w.heap.size, 0, none⟩ (.slice la ln lc)).setCell ⟨w.heap.size, 1, none⟩ (.slice sa sn sc)).setCell ⟨w.heap.size, 2, none⟩ (.slice oa on oc))) := E2.out.fin
      go_wp2
      obtain ⟨r0, r1, r2⟩ := cells3 RZ
      refine bodyPost_ret (v := .agg #[.slice la ln lc, .slice sa sn sc, .slice oa on oc]) (by simp [results, Try.results21, go_sem, r0, r1, r2]) rfl FE.out

end Go.Proofs.Ytpahhhocgpohbaa
