import Derived.Test.YtpahhhocgpohbaaPack1
import Derived.Test.YtpahhhocgpohbaaDrawDisk
namespace Go.Proofs.Ytpahhhocgpohbaa
open Go.RowKit

theorem cell_ne_q {W : World} {q b m c p : Nat} {a : Option Addr} {bs : List Int} {s : ByteArray} (h : RD W q a bs c p) (hc : W.cell? ⟨b, m, none⟩ = some (.string s)) : b ≠ q := fun e => by
  subst e
  rw [cell_of_row _ _ m _ _ _ h.1] at hc
  match m, hc with
  | 0, hc => cases hc
  | 1, hc => cases hc
  | k + 2, hc => simp at hc
theorem cell_gq {W W' : World} {q b m : Nat} {v : Value} (hg : W.grownBy W' (some q)) (hne : b ≠ q) (hc : W.cell? ⟨b, m, none⟩ = some v) : W'.cell? ⟨b, m, none⟩ = some v := by
  rw [World.cell?_of_block (hg.block b (block_lt_of_cell hc) (fun e => hne (by simpa using e)))]
  exact hc
theorem FilesAt.read {W W' : World} {q c p : Nat} {a la : Option Addr} {bs : List Int} {L : List FI} (h : FilesAt W la L) (hr : RD W q a bs c p) (hg : W.grownBy W' (some q)) : FilesAt W' la L := fun j hj => by
  obtain ⟨b, off, e, c0, c1⟩ := h j hj
  have hne := cell_ne_q hr c0
  exact ⟨b, off, e, cell_gq hg hne c0, cell_gq hg hne c1⟩
theorem OpsAt.read {W W' : World} {q c p : Nat} {a la : Option Addr} {bs : List Int} {L : List OP} (h : OpsAt W la L) (hr : RD W q a bs c p) (hg : W.grownBy W' (some q)) : OpsAt W' la L := fun j hj => by
  obtain ⟨b, off, e, c0, c1, c2, c3⟩ := h j hj
  have hne := cell_ne_q hr c1
  exact ⟨b, off, e, cell_gq hg hne c0, cell_gq hg hne c1, cell_gq hg hne c2, cell_gq hg hne c3⟩
theorem DAt.read {W W' : World} {q c p : Nat} {a la sa oa : Option Addr} {bs : List Int} {L S : List FI} {O : List OP} (h : DAt W la sa oa L S O) (hr : RD W q a bs c p) (hg : W.grownBy W' (some q)) : DAt W' la sa oa L S O := ⟨h.l.read hr hg, h.s.read hr hg, h.o.read hr hg⟩
/-- Cells of texts lie in no box of a disk or an op that is written in one place: a row of another block. -/
theorem row_ne_q {W : World} {q k c p : Nat} {a : Option Addr} {bs : List Int} {cs : Array Value} {T : TypeId} {r : Nat × Nat} (h : RD W q a bs c p) (hr : W.heap[k]? = some (.cells cs T r)) (hT : T ≠ 65) : k ≠ q := fun e => by
  subst e
  have := h.1
  rw [hr] at this
  injection this with this
  injection this with _ t _
  exact hT t
/-- Where a disk's files and ops do not lie. -/
def Off (k : Nat) (x : Option Addr) (n : Nat) : Prop := 0 < n → ∀ b off, x = some ⟨b, off, none⟩ → b ≠ k
theorem FilesAt.off {W : World} {k i : Nat} {v : Value} {x : Option Addr} {L : List FI} (h : FilesAt W x L) (ho : Off k x L.length) : FilesAt (W.setCell ⟨k, i, none⟩ v) x L := fun j hj => by
  obtain ⟨b, off, e, c0, c1⟩ := h j hj
  have hne := ho (by omega) b off e
  exact ⟨b, off, e, keep_setT c0 hne, keep_setT c1 hne⟩
theorem OpsAt.off {W : World} {k i : Nat} {v : Value} {x : Option Addr} {L : List OP} (h : OpsAt W x L) (ho : Off k x L.length) : OpsAt (W.setCell ⟨k, i, none⟩ v) x L := fun j hj => by
  obtain ⟨b, off, e, c0, c1, c2, c3⟩ := h j hj
  have hne := ho (by omega) b off e
  exact ⟨b, off, e, keep_setT c0 hne, keep_setT c1 hne, keep_setT c2 hne, keep_setT c3 hne⟩
def Off3 (k : Nat) (la sa oa : Option Addr) (L S : List FI) (O : List OP) : Prop := Off k la L.length ∧ Off k sa S.length ∧ Off k oa O.length
theorem DAt.off {W : World} {k i : Nat} {v : Value} {la sa oa : Option Addr} {L S : List FI} {O : List OP} (h : DAt W la sa oa L S O) (ho : Off3 k la sa oa L S O) : DAt (W.setCell ⟨k, i, none⟩ v) la sa oa L S O := ⟨h.l.off ho.1, h.s.off ho.2.1, h.o.off ho.2.2⟩
theorem off_new {k m n : Nat} {x : Option Addr} (h : NewA m x) (hk : k < m) : Off k x n := fun _ b off e => by have := h b off e; omega
def New3 (m : Nat) (la sa oa : Option Addr) : Prop := NewA m la ∧ NewA m sa ∧ NewA m oa
theorem off3_new {k m : Nat} {la sa oa : Option Addr} {L S : List FI} {O : List OP} (h : New3 m la sa oa) (hk : k < m) : Off3 k la sa oa L S O := ⟨off_new h.1 hk, off_new h.2.1 hk, off_new h.2.2 hk⟩
/-- A block that is made later. -/
theorem DAt.offAt {W : World} {la sa oa : Option Addr} {L S : List FI} {O : List OP} (h : DAt W la sa oa L S O) {k : Nat} (hk : W.heap.size ≤ k) : Off3 k la sa oa L S O := by
  refine ⟨fun hn b off e => ?_, fun hn b off e => ?_, fun hn b off e => ?_⟩
  · obtain ⟨b', off', e', c0, _⟩ := h.l 0 hn
    rw [e] at e'; injection e' with e'; injection e' with e1 _ _
    have := block_lt_of_cell c0
    simp only at this
    omega
  · obtain ⟨b', off', e', c0, _⟩ := h.s 0 hn
    rw [e] at e'; injection e' with e'; injection e' with e1 _ _
    have := block_lt_of_cell c0
    simp only at this
    omega
  · obtain ⟨b', off', e', c0, _⟩ := h.o 0 hn
    rw [e] at e'; injection e' with e'; injection e' with e1 _ _
    have := block_lt_of_cell c0
    simp only at this
    omega
/-- Inside a draw that keeps a disk in a box: the reader, the disk's box, the disk. -/
structure DW (w W : World) (q i5 : Nat) (a : Option Addr) (bs : List Int) (c : Nat) (la sa oa : Option Addr) (ln sn on lc sc oc : Nat) (L S : List FI) (O : List OP) : Prop where
  ca : CodeAt w a bs
  rd : ∃ p, RD W q a bs c p
  b : Below w.heap.size w W
  q0 : w.heap.size ≤ q
  i0 : w.heap.size + 2 ≤ i5
  r2 : W.heap[w.heap.size]? = some (.cells #[.slice none 0 0, .slice none 0 0, .slice none 0 0] 27 (0, 0))
  r5 : W.heap[i5]? = some (.cells #[.slice la ln lc, .slice sa sn sc, .slice oa on oc] 27 (0, 0))
  da : DAt W la sa oa L S O
  ok : DskOk L S O
  ln : L.length = ln ∧ S.length = sn ∧ O.length = on
  cp : on ≤ oc ∧ (oa = none → on = 0 ∧ oc = 0)
  nw : New3 (w.heap.size + 2) la sa oa
section
variable {w W W' : World} {q i5 c ln sn on lc sc oc : Nat} {a la sa oa : Option Addr} {bs : List Int} {L S : List FI} {O : List OP}
theorem DW.below (h : DW w W q i5 a bs c la sa oa ln sn on lc sc oc L S O) (hb : Below W.heap.size W W') : DW w W' q i5 a bs c la sa oa ln sn on lc sc oc L S O := by
  obtain ⟨p, hr⟩ := h.rd
  exact ⟨h.ca, ⟨p, hr.below hb⟩, h.b.trans (hb.mono h.b.size), h.q0, h.i0, below_row hb (row_lt h.r2) h.r2, below_row hb (row_lt h.r5) h.r5, h.da.below hb, h.ok, h.ln, h.cp, h.nw⟩
theorem DW.read {p : Nat} (h : DW w W q i5 a bs c la sa oa ln sn on lc sc oc L S O) (hr' : RD W' q a bs c p) (hg : W.grownBy W' (some q)) : DW w W' q i5 a bs c la sa oa ln sn on lc sc oc L S O := by
  obtain ⟨p0, hr⟩ := h.rd
  exact ⟨h.ca, ⟨p, hr'⟩, grown_below h.b h.q0 hg, h.q0, h.i0, row_gq h.r2 (row_lt h.r2) hg (row_ne_q hr h.r2 (by decide)), row_gq h.r5 (row_lt h.r5) hg (row_ne_q hr h.r5 (by decide)), h.da.read hr hg, h.ok, h.ln, h.cp, h.nw⟩
/-- The reader stays where another block is written. -/
theorem RD.set {p k i : Nat} {v : Value} (h : RD W q a bs c p) (hk : k ≠ q) (hc : CodeAt w a bs) (hw : w.heap.size ≤ k) : RD (W.setCell ⟨k, i, none⟩ v) q a bs c p := by
  refine ⟨(heap_setCell_other _ _ _ _ (Ne.symm hk)).trans h.1, h.2.1, fun j hj => ?_, h.2.2.2⟩
  obtain ⟨b, off, e, hne, hcell, hv⟩ := h.2.2.1 j hj
  obtain ⟨b', off', e', c0, _⟩ := hc j hj
  have hlt := block_lt_of_cell c0
  rw [e] at e'; injection e' with e'; injection e' with e1 _ _
  simp only at hlt
  exact ⟨b, off, e, hne, keep_setT hcell (by omega), hv⟩
/-- A box elsewhere is written in one place. -/
theorem DW.off {k i : Nat} {v : Value} {cs : Array Value} (h : DW w W q i5 a bs c la sa oa ln sn on lc sc oc L S O) (hr : W.heap[k]? = some (.cells cs 36 (0, 0))) (hk : w.heap.size ≤ k) (ho : Off3 k la sa oa L S O) : DW w (W.setCell ⟨k, i, none⟩ v) q i5 a bs c la sa oa ln sn on lc sc oc L S O := by
  obtain ⟨p, hrd⟩ := h.rd
  have ne : ∀ {m : Nat} {ds : Array Value}, W.heap[m]? = some (.cells ds 27 (0, 0)) → m ≠ k := fun hm e => by
    subst e
    rw [hr] at hm
    injection hm with hm
    injection hm with _ t _
    exact absurd t (by decide)
  exact ⟨h.ca, ⟨p, hrd.set (row_ne_q hrd hr (by decide)) h.ca hk⟩, h.b.setCell hk _, h.q0, h.i0, (heap_setCell_other _ _ _ _ (ne h.r2)).trans h.r2, (heap_setCell_other _ _ _ _ (ne h.r5)).trans h.r5, h.da.off ho, h.ok, h.ln, h.cp, h.nw⟩
/-- Another disk of the call's own is put into the box. -/
theorem DW.store {x1 x2 x3 c1 c2 c3 base : Nat} {a1 a2 a3 : Option Addr} {L2 S2 : List FI} {O2 : List OP} (h : DW w W q i5 a bs c la sa oa ln sn on lc sc oc L S O) (hd : DA W base (.slice a1 x1 c1) (.slice a2 x2 c2) (.slice a3 x3 c3) L2 S2 O2) (hb : w.heap.size + 2 ≤ base) (hk : DskOk L2 S2 O2) (hn : L2.length = x1 ∧ S2.length = x2 ∧ O2.length = x3) : DW w (((W.setCell ⟨i5, 0, none⟩ (.slice a1 x1 c1)).setCell ⟨i5, 1, none⟩ (.slice a2 x2 c2)).setCell ⟨i5, 2, none⟩ (.slice a3 x3 c3)) q i5 a bs c a1 a2 a3 x1 x2 x3 c1 c2 c3 L2 S2 O2 := by
  obtain ⟨p, hrd⟩ := h.rd
  have hi := h.i0
  have hq := row_ne_q hrd h.r5 (by decide)
  have hne : w.heap.size ≠ i5 := by omega
  exact ⟨h.ca, ⟨p, ((hrd.set hq h.ca (by omega)).set hq h.ca (by omega)).set hq h.ca (by omega)⟩, ((h.b.setCell (by show _ ≤ i5; omega) _).setCell (by show _ ≤ i5; omega) _).setCell (by show _ ≤ i5; omega) _, h.q0, h.i0, (heap_setCell_other _ _ _ _ hne).trans ((heap_setCell_other _ _ _ _ hne).trans ((heap_setCell_other _ _ _ _ hne).trans h.r2)), boxW h.r5, (hd.at hn.1 hn.2.1 hn.2.2).box3 h.r5, hk, hn, own_capF hd.d.o, ⟨fun b off e => Nat.le_trans hb (own_new hd.d.l b off e), fun b off e => Nat.le_trans hb (own_new hd.d.s b off e), fun b off e => Nat.le_trans hb (own_new hd.d.o b off e)⟩⟩
end
theorem dok_act {L S : List FI} {O : List OP} {o : OP} (h : DskOk L S O) (hd : dskB L S O = true) (hk : actK L O o = 0) (h1 : o.n.size ≤ 1048576) (h2 : o.t.size ≤ 1048576) (h3 : o.d.size ≤ 1048576) : DskOk (actL L O o) S (actO L O o) := by
  have hf := act_fil hk
  obtain ⟨a1, _, a3⟩ := filB_true.1 hf
  rw [totTo_all] at a3
  have hl := actO_len hk
  have ho : actO L O o = O ++ [o] := by unfold actO; rw [if_pos hk]
  have h200 := (dsk_parts hd).2.2
  refine ⟨by omega, h.sn, by omega, by omega, h.st, shrt_fil hf, h.ss, fun j hj => ?_⟩
  rw [ho] at hj ⊢
  by_cases e : j < O.length
  · rw [show (O ++ [o]).getD j op0 = O.getD j op0 by rw [List.getD_eq_getElem?_getD, List.getD_eq_getElem?_getD, List.getElem?_append_left e]]
    exact h.os j e
  · have : j = O.length := by simp at hj; omega
    subst this
    rw [show (O ++ [o]).getD O.length op0 = o by simp [List.getD_eq_getElem?_getD]]
    exact ⟨h1, h2, h3⟩

end Go.Proofs.Ytpahhhocgpohbaa

namespace Go.Proofs.Ytpahhhocgpohbaa
open Go.RowKit

/-- What spec.DrawReplace answers. -/
def RepOk (w : World) (e : Ending) (w' : World) : Prop :=
  ∃ (la sa oa : Option Addr) (ln sn on lc sc oc : Nat) (L S : List FI) (O : List OP) (nm dt : ByteArray), e = .returned (.tuple #[.agg #[.slice la ln lc, .slice sa sn sc, .slice oa on oc], .string nm, .string dt]) ∧ DAt w' la sa oa L S O ∧ DskOk L S O ∧ (L.length = ln ∧ S.length = sn ∧ O.length = on) ∧ (nm.size ≤ 98 ∧ dt.size ≤ 3) ∧ Below w.heap.size w w'
theorem rep_fin {w W : World} {q i5 c ln sn on lc sc oc : Nat} {a la sa oa : Option Addr} {bs : List Int} {L S : List FI} {O : List OP} {nm dt : ByteArray} (h : DW w W q i5 a bs c la sa oa ln sn on lc sc oc L S O) (hs : nm.size ≤ 98 ∧ dt.size ≤ 3) : RepOk w (.returned (.tuple #[.agg #[.slice la ln lc, .slice sa sn sc, .slice oa on oc], .string nm, .string dt])) (((W.setCell ⟨w.heap.size, 0, none⟩ (.slice la ln lc)).setCell ⟨w.heap.size, 1, none⟩ (.slice sa sn sc)).setCell ⟨w.heap.size, 2, none⟩ (.slice oa on oc)) :=
  ⟨la, sa, oa, ln, sn, on, lc, sc, oc, L, S, O, nm, dt, rfl, h.da.box3 h.r2, h.ok, h.ln, hs, ((h.b.setCell (Nat.le_refl _) _).setCell (Nat.le_refl _) _).setCell (Nat.le_refl _) _⟩
theorem DW.cells5 {w W : World} {q i5 c ln sn on lc sc oc : Nat} {a la sa oa : Option Addr} {bs : List Int} {L S : List FI} {O : List OP} {x y z : Value} (h : DW w W q i5 a bs c la sa oa ln sn on lc sc oc L S O) : (((W.setCell ⟨w.heap.size, 0, none⟩ x).setCell ⟨w.heap.size, 1, none⟩ y).setCell ⟨w.heap.size, 2, none⟩ z).cell? ⟨i5, 0, none⟩ = some (.slice la ln lc) ∧ (((W.setCell ⟨w.heap.size, 0, none⟩ x).setCell ⟨w.heap.size, 1, none⟩ y).setCell ⟨w.heap.size, 2, none⟩ z).cell? ⟨i5, 1, none⟩ = some (.slice sa sn sc) ∧ (((W.setCell ⟨w.heap.size, 0, none⟩ x).setCell ⟨w.heap.size, 1, none⟩ y).setCell ⟨w.heap.size, 2, none⟩ z).cell? ⟨i5, 2, none⟩ = some (.slice oa on oc) := by
  have hi := h.i0
  have hne : i5 ≠ w.heap.size := by omega
  exact cells3 ((heap_setCell_other _ _ _ _ hne).trans ((heap_setCell_other _ _ _ _ hne).trans ((heap_setCell_other _ _ _ _ hne).trans h.r5)))

set_option maxHeartbeats 8000000 in
set_option maxRecDepth 20000 in
theorem drawRep_any (a : Option Addr) (c : Nat) (bs : List Int) (w : World) (h : CodeAt w a bs) (hl : bs.length ≤ 1048576) :
    Calls Try.prog 17 #[.slice a bs.length c] w (RepOk w) := by
  have HCA : Hid (CodeAt w a bs) := h
  have hb0 : Below w.heap.size w (w.alloc (.cells #[.slice none 0 0, .slice none 0 0, .slice none 0 0] 27)) := (Below.refl _ _).alloc (Nat.le_refl _) _
  have B0 : Hid (Below w.heap.size w (w.alloc (.cells #[.slice none 0 0, .slice none 0 0, .slice none 0 0] 27))) := hb0
  have R20 : Hid ((w.alloc (.cells #[.slice none 0 0, .slice none 0 0, .slice none 0 0] 27)).heap[w.heap.size]? = some (.cells #[.slice none 0 0, .slice none 0 0, .slice none 0 0] 27 (0, 0))) := heap_alloc_new _ _
  have H0 : Hid (CodeAt (w.alloc (.cells #[.slice none 0 0, .slice none 0 0, .slice none 0 0] 27)) a bs) := fun j hj => by
    obtain ⟨b, off, e, hc, hv⟩ := h j hj
    exact ⟨b, off, e, (hb0.cell (p := ⟨b, off + j, none⟩) (block_lt_of_cell hc)).trans hc, hv⟩
  clear hb0 h
  go_enter Try.func17, Try.ntmps17
  go_wp2_with fail
  generalize (w.alloc (.cells #[.slice none 0 0, .slice none 0 0, .slice none 0 0] 27)) = W0 at *
  refine (l1Open_any a c bs W0 H0.out hl).mono ?_
  rintro e w1 ⟨rfl, hb, hr⟩
  have B1 : Hid (Below w.heap.size w w1) := B0.out.trans (hb.mono B0.out.size)
  have R21 : Hid (w1.heap[w.heap.size]? = some (.cells #[.slice none 0 0, .slice none 0 0, .slice none 0 0] 27 (0, 0))) := below_row hb (row_lt R20.out) R20.out
  have R1 : Hid (RD w1 W0.heap.size a bs c 0) := hr
  have HQ : Hid (w.heap.size < W0.heap.size) := row_lt R20.out
  have HS1 : Hid (w.heap.size + 2 ≤ w1.heap.size) := by have h1 := row_lt hr.1; have h2 := row_lt R20.out; show _ ≤ _; omega
  clear hb hr R20 H0 B0
  generalize W0.heap.size = q at *
  go_wp2_with fail
  refine (disk_any q 0 c a bs w1 R1.out).mono ?_
  rintro e w2 ⟨la, sa, oa, ln, sn, on, lc, sc, oc, p, L, S, O, rfl, hd, hk, hn, hc, hnw, hr, hg⟩
  have hqn : w.heap.size ≠ q := by have := HQ.out; omega
  have B2 : Hid (Below w.heap.size w w2) := grown_below B1.out (by have := HQ.out; omega) hg
  have R22 : Hid (w2.heap[w.heap.size]? = some (.cells #[.slice none 0 0, .slice none 0 0, .slice none 0 0] 27 (0, 0))) := row_gq R21.out (row_lt R21.out) hg hqn
  have HS2 : Hid (w.heap.size + 2 ≤ w2.heap.size) := Nat.le_trans HS1.out hg.size
  have D3 : Hid (DW w (w2.alloc (.cells #[.slice la ln lc, .slice sa sn sc, .slice oa on oc] 27)) q w2.heap.size a bs c la sa oa ln sn on lc sc oc L S O) := by
    have hb : Below w2.heap.size w2 (w2.alloc (.cells #[.slice la ln lc, .slice sa sn sc, .slice oa on oc] 27)) := (Below.refl _ _).alloc (Nat.le_refl _) _
    exact ⟨HCA.out, ⟨p, hr.below hb⟩, B2.out.trans (hb.mono B2.out.size), by have := HQ.out; omega, HS2.out, below_row hb (row_lt R22.out) R22.out, heap_alloc_new _ _, hd.below hb, hk, hn, hc, ⟨fun b off e => Nat.le_trans HS1.out (hnw.1 b off e), fun b off e => Nat.le_trans HS1.out (hnw.2.1 b off e), fun b off e => Nat.le_trans HS1.out (hnw.2.2 b off e)⟩⟩
  clear hd hk hn hc hnw hr hg R1 B1 R21 B2 R22 HS1 hqn
  go_upto_region 3 with fail
  obtain ⟨i5, HI5⟩ : ∃ i, Hid (w2.heap.size = i) := ⟨_, rfl⟩
  rw [HI5.out] at D3 ⊢
  generalize (w2.alloc (.cells #[.slice la ln lc, .slice sa sn sc, .slice oa on oc] 27)) = w3 at *
  clear HI5 HS2
  have TR : Hid (TextsRow (w3.alloc (.cells #[.string ⟨#[98, 97, 115, 101]⟩, .string ⟨#[108, 111, 103]⟩, .string ⟨#[98, 97, 115, 101]⟩, .string ⟨#[]⟩] 9)) w3.heap.size #[.string ⟨#[98, 97, 115, 101]⟩, .string ⟨#[108, 111, 103]⟩, .string ⟨#[98, 97, 115, 101]⟩, .string ⟨#[]⟩] 4) := by
    refine ⟨⟨_, heap_alloc_new _ _⟩, fun j hj => ?_⟩
    match j, hj with
    | 0, _ => exact ⟨_, rfl, by decide⟩
    | 1, _ => exact ⟨_, rfl, by decide⟩
    | 2, _ => exact ⟨_, rfl, by decide⟩
    | 3, _ => exact ⟨_, rfl, by decide⟩
  have D4 : Hid (DW w (w3.alloc (.cells #[.string ⟨#[98, 97, 115, 101]⟩, .string ⟨#[108, 111, 103]⟩, .string ⟨#[98, 97, 115, 101]⟩, .string ⟨#[]⟩] 9)) q i5 a bs c la sa oa ln sn on lc sc oc L S O) := D3.out.below ((Below.refl _ _).alloc (Nat.le_refl _) _)
  have HG : Hid (q < w3.heap.size) := by obtain ⟨p, hp⟩ := D3.out.rd; exact row_lt hp.1
  go_wp2_with fail
  generalize w3.heap.size = g4 at *
  generalize (w3.alloc (.cells #[.string ⟨#[98, 97, 115, 101]⟩, .string ⟨#[108, 111, 103]⟩, .string ⟨#[98, 97, 115, 101]⟩, .string ⟨#[]⟩] 9)) = w4 at *
  obtain ⟨p4, hr4⟩ := D4.out.rd
  refine (below_any q p4 c 4 a bs w4 hr4 (by omega)).mono ?_
  rintro e w5 ⟨v, p5, rfl, hv0, hv1, hr, hg⟩
  have D5 : Hid (DW w w5 q i5 a bs c la sa oa ln sn on lc sc oc L S O) := D4.out.read hr hg
  obtain ⟨j, rfl⟩ := Int.eq_ofNat_of_zero_le hv0
  have hj : j < 4 := by omega
  obtain ⟨s, hc, hs⟩ := (TR.out.grown hg (by have := HG.out; omega)).at (j := j) (by simpa using hj)
  clear hr hg hr4 TR D4 D3 hv0 hv1
  have hj' : (j : Int) < 4 := by omega
  go_wp2_with fail
  clear hc hj hj'
  obtain ⟨p6, hr6⟩ := D5.out.rd
  refine (once_any q p6 c 12 a bs w5 hr6 (by omega) (by omega)).mono ?_
  rintro e w6 ⟨b, p7, rfl, hr, hg⟩
  have D6 : Hid (DW w w6 q i5 a bs c la sa oa ln sn on lc sc oc L S O) := D5.out.read hr hg
  clear hr hg hr6 D5
  cases b with
  | true =>
    obtain ⟨p8, hr8⟩ := D6.out.rd
    go_wp2_with fail
    refine (below_any q p8 c 4 a bs w6 hr8 (by omega)).mono ?_
    rintro e w7 ⟨y, p9, rfl, hy0, hy1, hr, hg⟩
    have D7 : Hid (DW w w7 q i5 a bs c la sa oa ln sn on lc sc oc L S O) := D6.out.read hr hg
    clear hr hg hr8 D6
    obtain ⟨y, rfl⟩ := Int.eq_ofNat_of_zero_le hy0
    obtain ⟨n0, hn0⟩ : ∃ n : Nat, 95 + y = n := ⟨_, rfl⟩
    have hzi : IntKind.i64.wrap ((95 : Int) + (y : Int)) = (n0 : Int) := by rw [IntWalk.i64_in _ (by omega)]; omega
    have hzw : wrap64 ((95 : Int) + (y : Int)) = (n0 : Int) := by unfold wrap64; omega
    have hmk := make_bytes w7 n0 (by omega)
    obtain ⟨sb, HSB⟩ : ∃ t, Hid (strOfNums (List.replicate n0 0) = t) := ⟨_, rfl⟩
    have hsz : Hid (sb.size ≤ 98) := by show _ ≤ _; rw [← HSB.out, strOfNums_size, List.length_replicate]; omega
    have hconv := run_convert_bytes_arg (P := Try.prog) (w7.alloc (.cells (Array.replicate n0 (Value.int .u8 0)) 5)) 22 5 Try.underlying22 Try.underlying5 w7.heap.size 0 n0 n0 (List.replicate n0 0) (by simp) (byte_cells w7 n0) 9 Try.underlying9
    rw [HSB.out] at hconv
    have D8 : Hid (DW w (w7.alloc (.cells (Array.replicate n0 (Value.int .u8 0)) 5)) q i5 a bs c la sa oa ln sn on lc sc oc L S O) := D7.out.below ((Below.refl _ _).alloc (Nat.le_refl _) _)
    clear D7 hn0 hy0 hy1
    go_upto_region 6 with fail
    clear hmk hconv hzi hzw
    generalize (w7.alloc (.cells (Array.replicate n0 (Value.int .u8 0)) 5)) = w8 at *
    have HSS : Hid (∀ W, DW w W q i5 a bs c la sa oa ln sn on lc sc oc L S O → (fun W => W.cell? ⟨i5, 0, none⟩ = some (.slice la ln lc) ∧ W.cell? ⟨i5, 1, none⟩ = some (.slice sa sn sc) ∧ W.cell? ⟨i5, 2, none⟩ = some (.slice oa on oc)) W) := fun W hW => cells3 hW.r5
    have CS : Hid (DW w w8.drew q i5 a bs c la sa oa ln sn on lc sc oc L S O) := D8.out.below (Below.refl _ _).drew
    refine wp_region_held_drew (S := (fun W => W.cell? ⟨i5, 0, none⟩ = some (.slice la ln lc) ∧ W.cell? ⟨i5, 1, none⟩ = some (.slice sa sn sc) ∧ W.cell? ⟨i5, 2, none⟩ = some (.slice oa on oc))) (by kernel_rfl) ?_ (fun hHeld => ?_)
    · exact HSS.out _ CS.out
    generalize w8.drew = WD at *
    refine wpAnyH_take (i := 0) (v := ?_) rfl (by kernel_rfl) (by kernel_rfl) (by kernel_rfl) (fun _ _ _ h => h) (Or.inl ⟨by kernel_rfl, ?_⟩) hHeld ?_
    rotate_left 1; focus (intro w hSw; (try dsimp only at hSw); (try go_split_ands); go_simp; all_goals (first | done | with_reducible rfl))
    change wpAnyH _ _ _ _ _ _ _ (Act.put _ (some 24) _) _; simp only [Act.put, List.setIfInBounds_toArray, List.set_cons_zero, List.set_cons_succ]
    refine wpAnyH_take (i := 1) (v := ?_) rfl (by kernel_rfl) (by kernel_rfl) (by kernel_rfl) (fun _ _ _ h => h) (Or.inl ⟨by kernel_rfl, ?_⟩) hHeld ?_
    rotate_left 1; focus (intro w hSw; (try dsimp only at hSw); (try go_split_ands); go_simp; all_goals (first | done | with_reducible rfl))
    change wpAnyH _ _ _ _ _ _ _ (Act.put _ (some 25) _) _; simp only [Act.put, List.setIfInBounds_toArray, List.set_cons_zero, List.set_cons_succ]
    refine wpAnyH_take (i := 2) (v := ?_) rfl (by kernel_rfl) (by kernel_rfl) (by kernel_rfl) (fun _ _ _ h => h) (Or.inl ⟨by kernel_rfl, ?_⟩) hHeld ?_
    rotate_left 1; focus (intro w hSw; (try dsimp only at hSw); (try go_split_ands); go_simp; all_goals (first | done | with_reducible rfl))
    change wpAnyH _ _ _ _ _ _ _ (Act.put _ (some 26) _) _; simp only [Act.put, List.setIfInBounds_toArray, List.set_cons_zero, List.set_cons_succ]
    refine wpAnyH_ready (rs := [3]) (by kernel_rfl) (by simp) ?_
    refine AllReadyH.cons rfl (fun K hK => ?_) AllReadyH.nil
    (try simp only [Act.put, List.setIfInBounds_toArray])
    go_simp
    obtain ⟨pp, hrp⟩ := CS.out.rd
    refine (text_any q pp c a bs _ hrp).mono ?_
    rintro e V1 ⟨u, pq, rfl, hu, hr, hg⟩
    have C1 : Hid (DW w V1 q i5 a bs c la sa oa ln sn on lc sc oc L S O) := CS.out.read hr hg
    clear hr hg hrp
    (try go_wp2_with fail)
    refine hK.out _ _ ?_ (fun hHeld => ?_)
    · exact HSS.out _ C1.out
    clear hK K
    refine wpAnyH_ready (rs := [4]) (by kernel_rfl) (by simp) ?_
    refine AllReadyH.cons rfl (fun K hK => ?_) AllReadyH.nil
    obtain ⟨r0, r1, r2⟩ := cells3 C1.out.r2
    have rf := fun i => frozen_of_row _ _ i _ _ C1.out.r2
    have FE : Hid (RepOk w (.returned (.tuple #[.agg #[.slice la ln lc, .slice sa sn sc, .slice oa on oc], .string sb, .string u])) (((V1.setCell ⟨w.heap.size, 0, none⟩ (.slice la ln lc)).setCell ⟨w.heap.size, 1, none⟩ (.slice sa sn sc)).setCell ⟨w.heap.size, 2, none⟩ (.slice oa on oc))) := rep_fin C1.out ⟨hsz.out, hu⟩
    have RZ := boxW (u := .slice la ln lc) (v := .slice sa sn sc) (x := .slice oa on oc) C1.out.r2
    obtain ⟨q0, q1, q2⟩ := cells3 RZ
    go_simp
    refine hK.out _ _ ?_ (fun hHeld => ?_)
    · exact C1.out.cells5
    clear hK K
    clear r0 r1 r2 rf RZ
    refine wpAnyH_take (i := 5) (v := ?_) rfl (by kernel_rfl) (by kernel_rfl) (by kernel_rfl) (fun _ _ _ h => h) (Or.inl ⟨by kernel_rfl, ?_⟩) hHeld ?_
    rotate_left 1; focus (intro w hSw; (try dsimp only at hSw); (try go_split_ands); go_simp; all_goals (first | done | with_reducible rfl))
    change wpAnyH _ _ _ _ _ _ _ (Act.put _ (some 3) _) _; simp only [Act.put, List.setIfInBounds_toArray, List.set_cons_zero, List.set_cons_succ]
    refine wpAnyH_take (i := 6) (v := ?_) rfl (by kernel_rfl) (by kernel_rfl) (by kernel_rfl) (fun _ _ _ h => h) (Or.inl ⟨by kernel_rfl, ?_⟩) hHeld ?_
    rotate_left 1; focus (intro w hSw; (try dsimp only at hSw); (try go_split_ands); go_simp; all_goals (first | done | with_reducible rfl))
    change wpAnyH _ _ _ _ _ _ _ (Act.put _ (some 4) _) _; simp only [Act.put, List.setIfInBounds_toArray, List.set_cons_zero, List.set_cons_succ]
    refine wpAnyH_done (by kernel_rfl) ?_ _
    clear hHeld
    go_wp2
    refine bodyPost_ret (v := .tuple #[.agg #[.slice la ln lc, .slice sa sn sc, .slice oa on oc], .string sb, .string u]) (by simp [results, Try.results17, go_sem, q0, q1, q2]) rfl FE.out
  | false =>
    go_upto_region 6 with fail
    have HSS : Hid (∀ W, DW w W q i5 a bs c la sa oa ln sn on lc sc oc L S O → (fun W => W.cell? ⟨i5, 0, none⟩ = some (.slice la ln lc) ∧ W.cell? ⟨i5, 1, none⟩ = some (.slice sa sn sc) ∧ W.cell? ⟨i5, 2, none⟩ = some (.slice oa on oc)) W) := fun W hW => cells3 hW.r5
    have CS : Hid (DW w w6.drew q i5 a bs c la sa oa ln sn on lc sc oc L S O) := D6.out.below (Below.refl _ _).drew
    refine wp_region_held_drew (S := (fun W => W.cell? ⟨i5, 0, none⟩ = some (.slice la ln lc) ∧ W.cell? ⟨i5, 1, none⟩ = some (.slice sa sn sc) ∧ W.cell? ⟨i5, 2, none⟩ = some (.slice oa on oc))) (by kernel_rfl) ?_ (fun hHeld => ?_)
    · exact HSS.out _ CS.out
    generalize w6.drew = WD at *
    refine wpAnyH_take (i := 0) (v := ?_) rfl (by kernel_rfl) (by kernel_rfl) (by kernel_rfl) (fun _ _ _ h => h) (Or.inl ⟨by kernel_rfl, ?_⟩) hHeld ?_
    rotate_left 1; focus (intro w hSw; (try dsimp only at hSw); (try go_split_ands); go_simp; all_goals (first | done | with_reducible rfl))
    change wpAnyH _ _ _ _ _ _ _ (Act.put _ (some 24) _) _; simp only [Act.put, List.setIfInBounds_toArray, List.set_cons_zero, List.set_cons_succ]
    refine wpAnyH_take (i := 1) (v := ?_) rfl (by kernel_rfl) (by kernel_rfl) (by kernel_rfl) (fun _ _ _ h => h) (Or.inl ⟨by kernel_rfl, ?_⟩) hHeld ?_
    rotate_left 1; focus (intro w hSw; (try dsimp only at hSw); (try go_split_ands); go_simp; all_goals (first | done | with_reducible rfl))
    change wpAnyH _ _ _ _ _ _ _ (Act.put _ (some 25) _) _; simp only [Act.put, List.setIfInBounds_toArray, List.set_cons_zero, List.set_cons_succ]
    refine wpAnyH_take (i := 2) (v := ?_) rfl (by kernel_rfl) (by kernel_rfl) (by kernel_rfl) (fun _ _ _ h => h) (Or.inl ⟨by kernel_rfl, ?_⟩) hHeld ?_
    rotate_left 1; focus (intro w hSw; (try dsimp only at hSw); (try go_split_ands); go_simp; all_goals (first | done | with_reducible rfl))
    change wpAnyH _ _ _ _ _ _ _ (Act.put _ (some 26) _) _; simp only [Act.put, List.setIfInBounds_toArray, List.set_cons_zero, List.set_cons_succ]
    refine wpAnyH_ready (rs := [3]) (by kernel_rfl) (by simp) ?_
    refine AllReadyH.cons rfl (fun K hK => ?_) AllReadyH.nil
    (try simp only [Act.put, List.setIfInBounds_toArray])
    go_simp
    obtain ⟨pp, hrp⟩ := CS.out.rd
    refine (text_any q pp c a bs _ hrp).mono ?_
    rintro e V1 ⟨u, pq, rfl, hu, hr, hg⟩
    have C1 : Hid (DW w V1 q i5 a bs c la sa oa ln sn on lc sc oc L S O) := CS.out.read hr hg
    clear hr hg hrp
    (try go_wp2_with fail)
    refine hK.out _ _ ?_ (fun hHeld => ?_)
    · exact HSS.out _ C1.out
    clear hK K
    refine wpAnyH_ready (rs := [4]) (by kernel_rfl) (by simp) ?_
    refine AllReadyH.cons rfl (fun K hK => ?_) AllReadyH.nil
    obtain ⟨r0, r1, r2⟩ := cells3 C1.out.r2
    have rf := fun i => frozen_of_row _ _ i _ _ C1.out.r2
    have FE : Hid (RepOk w (.returned (.tuple #[.agg #[.slice la ln lc, .slice sa sn sc, .slice oa on oc], .string s, .string u])) (((V1.setCell ⟨w.heap.size, 0, none⟩ (.slice la ln lc)).setCell ⟨w.heap.size, 1, none⟩ (.slice sa sn sc)).setCell ⟨w.heap.size, 2, none⟩ (.slice oa on oc))) := rep_fin C1.out ⟨(by omega), hu⟩
    have RZ := boxW (u := .slice la ln lc) (v := .slice sa sn sc) (x := .slice oa on oc) C1.out.r2
    obtain ⟨q0, q1, q2⟩ := cells3 RZ
    go_simp
    refine hK.out _ _ ?_ (fun hHeld => ?_)
    · exact C1.out.cells5
    clear hK K
    clear r0 r1 r2 rf RZ
    refine wpAnyH_take (i := 5) (v := ?_) rfl (by kernel_rfl) (by kernel_rfl) (by kernel_rfl) (fun _ _ _ h => h) (Or.inl ⟨by kernel_rfl, ?_⟩) hHeld ?_
    rotate_left 1; focus (intro w hSw; (try dsimp only at hSw); (try go_split_ands); go_simp; all_goals (first | done | with_reducible rfl))
    change wpAnyH _ _ _ _ _ _ _ (Act.put _ (some 3) _) _; simp only [Act.put, List.setIfInBounds_toArray, List.set_cons_zero, List.set_cons_succ]
    refine wpAnyH_take (i := 6) (v := ?_) rfl (by kernel_rfl) (by kernel_rfl) (by kernel_rfl) (fun _ _ _ h => h) (Or.inl ⟨by kernel_rfl, ?_⟩) hHeld ?_
    rotate_left 1; focus (intro w hSw; (try dsimp only at hSw); (try go_split_ands); go_simp; all_goals (first | done | with_reducible rfl))
    change wpAnyH _ _ _ _ _ _ _ (Act.put _ (some 4) _) _; simp only [Act.put, List.setIfInBounds_toArray, List.set_cons_zero, List.set_cons_succ]
    refine wpAnyH_done (by kernel_rfl) ?_ _
    clear hHeld
    go_wp2
    refine bodyPost_ret (v := .tuple #[.agg #[.slice la ln lc, .slice sa sn sc, .slice oa on oc], .string s, .string u]) (by simp [results, Try.results17, go_sem, q0, q1, q2]) rfl FE.out

end Go.Proofs.Ytpahhhocgpohbaa
