import Derived.Test.YtpahhhocgpohbaaPack1
import Derived.Test.YtpahhhocgpohbaaDrawDisk
namespace Go.Proofs.Ytpahhhocgpohbaa
open Go.RowKit

theorem cell_ne_q {W : World} {q b m c p : Nat} {a : Option Addr} {bs : List Int} {s : ByteArray} (h : RD W q a bs c p) (hc : W.cell? ⟨b, m, none⟩ = some (.string s)) : b ≠ q := fun e => by
  subst e
  rw [cell_of_row _ _ m _ _ _ h.1] at hc
  match m, hc with
  | 0, hc => cases hc
  | 1, hc => cases hc
  | k + 2, hc => simp at hc
theorem cell_gq {W W' : World} {q b m : Nat} {v : Value} (hg : W.grownBy W' (some q)) (hne : b ≠ q) (hc : W.cell? ⟨b, m, none⟩ = some v) : W'.cell? ⟨b, m, none⟩ = some v := by
  rw [World.cell?_of_block (hg.block b (block_lt_of_cell hc) (fun e => hne (by simpa using e)))]
  exact hc
theorem FilesAt.read {W W' : World} {q c p : Nat} {a la : Option Addr} {bs : List Int} {L : List FI} (h : FilesAt W la L) (hr : RD W q a bs c p) (hg : W.grownBy W' (some q)) : FilesAt W' la L := fun j hj => by
  obtain ⟨b, off, e, c0, c1⟩ := h j hj
  have hne := cell_ne_q hr c0
  exact ⟨b, off, e, cell_gq hg hne c0, cell_gq hg hne c1⟩
theorem OpsAt.read {W W' : World} {q c p : Nat} {a la : Option Addr} {bs : List Int} {L : List OP} (h : OpsAt W la L) (hr : RD W q a bs c p) (hg : W.grownBy W' (some q)) : OpsAt W' la L := fun j hj => by
  obtain ⟨b, off, e, c0, c1, c2, c3⟩ := h j hj
  have hne := cell_ne_q hr c1
  exact ⟨b, off, e, cell_gq hg hne c0, cell_gq hg hne c1, cell_gq hg hne c2, cell_gq hg hne c3⟩
theorem DAt.read {W W' : World} {q c p : Nat} {a la sa oa : Option Addr} {bs : List Int} {L S : List FI} {O : List OP} (h : DAt W la sa oa L S O) (hr : RD W q a bs c p) (hg : W.grownBy W' (some q)) : DAt W' la sa oa L S O := ⟨h.l.read hr hg, h.s.read hr hg, h.o.read hr hg⟩
/-- Cells of texts lie in no box of a disk or an op that is written in one place: a row of another block. -/
theorem row_ne_q {W : World} {q k c p : Nat} {a : Option Addr} {bs : List Int} {cs : Array Value} {T : TypeId} {r : Nat × Nat} (h : RD W q a bs c p) (hr : W.heap[k]? = some (.cells cs T r)) (hT : T ≠ 65) : k ≠ q := fun e => by
  subst e
  have := h.1
  rw [hr] at this
  injection this with this
  injection this with _ t _
  exact hT t
/-- Where a disk's files and ops do not lie. -/
def Off (k : Nat) (x : Option Addr) (n : Nat) : Prop := 0 < n → ∀ b off, x = some ⟨b, off, none⟩ → b ≠ k
theorem FilesAt.off {W : World} {k i : Nat} {v : Value} {x : Option Addr} {L : List FI} (h : FilesAt W x L) (ho : Off k x L.length) : FilesAt (W.setCell ⟨k, i, none⟩ v) x L := fun j hj => by
  obtain ⟨b, off, e, c0, c1⟩ := h j hj
  have hne := ho (by omega) b off e
  exact ⟨b, off, e, keep_setT c0 hne, keep_setT c1 hne⟩
theorem OpsAt.off {W : World} {k i : Nat} {v : Value} {x : Option Addr} {L : List OP} (h : OpsAt W x L) (ho : Off k x L.length) : OpsAt (W.setCell ⟨k, i, none⟩ v) x L := fun j hj => by
  obtain ⟨b, off, e, c0, c1, c2, c3⟩ := h j hj
  have hne := ho (by omega) b off e
  exact ⟨b, off, e, keep_setT c0 hne, keep_setT c1 hne, keep_setT c2 hne, keep_setT c3 hne⟩
def Off3 (k : Nat) (la sa oa : Option Addr) (L S : List FI) (O : List OP) : Prop := Off k la L.length ∧ Off k sa S.length ∧ Off k oa O.length
theorem DAt.off {W : World} {k i : Nat} {v : Value} {la sa oa : Option Addr} {L S : List FI} {O : List OP} (h : DAt W la sa oa L S O) (ho : Off3 k la sa oa L S O) : DAt (W.setCell ⟨k, i, none⟩ v) la sa oa L S O := ⟨h.l.off ho.1, h.s.off ho.2.1, h.o.off ho.2.2⟩
theorem off_new {k m n : Nat} {x : Option Addr} (h : NewA m x) (hk : k < m) : Off k x n := fun _ b off e => by have := h b off e; omega
def New3 (m : Nat) (la sa oa : Option Addr) : Prop := NewA m la ∧ NewA m sa ∧ NewA m oa
theorem off3_new {k m : Nat} {la sa oa : Option Addr} {L S : List FI} {O : List OP} (h : New3 m la sa oa) (hk : k < m) : Off3 k la sa oa L S O := ⟨off_new h.1 hk, off_new h.2.1 hk, off_new h.2.2 hk⟩
/-- A block that is made later. -/
theorem DAt.offAt {W : World} {la sa oa : Option Addr} {L S : List FI} {O : List OP} (h : DAt W la sa oa L S O) {k : Nat} (hk : W.heap.size ≤ k) : Off3 k la sa oa L S O := by
  refine ⟨fun hn b off e => ?_, fun hn b off e => ?_, fun hn b off e => ?_⟩
  · obtain ⟨b', off', e', c0, _⟩ := h.l 0 hn
    rw [e] at e'; injection e' with e'; injection e' with e1 _ _
    have := block_lt_of_cell c0
    simp only at this
    omega
  · obtain ⟨b', off', e', c0, _⟩ := h.s 0 hn
    rw [e] at e'; injection e' with e'; injection e' with e1 _ _
    have := block_lt_of_cell c0
    simp only at this
    omega
  · obtain ⟨b', off', e', c0, _⟩ := h.o 0 hn
    rw [e] at e'; injection e' with e'; injection e' with e1 _ _
    have := block_lt_of_cell c0
    simp only at this
    omega
/-- Inside a draw that keeps a disk in a box: the reader, the disk's box, the disk. -/
structure DW (w W : World) (q i5 : Nat) (a : Option Addr) (bs : List Int) (c : Nat) (la sa oa : Option Addr) (ln sn on lc sc oc : Nat) (L S : List FI) (O : List OP) : Prop where
  ca : CodeAt w a bs
  rd : ∃ p, RD W q a bs c p
  b : Below w.heap.size w W
  q0 : w.heap.size ≤ q
  i0 : w.heap.size + 2 ≤ i5
  r2 : W.heap[w.heap.size]? = some (.cells #[.slice none 0 0, .slice none 0 0, .slice none 0 0] 27 (0, 0))
  r5 : W.heap[i5]? = some (.cells #[.slice la ln lc, .slice sa sn sc, .slice oa on oc] 27 (0, 0))
  da : DAt W la sa oa L S O
  ok : DskOk L S O
  ln : L.length = ln ∧ S.length = sn ∧ O.length = on
  cp : on ≤ oc ∧ (oa = none → on = 0 ∧ oc = 0)
  nw : New3 (w.heap.size + 2) la sa oa
section
variable {w W W' : World} {q i5 c ln sn on lc sc oc : Nat} {a la sa oa : Option Addr} {bs : List Int} {L S : List FI} {O : List OP}
theorem DW.below (h : DW w W q i5 a bs c la sa oa ln sn on lc sc oc L S O) (hb : Below W.heap.size W W') : DW w W' q i5 a bs c la sa oa ln sn on lc sc oc L S O := by
  obtain ⟨p, hr⟩ := h.rd
  exact ⟨h.ca, ⟨p, hr.below hb⟩, h.b.trans (hb.mono h.b.size), h.q0, h.i0, below_row hb (row_lt h.r2) h.r2, below_row hb (row_lt h.r5) h.r5, h.da.below hb, h.ok, h.ln, h.cp, h.nw⟩
theorem DW.read {p : Nat} (h : DW w W q i5 a bs c la sa oa ln sn on lc sc oc L S O) (hr' : RD W' q a bs c p) (hg : W.grownBy W' (some q)) : DW w W' q i5 a bs c la sa oa ln sn on lc sc oc L S O := by
  obtain ⟨p0, hr⟩ := h.rd
  exact ⟨h.ca, ⟨p, hr'⟩, grown_below h.b h.q0 hg, h.q0, h.i0, row_gq h.r2 (row_lt h.r2) hg (row_ne_q hr h.r2 (by decide)), row_gq h.r5 (row_lt h.r5) hg (row_ne_q hr h.r5 (by decide)), h.da.read hr hg, h.ok, h.ln, h.cp, h.nw⟩
/-- The reader stays where another block is written. -/
theorem RD.set {p k i : Nat} {v : Value} (h : RD W q a bs c p) (hk : k ≠ q) (hc : CodeAt w a bs) (hw : w.heap.size ≤ k) : RD (W.setCell ⟨k, i, none⟩ v) q a bs c p := by
  refine ⟨(heap_setCell_other _ _ _ _ (Ne.symm hk)).trans h.1, h.2.1, fun j hj => ?_, h.2.2.2⟩
  obtain ⟨b, off, e, hne, hcell, hv⟩ := h.2.2.1 j hj
  obtain ⟨b', off', e', c0, _⟩ := hc j hj
  have hlt := block_lt_of_cell c0
  rw [e] at e'; injection e' with e'; injection e' with e1 _ _
  simp only at hlt
  exact ⟨b, off, e, hne, keep_setT hcell (by omega), hv⟩
/-- A box elsewhere is written in one place. -/
theorem DW.off {k i : Nat} {v : Value} {cs : Array Value} (h : DW w W q i5 a bs c la sa oa ln sn on lc sc oc L S O) (hr : W.heap[k]? = some (.cells cs 36 (0, 0))) (hk : w.heap.size ≤ k) (ho : Off3 k la sa oa L S O) : DW w (W.setCell ⟨k, i, none⟩ v) q i5 a bs c la sa oa ln sn on lc sc oc L S O := by
  obtain ⟨p, hrd⟩ := h.rd
  have ne : ∀ {m : Nat} {ds : Array Value}, W.heap[m]? = some (.cells ds 27 (0, 0)) → m ≠ k := fun hm e => by
    subst e
    rw [hr] at hm
    injection hm with hm
    injection hm with _ t _
    exact absurd t (by decide)
  exact ⟨h.ca, ⟨p, hrd.set (row_ne_q hrd hr (by decide)) h.ca hk⟩, h.b.setCell hk _, h.q0, h.i0, (heap_setCell_other _ _ _ _ (ne h.r2)).trans h.r2, (heap_setCell_other _ _ _ _ (ne h.r5)).trans h.r5, h.da.off ho, h.ok, h.ln, h.cp, h.nw⟩
/-- Another disk of the call's own is put into the box. -/
theorem DW.store {x1 x2 x3 c1 c2 c3 base : Nat} {a1 a2 a3 : Option Addr} {L2 S2 : List FI} {O2 : List OP} (h : DW w W q i5 a bs c la sa oa ln sn on lc sc oc L S O) (hd : DA W base (.slice a1 x1 c1) (.slice a2 x2 c2) (.slice a3 x3 c3) L2 S2 O2) (hb : w.heap.size + 2 ≤ base) (hk : DskOk L2 S2 O2) (hn : L2.length = x1 ∧ S2.length = x2 ∧ O2.length = x3) : DW w (((W.setCell ⟨i5, 0, none⟩ (.slice a1 x1 c1)).setCell ⟨i5, 1, none⟩ (.slice a2 x2 c2)).setCell ⟨i5, 2, none⟩ (.slice a3 x3 c3)) q i5 a bs c a1 a2 a3 x1 x2 x3 c1 c2 c3 L2 S2 O2 := by
  obtain ⟨p, hrd⟩ := h.rd
  have hi := h.i0
  have hq := row_ne_q hrd h.r5 (by decide)
  have hne : w.heap.size ≠ i5 := by omega
  exact ⟨h.ca, ⟨p, ((hrd.set hq h.ca (by omega)).set hq h.ca (by omega)).set hq h.ca (by omega)⟩, ((h.b.setCell (by show _ ≤ i5; omega) _).setCell (by show _ ≤ i5; omega) _).setCell (by show _ ≤ i5; omega) _, h.q0, h.i0, (heap_setCell_other _ _ _ _ hne).trans ((heap_setCell_other _ _ _ _ hne).trans ((heap_setCell_other _ _ _ _ hne).trans h.r2)), boxW h.r5, (hd.at hn.1 hn.2.1 hn.2.2).box3 h.r5, hk, hn, own_capF hd.d.o, ⟨fun b off e => Nat.le_trans hb (own_new hd.d.l b off e), fun b off e => Nat.le_trans hb (own_new hd.d.s b off e), fun b off e => Nat.le_trans hb (own_new hd.d.o b off e)⟩⟩
end
theorem dok_act {L S : List FI} {O : List OP} {o : OP} (h : DskOk L S O) (hd : dskB L S O = true) (hk : actK L O o = 0) (h1 : o.n.size ≤ 1048576) (h2 : o.t.size ≤ 1048576) (h3 : o.d.size ≤ 1048576) : DskOk (actL L O o) S (actO L O o) := by
  have hf := act_fil hk
  obtain ⟨a1, _, a3⟩ := filB_true.1 hf
  rw [totTo_all] at a3
  have hl := actO_len hk
  have ho : actO L O o = O ++ [o] := by unfold actO; rw [if_pos hk]
  have h200 := (dsk_parts hd).2.2
  refine ⟨by omega, h.sn, by omega, by omega, h.st, shrt_fil hf, h.ss, fun j hj => ?_⟩
  rw [ho] at hj ⊢
  by_cases e : j < O.length
  · rw [show (O ++ [o]).getD j op0 = O.getD j op0 by rw [List.getD_eq_getElem?_getD, List.getD_eq_getElem?_getD, List.getElem?_append_left e]]
    exact h.os j e
  · have : j = O.length := by simp at hj; omega
    subst this
    rw [show (O ++ [o]).getD O.length op0 = o by simp [List.getD_eq_getElem?_getD]]
    exact ⟨h1, h2, h3⟩

end Go.Proofs.Ytpahhhocgpohbaa
