import Derived.Test.YtpahhhocgpohbaaPack5
import Derived.Test.YtpahhhocgpohbaaPack6
import Derived.Test.YtpahhhocgpohbaaDeleteG
namespace Go.Proofs.Ytpahhhocgpohbaa
open Go.RowKit

/-- What taking a file leaves and gives. -/
structure Taken (w w' : World) (base s : Nat) (fv fv' : Value) (S : List GR) (nm : ByteArray) (f : GR) : Prop where
  n : f.n = nm
  b : Below base w w'
  sh : SH w' base s fv' (cutG S nm)
  dat : jn f.ps = datF (keysG S) nm
  p : OwnP w' base f
  ap : ∀ g ∈ cutG S nm, Apt f g
  sz : f.sz = (jn f.ps).size
  ks : ∀ b2 v n xs, w.ownsRow b2 9 1 v n xs → w'.ownsRow b2 9 1 v n xs
  len : ∀ N, (∀ g ∈ S, g.ps.length ≤ N) → f.ps.length ≤ N
  ot : ∀ k, k < w.heap.size → some k ≠ fv.ownBlock → k ≠ s → w'.heap[k]? = w.heap[k]?
theorem pair_apart {S : List GR} (h : S.Pairwise Apt) {k : Nat} (hk : k < S.length) : ∀ g ∈ S.take k ++ S.drop (k + 1), Apt (S.getD k gr0) g := by
  have e := parts3 hk
  rw [e, List.pairwise_append, List.pairwise_cons] at h
  intro g hg
  rcases List.mem_append.1 hg with hg | hg
  · exact (h.2.2 g hg _ (by simp)).symm
  · exact h.2.1.1 g hg

theorem own_low {W W' : World} {b size n N : Nat} {e : TypeId} {v : Value} {xs : List Value} (h : W.ownsRow b e size v n xs) (hlt : ∀ k, v.ownBlock = some k → k < N) (hb : Below N W W') : W'.ownsRow b e size v n xs := by
  obtain ⟨h1, h2 | ⟨g, cap, cur, h2, h3, h4, h5⟩⟩ := h
  · exact ⟨h1, .inl h2⟩
  · refine ⟨h1, .inr ⟨g, cap, cur, h2, h3, (hb.block g (hlt g ?_)).trans h4, h5⟩⟩
    rw [h2]
    rfl
theorem SH.low {W W' : World} {base s N : Nat} {fv : Value} {S : List GR} (h : SH W base s fv S) (hs : s < N) (hf : ∀ k, fv.ownBlock = some k → k < N) (hp : ∀ g ∈ S, ∀ k, g.v.ownBlock = some k → k < N) (hb : Below N W W') : SH W' base s fv S :=
  ⟨(hb.block s hs).trans h.row, h.bs, own_low h.r hf hb, fun g hg => own_low (h.p g hg) (hp g hg) hb, h.ap, h.sz⟩

set_option maxHeartbeats 4000000 in
set_option maxRecDepth 20000 in
theorem take_any (s base : Nat) (fv : Value) (S : List GR) (nm : ByteArray) (w : World) (h : SH w base s fv S) (hbw : base ≤ w.heap.size) (hn : S.length ≤ 1000) (hS : RisG S) :
    Calls Try.prog 92 #[.pointer (some ⟨s, 0, none⟩), .string nm] w fun e w' => ∃ f fv', e = .returned (.agg #[.string nm, .slice f.a f.ps.length f.c, .int .i64 f.sz]) ∧ Taken w w' base s fv fv' S nm f := by
  have H0 : Hid (SH w base s fv S) := h
  have HS : Hid (RisG S) := hS
  have hs := h.lt
  have B0 : Hid (Below w.heap.size w (w.alloc (.cells #[.string ⟨#[]⟩, .slice none 0 0, .int .i64 0] 90))) := (Below.refl _ _).alloc (Nat.le_refl _) _
  have R0 : Hid ((w.alloc (.cells #[.string ⟨#[]⟩, .slice none 0 0, .int .i64 0] 90)).heap[w.heap.size]? = some (.cells #[.string ⟨#[]⟩, .slice none 0 0, .int .i64 0] 90 (0, 0))) := heap_alloc_new _ _
  clear h hS
  go_enter Try.func92, Try.ntmps92
  go_wp2_with fail
  refine (place_any s base fv S nm _ (H0.out.below B0.out) (by omega) HS.out).mono ?_
  rintro e w1 ⟨k, rfl, hk, hb1⟩
  have B1 : Hid (Below w.heap.size w w1) := B0.out.trans (hb1.mono B0.out.size)
  have H1 : Hid (SH w1 base s fv S) := (H0.out.below B0.out).below hb1
  have R1 : Hid (w1.heap[w.heap.size]? = some (.cells #[.string ⟨#[]⟩, .slice none 0 0, .int .i64 0] 90 (0, 0))) := below_row hb1 (row_lt R0.out) R0.out
  have HK : Hid (AtG S nm k) := hk
  clear hb1 hk B0 R0
  cases hf : fndG S nm k
  · have HC : Hid (cutG S nm = S) := cut_lost HK.out HS.out hf
    have HD : Hid (datF (keysG S) nm = ⟨#[]⟩) := (dat_lost HC.out).1
    obtain ⟨q0, q1, q2⟩ := cells3 R1.out
    have qf := fun i => frozen_of_row _ _ i _ _ R1.out
    have HT : Hid (∀ w', Below w.heap.size w w' → Taken w w' base s fv fv S nm ⟨nm, none, [], 0, 0⟩) := fun w' hb => ⟨rfl, hb.mono hbw, by rw [HC.out]; exact H0.out.below hb, by rw [HD.out]; rfl, ⟨rfl, .inl ⟨rfl, rfl⟩⟩, fun g _ k hk => (by cases hk), rfl, fun b2 v n xs ho => own_blw ho hb, fun N _ => Nat.zero_le _, fun k hk _ _ => hb.block k hk⟩
    clear HC HD
    go_wp2
    refine bodyPost_ret (v := .agg #[.string nm, .slice none 0 0, .int .i64 0]) (by simp [results, Try.results92, go_sem, q0, q1, q2]) rfl ⟨_, fv, rfl, HT.out _ ?_⟩
    repeat (first | with_reducible exact B1.out | refine Below.setCell ?_ (by simp <;> omega) _)
  · obtain ⟨hkl, hkn⟩ := of_decide_eq_true hf
    have HCF : Hid (S.take k ++ S.drop (k + 1) = cutG S nm) := cut_found HS.out hkl hkn
    have HDF : Hid (datF (keysG S) nm = jn (S.getD k gr0).ps) := (dat_found HS.out hkl hkn).1
    have HAP : Hid (∀ g ∈ cutG S nm, Apt (S.getD k gr0) g) := by rw [← HCF.out]; exact pair_apart H0.out.ap hkl
    have HME : Hid (S.getD k gr0 ∈ S) := getD_mem hkl
    rcases own_kinds H0.out.r with ⟨-, h0⟩ | ⟨g, c, rfl, hg1, hg2⟩
    · omega
    obtain ⟨n, HN⟩ : ∃ n, Hid (S.length = n) := ⟨_, rfl⟩
    have O1 : Hid (w1.ownsRow base 90 3 (.slice (some ⟨g, 0, none⟩) n c) n (rowG S)) := by have := H1.out.r; rw [HN.out] at this; exact this
    obtain ⟨z0, z1, z2⟩ := rowG_at S k hkl
    obtain ⟨y0, -⟩ := own_cellV O1.out z0
    obtain ⟨y1, -⟩ := own_cellV O1.out z1
    obtain ⟨y2, -⟩ := own_cellV O1.out z2
    obtain ⟨f, HFE⟩ : ∃ f, Hid (S.getD k gr0 = f) := ⟨_, rfl⟩
    rw [HFE.out] at HDF HAP HME y0 y1 y2 hkn
    clear z0 z1 z2
    rw [hkn] at y0
    have SROW : Hid (w1.heap[s]? = some (.cells #[.slice (some ⟨g, 0, none⟩) n c] 88 (0, 0))) := by have := H1.out.row; rw [HN.out] at this; exact this
    obtain ⟨x0, -⟩ := cell1 SROW.out
    have hkn2 : k < n := by rw [← HN.out]; exact hkl
    have hkI : (k : Int) < n := by omega
    have hnn : n ≤ 1000 := by rw [← HN.out]; exact hn
    obtain ⟨fl, HFL⟩ : ∃ l, Hid (f.ps.length = l) := ⟨_, rfl⟩
    rw [HFL.out] at y1
    have hsg : s ≠ g := fun e => by
      have := own_otherT O1.out SROW.out (by decide)
      exact this (by rw [e]; rfl)
    obtain ⟨W2, HW2⟩ : ∃ W, Hid (w1.alloc (.cells #[.string nm, .slice f.a fl f.c, .int .i64 f.sz] 90) = W) := ⟨_, rfl⟩
    have B2 : Hid (Below w1.heap.size w1 W2) := by rw [← HW2.out]; exact (Below.refl _ _).alloc (Nat.le_refl _) _
    have Q2 : Hid (W2.heap[w1.heap.size]? = some (.cells #[.string nm, .slice f.a fl f.c, .int .i64 f.sz] 90 (0, 0))) := by rw [← HW2.out]; exact heap_alloc_new _ _
    have DG : Hid (Calls Try.prog 95 #[.slice (some ⟨g, 0, none⟩) n c, .int .i64 k, .int .i64 ((k : Int) + 1)] W2 fun e w' => e = .returned (.slice (some ⟨g, 0, none⟩) (n - 1) c) ∧ W2.grownBy w' (some g) ∧ w'.ownsRow base 90 3 (.slice (some ⟨g, 0, none⟩) (n - 1) c) (n - 1) (rowG (cutG S nm))) := by
      have := deleteG g c k base n (rowG S) W2 (by rw [rowG_len, HN.out]) (rowG_one S) (own_blw O1.out B2.out) hkn2 hnn
      rw [rowG_take, rowG_drop, ← rowG_app, HCF.out] at this
      exact this
    have hw1s := B1.out.size
    have x02 : (w1.alloc (.cells #[.string nm, .slice f.a fl f.c, .int .i64 f.sz] 90)).cell? ⟨s, 0, none⟩ = some (.slice (some ⟨g, 0, none⟩) n c) := by rw [HW2.out]; exact (cell1 (below_row B2.out (row_lt SROW.out) SROW.out)).1
    go_wp2_with fail
    rw [HW2.out]
    refine DG.out.mono ?_
    rintro e w3 ⟨rfl, hg3, ho3⟩
    have hW2s : w1.heap.size < W2.heap.size := row_lt Q2.out
    have O3 : Hid (w3.ownsRow base 90 3 (.slice (some ⟨g, 0, none⟩) (n - 1) c) (n - 1) (rowG (cutG S nm))) := ho3
    have S3 : Hid (w3.heap[s]? = some (.cells #[.slice (some ⟨g, 0, none⟩) n c] 88 (0, 0))) := by
      have := below_row B2.out (row_lt SROW.out) SROW.out
      exact (hg3.block s (row_lt this) (fun e => hsg (Option.some.inj e))).trans this
    have Q3 : Hid (w3.heap[w1.heap.size]? = some (.cells #[.string nm, .slice f.a fl f.c, .int .i64 f.sz] 90 (0, 0))) := (hg3.block _ (row_lt Q2.out) (fun e => by have := Option.some.inj e; omega)).trans Q2.out
    have P3 : Hid (w3.heap[w.heap.size]? = some (.cells #[.string ⟨#[]⟩, .slice none 0 0, .int .i64 0] 90 (0, 0))) := by
      have := below_row B2.out (row_lt R1.out) R1.out
      exact (hg3.block _ (row_lt this) (fun e => by have := Option.some.inj e; omega)).trans this
    have hne : w.heap.size < w1.heap.size := row_lt R1.out
    obtain ⟨t0, tf⟩ := cell1 S3.out
    obtain ⟨q0, q1, q2⟩ := cells3 Q3.out
    obtain ⟨p0, p1, p2⟩ := cells3 P3.out
    have pf := fun i => frozen_of_row _ _ i _ _ P3.out
    have HLEN : Hid ((cutG S nm).length = n - 1) := by
      show _ = _
      rw [← HCF.out, List.length_append, List.length_take, List.length_drop, HN.out]
      omega
    have R4 : Hid ((w3.setCell ⟨s, 0, none⟩ (.slice (some ⟨g, 0, none⟩) (n - 1) c)).heap[w.heap.size]? = some (.cells #[.string ⟨#[]⟩, .slice none 0 0, .int .i64 0] 90 (0, 0))) := (heap_setCell_other w3 ⟨s, 0, none⟩ w.heap.size _ (fun e => by have e : w.heap.size = s := e; omega)).trans P3.out
    have B3 : Hid (Below base w w3) := (B1.out.mono hbw).trans (((B2.out.mono (Nat.le_trans hbw hw1s)).grown hg3 (by omega) (fun k e => by have := Option.some.inj e; omega)))
    have OP3 : Hid (∀ b2 v n xs, w.ownsRow b2 9 1 v n xs → w3.ownsRow b2 9 1 v n xs) := fun b2 v n' xs ho => by
      have h1 := own_blw (own_blw ho B1.out) B2.out
      exact own_grownT h1 hg3 (fun k hk e => own_apartT h1 (own_blw O1.out B2.out) (by decide) k hk (by rw [← Option.some.inj e]; rfl))
    have HT : Hid (∀ w', Below w.heap.size (w3.setCell ⟨s, 0, none⟩ (.slice (some ⟨g, 0, none⟩) (n - 1) c)) w' → Taken w w' base s (.slice (some ⟨g, 0, none⟩) S.length c) (.slice (some ⟨g, 0, none⟩) (n - 1) c) S nm f) := fun w' hb => by
      have hmem : ∀ x ∈ cutG S nm, x ∈ S := fun x hx => (List.mem_filter.1 hx).1
      have hlt : ∀ b2 v n xs, w.ownsRow b2 9 1 v n xs → ∀ k, v.ownBlock = some k → k < w.heap.size := fun b2 v n xs ho k hk => (ho.lt k hk).2
      have OPF : ∀ b2 v n xs, w.ownsRow b2 9 1 v n xs → w'.ownsRow b2 9 1 v n xs := fun b2 v n xs ho => own_low (own_setT (OP3.out b2 v n xs ho) S3.out (by decide)) (hlt b2 v n xs ho) hb
      have SH4 : SH (w3.setCell ⟨s, 0, none⟩ (.slice (some ⟨g, 0, none⟩) (n - 1) c)) base s (.slice (some ⟨g, 0, none⟩) (n - 1) c) (cutG S nm) := SH.make S3.out H0.out.bs (by rw [HLEN.out]; exact O3.out) (fun x hx => OP3.out _ _ _ _ (H0.out.p x (hmem x hx))) (List.Pairwise.filter _ H0.out.ap) (fun x hx => H0.out.sz x (hmem x hx))
      refine ⟨hkn, (B3.out.setCell H0.out.bs _).trans (hb.mono hbw), SH4.low hs (fun k hk => (show g = k by simpa [Value.ownBlock] using hk) ▸ hg2) (fun x hx k hk => hlt _ _ _ _ (H0.out.p x (hmem x hx)) k hk) hb, HDF.out.symm, OPF _ _ _ _ (H0.out.p f HME.out), HAP.out, H0.out.sz f HME.out, OPF, fun N hN => hN f HME.out, fun k hk h1 h2 => ?_⟩
      rw [hb.block k hk, heap_setCell_other w3 ⟨s, 0, none⟩ k _ h2, hg3.block k (by omega) h1, B2.out.block k (by omega), B1.out.block k hk]
    clear hg3 ho3 O3 DG OP3 B3
    go_wp2
    generalize w3.setCell ⟨s, 0, none⟩ (.slice (some ⟨g, 0, none⟩) (n - 1) c) = W4 at *
    obtain ⟨v0, v1, v2⟩ := cells3 R4.out
    refine bodyPost_ret (v := .agg #[.string nm, .slice f.a fl f.c, .int .i64 f.sz]) (by simp [results, Try.results92, go_sem, v0, v1, v2]) rfl ⟨f, _, by rw [HFL.out], HT.out _ ?_⟩
    repeat (first | with_reducible exact Below.refl _ _ | refine Below.setCell ?_ (by simp <;> omega) _)

end Go.Proofs.Ytpahhhocgpohbaa

namespace Go.Proofs.Ytpahhhocgpohbaa
open Go.RowKit

theorem pair_put {C : List GR} {f : GR} {k : Nat} (h : C.Pairwise Apt) (ha : ∀ g ∈ C, Apt f g) : (C.take k ++ f :: C.drop k).Pairwise Apt := by
  have h2 := h
  rw [← List.take_append_drop k C, List.pairwise_append] at h2
  rw [List.pairwise_append, List.pairwise_cons]
  refine ⟨h2.1, ⟨fun g hg => ha g (List.mem_of_mem_drop hg), h2.2.1⟩, fun x hx y hy => ?_⟩
  rcases List.mem_cons.1 hy with rfl | hy
  · exact (ha x (List.mem_of_mem_take hx)).symm
  · exact h2.2.2 x hx y hy
theorem insV_rowG (C : List GR) (f : GR) (k : Nat) : insV (rowG C) (k * 3) (grCells f) = rowG (C.take k ++ f :: C.drop k) := by
  unfold insV
  rw [rowG_take, rowG_drop, rowG_app, rowG_cons]

set_option maxHeartbeats 4000000 in
set_option maxRecDepth 20000 in
theorem put_any (s base : Nat) (fv : Value) (S : List GR) (f : GR) (w : World) (h : SH w base s fv S) (hf : OwnP w base f) (ha : ∀ g ∈ cutG S f.n, Apt f g) (hsz : f.sz = (jn f.ps).size) (hbw : base ≤ w.heap.size) (hn : S.length ≤ 900) (hS : RisG S) :
    Calls Try.prog 93 #[.pointer (some ⟨s, 0, none⟩), .agg #[.string f.n, .slice f.a f.ps.length f.c, .int .i64 f.sz]] w fun e w' => e = .returned (.tuple #[]) ∧ ∃ fv', Below base w w' ∧ SH w' base s fv' (putG S f) := by
  have H0 : Hid (SH w base s fv S) := h
  have HS : Hid (RisG S) := hS
  have HA : Hid (∀ g ∈ cutG S f.n, Apt f g) := ha
  have HP : Hid (OwnP w base f) := hf
  have HZ : Hid (f.sz = (jn f.ps).size) := hsz
  have hs := h.lt
  obtain ⟨fl, HFL⟩ : ∃ l, Hid (f.ps.length = l) := ⟨_, rfl⟩
  rw [HFL.out]
  have B0 : Hid (Below w.heap.size w (w.alloc (.cells #[.string f.n, .slice f.a fl f.c, .int .i64 f.sz] 90))) := (Below.refl _ _).alloc (Nat.le_refl _) _
  have R0 : Hid ((w.alloc (.cells #[.string f.n, .slice f.a fl f.c, .int .i64 f.sz] 90)).heap[w.heap.size]? = some (.cells #[.string f.n, .slice f.a fl f.c, .int .i64 f.sz] 90 (0, 0))) := heap_alloc_new _ _
  obtain ⟨a0, a1, a2⟩ := cells3 R0.out
  clear h hS ha hf hsz
  go_enter Try.func93, Try.ntmps93
  go_wp2_with fail
  refine (take_any s base fv S f.n _ (H0.out.below B0.out) (Nat.le_trans hbw B0.out.size) (by omega) HS.out).mono ?_
  rintro e w1 ⟨f1, fv1, rfl, ht⟩
  have HT : Hid (Taken (w.alloc (.cells #[.string f.n, .slice f.a fl f.c, .int .i64 f.sz] 90)) w1 base s fv fv1 S f.n f1) := ht
  have hws : w.heap.size < (w.alloc (.cells #[.string f.n, .slice f.a fl f.c, .int .i64 f.sz] 90)).heap.size := row_lt R0.out
  have hw01 := ht.b.size
  have R1 : Hid (w1.heap[w.heap.size]? = some (.cells #[.string f.n, .slice f.a fl f.c, .int .i64 f.sz] 90 (0, 0))) := (ht.ot _ hws (fun e => by have := (H0.out.r.lt _ e.symm).2; omega) (by omega)).trans R0.out
  have B1 : Hid (Below base w w1) := (B0.out.mono hbw).trans ht.b
  have P1 : Hid (OwnP w1 base f) := ht.ks _ _ _ _ (own_blw HP.out B0.out)
  have S1 : Hid (SH w1 base s fv1 (cutG S f.n)) := ht.sh
  clear ht HT
  obtain ⟨b0, b1, b2⟩ := cells3 R1.out
  have HRC : Hid (RisG (cutG S f.n)) := risG_cut HS.out _
  have hcl := cutG_len S f.n
  obtain ⟨C, HC⟩ : ∃ C, Hid (cutG S f.n = C) := ⟨_, rfl⟩
  have HPU : Hid (∀ k, AtG C f.n k → C.take k ++ f :: C.drop k = putG S f) := fun k hk => by rw [← HC.out] at hk ⊢; exact put_at hk
  rw [HC.out] at S1 HRC hcl HA
  go_wp2_with fail
  refine (place_any s base fv1 C f.n _ S1.out (by omega) HRC.out).mono ?_
  rintro e w2 ⟨k, rfl, hk, hb2⟩
  have B2 : Hid (Below base w w2) := B1.out.trans (hb2.mono (Nat.le_trans hbw B1.out.size))
  have S2 : Hid (SH w2 base s fv1 C) := S1.out.below hb2
  have P2 : Hid (OwnP w2 base f) := own_blw P1.out hb2
  have R2 : Hid (w2.heap[w.heap.size]? = some (.cells #[.string f.n, .slice f.a fl f.c, .int .i64 f.sz] 90 (0, 0))) := below_row hb2 (row_lt R1.out) R1.out
  obtain ⟨e0, e1, e2⟩ := cells3 R2.out
  obtain ⟨s0, sf⟩ := cell1 S2.out.row
  have HPK : Hid (C.take k ++ f :: C.drop k = putG S f) := HPU.out k hk
  have hkl : k ≤ C.length := hk.le
  have hsw2 : s < w2.heap.size := S2.out.lt
  have hww2 : w.heap.size < w2.heap.size := row_lt R2.out
  clear hk hb2 HPU
  obtain ⟨cn, HCN⟩ : ∃ n, Hid (C.length = n) := ⟨_, rfl⟩
  have IG : Hid (Calls Try.prog 96 #[fv1, .int .i64 k, .slice (some ⟨w2.heap.size, 0, none⟩) 1 1] (w2.alloc (.cells #[.string f.n, .slice f.a fl f.c, .int .i64 f.sz] 90)).drew fun e w' => ∃ ao nn co, e = .returned (.slice ao nn co) ∧ Below base w w' ∧ w'.heap[s]? = some (.cells #[fv1] 88 (0, 0)) ∧ SH (w'.setCell ⟨s, 0, none⟩ (.slice ao nn co)) base s (.slice ao nn co) (putG S f)) := by
    have hB : Below w2.heap.size w2 (w2.alloc (.cells #[.string f.n, .slice f.a fl f.c, .int .i64 f.sz] 90)).drew := ((Below.refl _ _).alloc (Nat.le_refl _) _).drew
    have hS3 := S2.out.below hB
    have hP3 : OwnP _ base f := own_blw P2.out hB
    have hx := hS3.r
    have := insertG fv1 k w2.heap.size base C.length (rowG C) (grCells f) _ (rowG_len C) rfl (rowG_one C) (fun v hv => by simp [grCells] at hv; rcases hv with rfl | rfl | rfl <;> rfl) hx (Nat.le_trans (Nat.le_trans hbw B2.out.size) hB.size) (by rw [show (grCells f).toArray = #[.string f.n, .slice f.a fl f.c, .int .i64 f.sz] by rw [← HFL.out]; rfl]; exact heap_alloc_new w2 _) (fun e => by have := (S2.out.r.lt _ e).2; omega) hkl (by omega)
    refine this.mono ?_
    rintro e w' ⟨sl', rfl, hg, ho⟩
    obtain ⟨ao, co, rfl⟩ := own_anyV ho
    rw [insV_rowG, HPK.out] at ho
    have hlen : C.length + 1 = (putG S f).length := by rw [← HPK.out, List.length_append, List.length_cons, List.length_take, List.length_drop]; omega
    have hrow : w'.heap[s]? = some (.cells #[fv1] 88 (0, 0)) := (hg.block s hS3.lt (own_otherT hx hS3.row (by decide))).trans hS3.row
    have hop : ∀ g, OwnP (w2.alloc (.cells #[.string f.n, .slice f.a fl f.c, .int .i64 f.sz] 90)).drew base g → OwnP w' base g := fun g h1 => own_grownT h1 hg (fun q hq e => own_apartT h1 hx (by decide) q hq e)
    have hmem : ∀ g, g ∈ putG S f → g = f ∨ g ∈ C := fun g hg => by
      rw [← HPK.out] at hg
      rcases List.mem_append.1 hg with hg | hg
      · exact .inr (List.mem_of_mem_take hg)
      · rcases List.mem_cons.1 hg with hg | hg
        · exact .inl hg
        · exact .inr (List.mem_of_mem_drop hg)
    refine ⟨ao, _, co, rfl, (B2.out.trans (hB.mono (Nat.le_trans hbw B2.out.size))).grown hg (Nat.le_trans (Nat.le_trans hbw B2.out.size) hB.size) (fun q e => (hx.lt q e).1), hrow, SH.make hrow hS3.bs (by rw [← hlen]; exact ho) (fun g hg2 => ?_) (by rw [← HPK.out]; exact pair_put S2.out.ap HA.out) (fun g hg2 => ?_)⟩
    · rcases hmem g hg2 with rfl | h
      · exact hop _ hP3
      · exact hop _ (hS3.p g h)
    · rcases hmem g hg2 with rfl | h
      · exact HZ.out
      · exact S2.out.sz g h
  have HB3 : Hid (s ≠ w.heap.size) := by show _ ≠ _; omega
  have hs1 : s ≠ w2.heap.size := by omega
  have hs2 : w.heap.size ≠ w2.heap.size := by omega
  have A0 : (w2.alloc (.cells #[.string f.n, .slice f.a fl f.c, .int .i64 f.sz] 90)).cell? ⟨s, 0, none⟩ = some fv1 := (cell1 (below_row ((Below.refl _ _).alloc (Nat.le_refl _) _) hsw2 S2.out.row)).1
  go_wp2_with fail
  go_region_with (first
    | (go_at_call 96
       with_reducible refine IG.out.mono ?_
       rintro e w4 ⟨ao, nn, co, rfl, hb4, hr4, hs4⟩
       have B4 : Hid (Below base w w4) := hb4
       have S4 : Hid (SH (w4.setCell ⟨s, 0, none⟩ (.slice ao nn co)) base s (.slice ao nn co) (putG S f)) := hs4
       obtain ⟨t0, tf⟩ := cell1 hr4
       clear hb4 hr4 hs4))
  all_goals
    go_wp2
    first | refine bodyPost_end (results_none rfl _ _ _) rfl ?_ | refine bodyPost_ret (results_none rfl _ _ _) rfl ?_
    exact ⟨rfl, _, B4.out.setCell H0.out.bs _, S4.out⟩

end Go.Proofs.Ytpahhhocgpohbaa
