import Derived.Test.YtehfjfmfpdgibaaGreatDoorPack15
import Derived.Test.YtehfjfmfpdgibaaGreatDoorPack30
namespace Go.Proofs.YtehfjfmfpdgibaaGreatDoor
open Go.RowKit
structure TCp (T : List TN) : Prop where
 n : T.length <= 1048576
 ok : ∀ t ∈ T, TNOk 1048576 t
 ft : ∀ t ∈ T, ∀ v ∈ t.V, v.fits
set_option maxHeartbeats 2000000 in
theorem l11Find_any (a : Option Addr) (c : Nat) (T : List TN) (q : ByteArray) (w : World) (hA : TensAt w a T) (hT : TCp T) :
 Calls Tryz.prog 34 #[.agg #[.slice a T.length c], .string q] w fun e w' => (∃ x t' : TN, findT T q = some x /\ x ∈ T /\ e = .returned (.tuple #[.agg #[.string (txt t'.nm), .int .i64 t'.nx, .slice t'.sa t'.S.length t'.sc, .slice t'.va t'.V.length t'.vc, .int .i64 t'.pub], .bool true]) /\ t'.plain = x.plain /\ Below w.heap.size w w' /\ TNO w' (w.heap.size + 2) t') ∨ (findT T q = none /\ e = .returned (.tuple #[.agg #[.string ⟨#[]⟩, .int .i64 0, .slice none 0 0, .slice none 0 0, .int .i64 0], .bool false]) /\ Below w.heap.size w w') := by
 have HA := hdn hA
 have HT := hdn hT
 clear hA hT
 have hn := HT.out.n
 obtain ⟨n, HN⟩ := nmd T.length
 rw [HN.out] at hn ⊢
 have B0 := hdn (B2.new 29 36 w #[.slice a n c] #[.string ⟨#[]⟩, .int .i64 0, .slice none 0 0, .slice none 0 0, .int .i64 0])
 have q0 := cell1x B0.out.s
 go_enter Tryz.func34, Tryz.ntmps34
 go_wp2_with fail
 clear q0
 go_loopw [6] (fun ti wr => ∃ i : Nat, i <= n /\ ti = .int .i64 i /\ (∀ s ∈ T.take i, decide (txt s.nm = q) = false) /\ B2 29 36 w wr #[.slice a n c] #[.string ⟨#[]⟩, .int .i64 0, .slice none 0 0, .slice none 0 0, .int .i64 0]) (fun ti _ => n - (intOf ti).toNat)
 case atStart => exact ⟨0, Nat.zero_le _, rfl, by simp, B0.out⟩
 case round =>
  obtain ⟨i, hi, rfl, hno, hb⟩ := hrel
  have B1 := hdn hb
  have HNO := hdn hno
  clear hb hno B0
  have q0 := cell1x B1.out.s
  by_cases hlt : i < n
  · have hin : (i : Int) < n := by omega
    have hiX : i < T.length := by rw [HN.out]; exact hlt
    obtain ⟨b, off, e, c0, c1, c2, c3, c4⟩ := (HA.out.below B1.out.b).at hiX
    subst e
    have hm := List.getElem_mem hiX
    by_cases hid : txt T[i].nm = q
    · have HF := hdn (findX_at (fun s : TN => decide (txt s.nm = q)) hiX HNO.out (decide_eq_true hid))
      have CC := specCopyTenant_any T[i] wr (HT.out.ok _ hm) ((HA.out.below B1.out.b).2 _ hm) (HT.out.ft _ hm)
      have HM := hdn hm
      have hide : ((txt T[i].nm).toList == q.toList) = true := by rw [hid]; simp
      clear hm hid
      generalize T[i] = x at *
      have CC2 := hdn CC
      clear CC
      obtain ⟨xm, xx, xS, xV, xp, xsa, xva, xsc, xvc⟩ := x
      simp only at c0 c1 c2 c3 c4 CC2 hide
      generalize txt xm = xn at *
      obtain ⟨nS, HNS⟩ := nmd xS.length
      obtain ⟨nV, HNV⟩ := nmd xV.length
      rw [HNS.out] at c2 CC2
      rw [HNV.out] at c3 CC2
      go_wp2_with fail
      refine CC2.out.mono ?_
      rintro e w2 ⟨t', rfl, hpl, hb2, hO⟩
      have B3 := hdn (B1.out.below hb2)
      have O3 := hdn (hO.base (b0 := w.heap.size + 2) (by have := B1.out.b.size; have := row_lt B1.out.o; omega))
      have HPL := hdn hpl
      obtain ⟨tm, tx, tS, tV, tp, tsa, tva, tsc, tvc⟩ := t'
      clear hpl hb2 hO CC2 c0 c1 c2 c3 c4 hide q0
      simp only
      obtain ⟨mn, HMN⟩ := nmd (txt tm)
      obtain ⟨mS, HMS⟩ := nmd tS.length
      obtain ⟨mV, HMV⟩ := nmd tV.length
      rw [HMN.out, HMS.out, HMV.out]
      obtain ⟨r0, r1, r2, r3, r4⟩ := cells5 B3.out.o
      have f0 := fun i => frozen_of_row _ _ i _ _ B3.out.o
      go_wp2
      refine bodyPost_ret (v := .tuple #[.agg #[.string mn, .int .i64 tx, .slice tsa mS tsc, .slice tva mV tvc, .int .i64 tp], .bool true]) (by simp [results, Tryz.results34, go_sem, r0, r1, r2, r3, r4]) rfl (.inl ⟨_, ⟨tm, tx, tS, tV, tp, tsa, tva, tsc, tvc⟩, HF.out, HM.out, by rw [<- HMN.out, <- HMS.out, <- HMV.out], HPL.out, ?_, ?_⟩)
      · repeat (first | with_reducible exact B3.out.b | refine Below.setCell ?_ (by simp <;> omega) _)
      · repeat (first | with_reducible exact O3.out | refine TNO.set ?_ (by omega))
    · have hide : ((txt T[i].nm).toList == q.toList) = false := by
       cases h : ((txt T[i].nm).toList == q.toList)
       · rfl
       · exact absurd (ByteArray.ext (Array.toList_inj.1 (by rw [ByteArray.toList_eq, ByteArray.toList_eq] at h; exact eq_of_beq h))) hid
      have HNX := hdn (take_step (fun s : TN => decide (txt s.nm = q) = false) hiX HNO.out (decide_eq_false hid))
      clear hid hm
      generalize T[i] = x at *
      obtain ⟨xm, xx, xS, xV, xp, xsa, xva, xsc, xvc⟩ := x
      simp only at c0 c1 c2 c3 c4 hide
      generalize txt xm = xn at *
      go_wp2
      first
       | exact ⟨⟨i + 1, by omega, by first | rfl | go_num, HNX.out, B1.out⟩, by simp [intOf]; omega⟩
       | (go_roundw
          case rel => exact ⟨i + 1, by omega, by first | rfl | go_num, HNX.out, B1.out⟩
          case measure => simp [intOf]; omega)
  · have hin : ¬ ((i : Int) < n) := by omega
    have hkn : i = n := by omega
    subst hkn
    have HF : Hid (findT T q = none) := findX_no _ (by have := HNO.out; rw [<- HN.out, List.take_length] at this; exact this)
    obtain ⟨r0, r1, r2, r3, r4⟩ := cells5 B1.out.o
    have f0 := fun i => frozen_of_row _ _ i _ _ B1.out.o
    go_wp2
    refine bodyPost_ret (v := .tuple #[.agg #[.string ⟨#[]⟩, .int .i64 0, .slice none 0 0, .slice none 0 0, .int .i64 0], .bool false]) (by simp [results, Tryz.results34, go_sem, r0, r1, r2, r3, r4]) rfl (.inr ⟨HF.out, rfl, ?_⟩)
    repeat (first | with_reducible exact B1.out.b | refine Below.setCell ?_ (by simp <;> omega) _)
noncomputable def tenT (T : List TN) (q : ByteArray) : Option TN := bif storeB T then findT T q else none
def TenOut (T : List TN) (q : ByteArray) (w : World) (e : Ending) (w' : World) : Prop := (∃ x t' : TN, tenT T q = some x /\ x ∈ T /\ e = .returned (.tuple #[.agg #[.string (txt t'.nm), .int .i64 t'.nx, .slice t'.sa t'.S.length t'.sc, .slice t'.va t'.V.length t'.vc, .int .i64 t'.pub], .bool true]) /\ t'.plain = x.plain /\ Below w.heap.size w w' /\ TNO w' (w.heap.size + 2) t') ∨ (tenT T q = none /\ e = .returned (.tuple #[.agg #[.string ⟨#[]⟩, .int .i64 0, .slice none 0 0, .slice none 0 0, .int .i64 0], .bool false]) /\ Below w.heap.size w w')
def LasT (T : List TN) : Prop := ∀ t ∈ T, ∀ v ∈ t.V, ∃ b off, v.la = some ⟨b, off, none⟩
theorem tcp_of {T : List TN} (hT : TSm T) (hL : LasT T) (h : storeB T = true) : TCp T := ⟨hT.n, hT.ok, fun t ht => tenB_fits ((storeB_true h).2.2 t ht) (hL t ht)⟩
set_option maxHeartbeats 2000000 in
theorem specTenantOf_any (a : Option Addr) (c : Nat) (T : List TN) (q : ByteArray) (w : World) (hA : TensAt w a T) (hT : TSm T) (hL : LasT T) :
 Calls Tryz.prog 13 #[.agg #[.slice a T.length c], .string q] w (TenOut T q w) := by
 have HA := hdn hA
 have HT := hdn hT
 have HL := hdn hL
 clear hA hT hL
 have B0 := hdn (B2.new 29 36 w #[.slice a T.length c] #[.string ⟨#[]⟩, .int .i64 0, .slice none 0 0, .slice none 0 0, .int .i64 0])
 have CS := hdn (specStore_any a c T _ (HA.out.below B0.out.b) HT.out)
 have CF : Hid (storeB T = true -> ∀ W, Below w.heap.size w W -> _) := fun h W hb => l11Find_any a c T q W (HA.out.below hb) (tcp_of HT.out HL.out h)
 obtain ⟨sb, HSB⟩ := nmd (storeB T)
 have HTT : Hid (tenT T q = bif sb then findT T q else none) := by show _ = _; unfold tenT; rw [HSB.out]
 rw [HSB.out] at CS CF
 obtain ⟨n, HN⟩ := nmd T.length
 rw [HN.out] at CS CF B0 ⊢
 have q0 := cell1x B0.out.s
 go_enter Tryz.func13, Tryz.ntmps13
 go_wp2_with fail
 generalize ((w.alloc (.cells #[.slice a n c] 29)).alloc (.cells #[.string ⟨#[]⟩, .int .i64 0, .slice none 0 0, .slice none 0 0, .int .i64 0] 36)) = W0 at *
 refine CS.out.mono ?_
 rintro e w1 ⟨rfl, hb1⟩
 have B1 := hdn (B0.out.below hb1)
 clear hb1 CS B0 q0
 have q0 := cell1x B1.out.s
 cases sb
 · obtain ⟨r0, r1, r2, r3, r4⟩ := cells5 B1.out.o
   have f0 := fun i => frozen_of_row _ _ i _ _ B1.out.o
   go_wp2
   refine bodyPost_ret (v := .tuple #[.agg #[.string ⟨#[]⟩, .int .i64 0, .slice none 0 0, .slice none 0 0, .int .i64 0], .bool false]) (by simp [results, Tryz.results13, go_sem, r0, r1, r2, r3, r4]) rfl (.inr ⟨HTT.out, rfl, ?_⟩)
   repeat (first | with_reducible exact B1.out.b | refine Below.setCell ?_ (by simp <;> omega) _)
 · have CF2 := hdn (CF.out rfl w1 B1.out.b)
   clear CF
   go_wp2_with fail
   refine CF2.out.mono ?_
   rintro e w2 (⟨x, t', hf, hm, rfl, hpl, hb2, hO⟩ | ⟨hf, rfl, hb2⟩)
   · have B3 := hdn (B1.out.below hb2)
     have O3 := hdn (hO.base (b0 := w.heap.size + 2) (by have := B1.out.b.size; omega))
     have HPL := hdn hpl
     have HF := hdn hf
     have HM := hdn hm
     obtain ⟨tm, tx, tS, tV, tp, tsa, tva, tsc, tvc⟩ := t'
     clear hpl hb2 hO hf hm CF2 q0
     simp only
     obtain ⟨mn, HMN⟩ := nmd (txt tm)
     obtain ⟨mS, HMS⟩ := nmd tS.length
     obtain ⟨mV, HMV⟩ := nmd tV.length
     rw [HMN.out, HMS.out, HMV.out]
     obtain ⟨r0, r1, r2, r3, r4⟩ := cells5 B3.out.o
     have f0 := fun i => frozen_of_row _ _ i _ _ B3.out.o
     go_wp2
     refine bodyPost_ret (v := .tuple #[.agg #[.string mn, .int .i64 tx, .slice tsa mS tsc, .slice tva mV tvc, .int .i64 tp], .bool true]) (by simp [results, Tryz.results13, go_sem, r0, r1, r2, r3, r4]) rfl (.inl ⟨x, ⟨tm, tx, tS, tV, tp, tsa, tva, tsc, tvc⟩, HTT.out.trans HF.out, HM.out, by rw [<- HMN.out, <- HMS.out, <- HMV.out], HPL.out, ?_, ?_⟩)
     · repeat (first | with_reducible exact B3.out.b | refine Below.setCell ?_ (by simp <;> omega) _)
     · repeat (first | with_reducible exact O3.out | refine TNO.set ?_ (by omega))
   · have B3 := hdn (B1.out.below hb2)
     have HF := hdn hf
     clear hb2 hf CF2 q0
     obtain ⟨r0, r1, r2, r3, r4⟩ := cells5 B3.out.o
     have f0 := fun i => frozen_of_row _ _ i _ _ B3.out.o
     go_wp2
     refine bodyPost_ret (v := .tuple #[.agg #[.string ⟨#[]⟩, .int .i64 0, .slice none 0 0, .slice none 0 0, .int .i64 0], .bool false]) (by simp [results, Tryz.results13, go_sem, r0, r1, r2, r3, r4]) rfl (.inr ⟨HTT.out.trans HF.out, rfl, ?_⟩)
     repeat (first | with_reducible exact B3.out.b | refine Below.setCell ?_ (by simp <;> omega) _)
end Go.Proofs.YtehfjfmfpdgibaaGreatDoor
