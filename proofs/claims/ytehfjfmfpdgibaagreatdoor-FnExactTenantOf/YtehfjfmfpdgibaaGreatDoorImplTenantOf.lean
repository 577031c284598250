import Derived.Test.YtehfjfmfpdgibaaGreatDoorPack15
import Derived.Test.YtehfjfmfpdgibaaGreatDoorFindTen
import Derived.Test.YtehfjfmfpdgibaaGreatDoorSpecFindT
namespace Go.Proofs.YtehfjfmfpdgibaaGreatDoor
open Go.RowKit
def TenOutI (T : List TN) (q : ByteArray) (w : World) (e : Ending) (w' : World) : Prop := (∃ x t' : TN, tenT T q = some x /\ x ∈ T /\ e = .returned (.tuple #[.agg #[.string (txt t'.nm), .int .i64 t'.nx, .slice t'.sa t'.S.length t'.sc, .slice t'.va t'.V.length t'.vc, .int .i64 t'.pub], .bool true]) /\ t'.plain = x.plain /\ Below w.heap.size w w' /\ TNO w' (w.heap.size + 2) t' /\ ∀ v ∈ t'.V, Apt v.R v.la) ∨ (tenT T q = none /\ e = .returned (.tuple #[.agg #[.string ⟨#[]⟩, .int .i64 0, .slice none 0 0, .slice none 0 0, .int .i64 0], .bool false]) /\ Below w.heap.size w w')
set_option maxHeartbeats 4000000 in
theorem implTenantOf_any (a : Option Addr) (c : Nat) (T : List TN) (q : ByteArray) (w : World) (hA : TensAt w a T) (hT : TSm T) (hL : LasT T) (hG : GS w) (hG3 : GSx 0 w) :
 Calls Tryz.prog 14 #[.agg #[.slice a T.length c], .string q] w (TenOutI T q w) := by
 have HA := hdn hA
 have HT := hdn hT
 have HL := hdn hL
 have HG := hdn hG
 have HG3 := hdn hG3
 clear hA hT hL hG hG3
 have B0 := hdn (B2.new 29 36 w #[.slice a T.length c] #[.string ⟨#[]⟩, .int .i64 0, .slice none 0 0, .slice none 0 0, .int .i64 0])
 have CS := hdn (implStore_any a c T _ (HA.out.below B0.out.b) HT.out (HG.out.below B0.out.b (Nat.le_refl _)))
 have CP : Hid (storeB T = true -> ∀ W, Below w.heap.size w W -> _) := fun h W hb => placeOf_any a c T q W (HA.out.below hb) HT.out.n (storeB_true h).2.1 (HG3.out.below hb (Nat.le_refl _))
 obtain ⟨sb, HSB⟩ := nmd (storeB T)
 have HTT : Hid (tenT T q = bif sb then findT T q else none) := by show _ = _; unfold tenT; rw [HSB.out]
 have HCP : Hid (sb = true -> TCp T /\ RisT T) := fun h => ⟨tcp_of HT.out HL.out (HSB.out.trans h), (storeB_true (HSB.out.trans h)).2.1⟩
 rw [HSB.out] at CS CP
 obtain ⟨n, HN⟩ := nmd T.length
 rw [HN.out] at CS CP B0 ⊢
 have q0 := cell1x B0.out.s
 go_enter Tryz.func14, Tryz.ntmps14
 go_wp2_with fail
 generalize ((w.alloc (.cells #[.slice a n c] 29)).alloc (.cells #[.string ⟨#[]⟩, .int .i64 0, .slice none 0 0, .slice none 0 0, .int .i64 0] 36)) = W0 at *
 refine CS.out.mono ?_
 rintro e w1 ⟨rfl, hb1⟩
 have B1 := hdn (B0.out.below hb1)
 clear hb1 CS B0 q0
 have q0 := cell1x B1.out.s
 cases sb
 · obtain ⟨r0, r1, r2, r3, r4⟩ := cells5 B1.out.o
   have f0 := fun i => frozen_of_row _ _ i _ _ B1.out.o
   go_wp2
   refine bodyPost_ret (v := .tuple #[.agg #[.string ⟨#[]⟩, .int .i64 0, .slice none 0 0, .slice none 0 0, .int .i64 0], .bool false]) (by simp [results, Tryz.results14, go_sem, r0, r1, r2, r3, r4]) rfl (.inr ⟨HTT.out, rfl, ?_⟩)
   repeat (first | with_reducible exact B1.out.b | refine Below.setCell ?_ (by simp <;> omega) _)
 · have CP2 := hdn (CP.out rfl w1 B1.out.b)
   obtain ⟨hcp, hris⟩ := HCP.out rfl
   have HC := hdn hcp
   have HR := hdn hris
   clear CP HCP hcp hris
   go_wp2_with fail
   refine CP2.out.mono ?_
   rintro e w2 ⟨k, hk, hb2, (⟨hf, rfl⟩ | ⟨hf, T9, v9, rfl⟩)⟩
   · have B2 := hdn (B1.out.below hb2)
     have hk2 := findT_at hk hf
     obtain ⟨hkX, hfk⟩ := hk2
     have HF := hdn hfk
     clear CP2 hb2 hk hf hfk q0
     have q0 := cell1x B2.out.s
     have hkn : k < n := by rw [<- HN.out]; exact hkX
     have hkI : (k : Int) < (n : Int) := by omega
     obtain ⟨b, off, e, c0, c1, c2, c3, c4⟩ := (HA.out.below B2.out.b).at hkX
     subst e
     have hm := List.getElem_mem hkX
     have HM := hdn hm
     have CC := hdn (implCopyTenant_any T[k] w2 (HC.out.ok _ hm) ((HA.out.below B2.out.b).2 _ hm) (HC.out.ft _ hm))
     clear hm
     generalize T[k] = x at *
     obtain ⟨xm, xx, xS, xV, xp, xsa, xva, xsc, xvc⟩ := x
     simp only at c0 c1 c2 c3 c4 CC
     generalize txt xm = xn at *
     obtain ⟨nS, HNS⟩ := nmd xS.length
     obtain ⟨nV, HNV⟩ := nmd xV.length
     rw [HNS.out] at c2 CC
     rw [HNV.out] at c3 CC
     go_wp2_with fail
     refine CC.out.mono ?_
     rintro e w3 ⟨t', rfl, hpl, hb3, hO, hap⟩
     have B3 := hdn (B2.out.below hb3)
     have O3 := hdn (hO.base (b0 := w.heap.size + 2) (by have := B2.out.b.size; omega))
     have HPL := hdn hpl
     have HAP := hdn hap
     obtain ⟨tm, tx, tS, tV, tp, tsa, tva, tsc, tvc⟩ := t'
     clear hpl hb3 hO hap CC c0 c1 c2 c3 c4 q0
     simp only
     obtain ⟨mn, HMN⟩ := nmd (txt tm)
     obtain ⟨mS, HMS⟩ := nmd tS.length
     obtain ⟨mV, HMV⟩ := nmd tV.length
     rw [HMN.out, HMS.out, HMV.out]
     obtain ⟨r0, r1, r2, r3, r4⟩ := cells5 B3.out.o
     have f0 := fun i => frozen_of_row _ _ i _ _ B3.out.o
     go_wp2
     refine bodyPost_ret (v := .tuple #[.agg #[.string mn, .int .i64 tx, .slice tsa mS tsc, .slice tva mV tvc, .int .i64 tp], .bool true]) (by simp [results, Tryz.results14, go_sem, r0, r1, r2, r3, r4]) rfl (.inl ⟨_, ⟨tm, tx, tS, tV, tp, tsa, tva, tsc, tvc⟩, HTT.out.trans HF.out, HM.out, by rw [<- HMN.out, <- HMS.out, <- HMV.out], HPL.out, ?_, ?_, HAP.out⟩)
     · repeat (first | with_reducible exact B3.out.b | refine Below.setCell ?_ (by simp <;> omega) _)
     · repeat (first | with_reducible exact O3.out | refine TNO.set ?_ (by omega))
   · have B3 := hdn (B1.out.below hb2)
     have HF := hdn (findT_no HR.out hk hf)
     clear hb2 hf hk CP2 q0
     obtain ⟨r0, r1, r2, r3, r4⟩ := cells5 B3.out.o
     have f0 := fun i => frozen_of_row _ _ i _ _ B3.out.o
     go_wp2
     refine bodyPost_ret (v := .tuple #[.agg #[.string ⟨#[]⟩, .int .i64 0, .slice none 0 0, .slice none 0 0, .int .i64 0], .bool false]) (by simp [results, Tryz.results14, go_sem, r0, r1, r2, r3, r4]) rfl (.inr ⟨HTT.out.trans HF.out, rfl, ?_⟩)
     repeat (first | with_reducible exact B3.out.b | refine Below.setCell ?_ (by simp <;> omega) _)
end Go.Proofs.YtehfjfmfpdgibaaGreatDoor
