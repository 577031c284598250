import Derived.Test.YtehfjfmfpdgibaaGreatDoorPack2
import Derived.Test.YtehfjfmfpdgibaaGreatDoorPack6
import Derived.Test.YtehfjfmfpdgibaaGreatDoorPack10
import Derived.Test.YtehfjfmfpdgibaaGreatDoorPack23
import Derived.Test.YtehfjfmfpdgibaaGreatDoorSpecCopy
import Derived.Test.YtehfjfmfpdgibaaGreatDoorSpecFindT
import Derived.Test.YtehfjfmfpdgibaaGreatDoorPack35
namespace Go.Proofs.YtehfjfmfpdgibaaGreatDoor
open Go.RowKit
noncomputable def pubT (T : List TN) (q : ByteArray) : Option (SN × VN) := (tenT T q).bind fun t => (findV t.V t.pub).bind fun v => (findS t.S v.sn).map fun s => (s, v)
theorem pub_noT {T : List TN} {q : ByteArray} (h : tenT T q = none) : pubT T q = none := by unfold pubT; rw [h]; rfl
theorem pub_noV {T : List TN} {q : ByteArray} {x : TN} (h : tenT T q = some x) (hv : findV x.V x.pub = none) : pubT T q = none := by
 unfold pubT
 rw [h]
 show (findV x.V x.pub).bind _ = none
 rw [hv]
 rfl
theorem pub_some {T : List TN} {q : ByteArray} {x : TN} {v : VN} {s : SN} (h : tenT T q = some x) (hv : findV x.V x.pub = some v) (hs : findS x.S v.sn = some s) : pubT T q = some (s, v) := by
 unfold pubT
 rw [h]
 show (findV x.V x.pub).bind _ = _
 rw [hv]
 show (findS x.S v.sn).map _ = _
 rw [hs]
 rfl
theorem tenT_true {T : List TN} {q : ByteArray} {x : TN} (h : tenT T q = some x) (hx : x ∈ T) : tenB x = true := by
 unfold tenT at h
 cases hB : storeB T
 · rw [hB] at h; cases h
 · exact (storeB_true hB).2.2 x hx
theorem findV_same {V' V : List VN} (h : V'.map VN.plain = V.map VN.plain) (id : Int) : (findV V' id).map VN.plain = (findV V id).map VN.plain := by rw [<- findV_plain, <- findV_plain, h]
theorem findS_same {S' S : List SN} (h : S'.map SN.plain = S.map SN.plain) (id : Int) : (findS S' id).map SN.plain = (findS S id).map SN.plain := by rw [<- findS_plain, <- findS_plain, h]
theorem pub_none {T : List TN} {q : ByteArray} {x t : TN} (h : tenT T q = some x) (hp : t.plain = x.plain) (hv : findV t.V t.pub = none) : pubT T q = none := by
 have h1 : t.V.map VN.plain = x.V.map VN.plain := (congrArg TN.V hp :)
 have h2 : t.pub = x.pub := (congrArg TN.pub hp :)
 have h3 := findV_same h1 t.pub
 rw [hv, h2] at h3
 cases h4 : findV x.V x.pub
 · exact pub_noV h h4
 · rw [h4] at h3; cases h3
theorem pub_copy {T : List TN} {q : ByteArray} {x t : TN} {v : VN} (h : tenT T q = some x) (hx : x ∈ T) (hp : t.plain = x.plain) (hv : findV t.V t.pub = some v) : ∃ s s0 v0, findS t.S v.sn = some s /\ pubT T q = some (s0, v0) /\ s.plain = s0.plain /\ v.plain = v0.plain /\ planV s.c.n s.c.zs s.c.os s.c.vs s.c.ko s.c.kv s.c.f v.R v.L = 0 := by
 have h1 : t.V.map VN.plain = x.V.map VN.plain := (congrArg TN.V hp :)
 have h2 : t.pub = x.pub := (congrArg TN.pub hp :)
 have h5 : t.S.map SN.plain = x.S.map SN.plain := (congrArg TN.S hp :)
 have h3 := findV_same h1 t.pub
 rw [hv, h2] at h3
 cases h4 : findV x.V x.pub with
 | none => rw [h4] at h3; cases h3
 | some v0 =>
   rw [h4] at h3
   have h6 : v.plain = v0.plain := Option.some.inj h3
   have hsn : v.sn = v0.sn := (congrArg VN.sn h6 :)
   have hmem : v0 ∈ x.V := List.mem_of_find?_eq_some h4
   obtain ⟨s0, hs0, hpl⟩ := (vers_true (tenB_true (tenT_true h hx)).2.2.2.1).2 v0 hmem
   have h7 := findS_same h5 v.sn
   rw [hsn, hs0] at h7
   cases h8 : findS t.S v0.sn with
   | none => rw [h8] at h7; cases h7
   | some s =>
     rw [h8] at h7
     have h9 : s.plain = s0.plain := Option.some.inj h7
     have hc : s.c = s0.c := (congrArg SN.c h9 :)
     refine ⟨s, s0, v0, by rw [hsn]; exact h8, pub_some h h4 hs0, h9, h6, ?_⟩
     have hL : v.L = v0.L := (congrArg VN.L h6 :)
     have hR : v.R.map RT.plain = v0.R.map RT.plain := (congrArg VN.R h6 :)
     rw [hc, hL, planV_key v0.L (RT.key_plain hR)]
     exact hpl
theorem row_ownX {α : Type} {k : Nat} {cells : α -> List Value} (hk : ∀ x, (cells x).length = k) {w : World} {base n c : Nat} {a : Option Addr} {l : List α} {T : TypeId} (h : w.ownsRow base T k (.slice a n c) n (rowX cells l)) (hn : l.length = n) : RowAt k cells w a l := fun j hj => by
 rcases own_kinds h with ⟨_, hz⟩ | ⟨g, c', e, _, _⟩
 · omega
 · simp only [Value.slice.injEq, true_and] at e
   obtain ⟨rfl, rfl⟩ := e
   refine ⟨g, 0, rfl, fun i v hv => ?_⟩
   rw [Nat.zero_add]
   exact (own_cellV h (rowX_at hk l j i hj v hv)).1
theorem SNO.at {w : World} {base : Nat} {s : SN} (h : SNO w base s) : SNAt w s := ⟨own_intsC h.z, own_intsC h.o, own_intsC h.v⟩
theorem VNO.at {w : World} {base : Nat} {v : VN} (h : VNO w base v) : VNAt w v := ⟨h.p.at, own_intsC h.p.l⟩
theorem TNO.at {w : World} {base : Nat} {t : TN} (h : TNO w base t) : TNAt w t := by
 obtain ⟨lo, _, h2, _⟩ := h.v
 exact ⟨⟨row_ownX sn_len h.s.r rfl, fun s hs => (h.s.s s hs).at⟩, row_ownX vn_len h2.r rfl, fun v hv => (h2.s v hv).at⟩
theorem TNO.vno {w : World} {base : Nat} {t : TN} (h : TNO w base t) {v : VN} (hv : v ∈ t.V) : VNO w base v := by
 obtain ⟨lo, _, h2, _⟩ := h.v
 exact h2.s v hv
noncomputable def pubC (s : SN) (v : VN) : Int := costR s.c.n s.c.zs s.c.os s.c.vs s.c.ko s.c.kv v.R (s.c.f * v.L.length) v.R.length
theorem pubC_same {s s0 : SN} {v v0 : VN} (h : s.plain = s0.plain) (hv : v.plain = v0.plain) : pubC s v = pubC s0 v0 := by
 have hc : s.c = s0.c := (congrArg SN.c h :)
 have hL : v.L = v0.L := (congrArg VN.L hv :)
 have hR : v.R.map RT.plain = v0.R.map RT.plain := (congrArg VN.R hv :)
 have hn : v.R.length = v0.R.length := by have := congrArg List.length hR; simpa using this
 unfold pubC
 rw [hc, hL, costR_key (RT.key_plain hR), hn]
def PubOut (T : List TN) (q : ByteArray) (w : World) (e : Ending) (w' : World) : Prop := (∃ (s0 : SN) (v0 : VN) (ra : Option Addr) (rc : Nat) (la : Option Addr) (lc : Nat) (S : List RT), pubT T q = some (s0, v0) /\ e = .returned (.tuple #[.agg #[.slice ra v0.R.length rc, .slice la v0.L.length lc], .int .i64 (pubC s0 v0), .bool true]) /\ Below w.heap.size w w' /\ S.map RT.key = v0.R.map RT.key /\ PO w' (w.heap.size + 2) (.slice ra v0.R.length rc) S (.slice la v0.L.length lc) v0.L /\ v0.R.length <= 12 /\ (∀ r ∈ v0.R, r.ids ≠ [] /\ r.ids.length <= 12) /\ v0.L.length <= 12) ∨ (pubT T q = none /\ e = .returned (.tuple #[.agg #[.slice none 0 0, .slice none 0 0], .int .i64 0, .bool false]) /\ Below w.heap.size w w')
theorem ten_lens {x t : TN} (h : tenB x = true) (hp : t.plain = x.plain) : t.V.length <= 8 /\ t.S.length <= 8 := by
 obtain ⟨_, _, hs, hv, _⟩ := tenB_true h
 have h1 := congrArg List.length (congrArg TN.V hp :)
 have h2 := congrArg List.length (congrArg TN.S hp :)
 simp only [TN.plain, List.length_map] at h1 h2
 have h3 := (vers_true hv).1
 have h4 := (snaps_true hs).1
 omega
theorem pub_lens {n : Int} {zs os vs : List Int} {ko kv : Nat} {f : Int} {v v0 : VN} (h : planV n zs os vs ko kv f v.R v.L = 0) (hp : v.plain = v0.plain) : v0.R.length <= 12 /\ (∀ r ∈ v0.R, r.ids ≠ [] /\ r.ids.length <= 12) /\ v0.L.length <= 12 := by
 have hL : v.L = v0.L := (congrArg VN.L hp :)
 have hR : v.R.map RT.plain = v0.R.map RT.plain := (congrArg VN.R hp :)
 rw [hL, planV_key v0.L (RT.key_plain hR)] at h
 obtain ⟨_, h2, h3, h4, _, _⟩ := planV_sm h
 exact ⟨h3, h2, h4⟩
set_option maxRecDepth 20000 in
set_option maxHeartbeats 4000000 in
theorem specPub_any (a : Option Addr) (c : Nat) (T : List TN) (q : ByteArray) (w : World) (hA : TensAt w a T) (hT : TSm T) (hL : LasT T) :
 Calls Tryz.prog 19 #[.agg #[.slice a T.length c], .string q] w (PubOut T q w) := by
 have B0 := hdn (B2.new 29 46 w #[.slice a T.length c] #[.slice none 0 0, .slice none 0 0])
 have CT := hdn (specTenantOf_any a c T q _ (hA.below B0.out.b) hT hL)
 obtain ⟨n, HN⟩ := nmd T.length
 clear hA hT hL
 rw [HN.out] at CT B0 ⊢
 have q0 := cell1x B0.out.s
 go_enter Tryz.func19, Tryz.ntmps19
 go_wp2_with fail
 generalize ((w.alloc (.cells #[.slice a n c] 29)).alloc (.cells #[.slice none 0 0, .slice none 0 0] 46)) = W0 at *
 have HW0 := hdn (row_lt B0.out.o)
 refine CT.out.mono ?_
 rintro e w1 (⟨x, t, hf, hm, rfl, hpl, hb1, hO⟩ | ⟨hf, rfl, hb1⟩)
 · have HF := hdn hf
   have HM := hdn hm
   have HPL := hdn hpl
   obtain ⟨hlv, hls⟩ := ten_lens (tenT_true hf hm) hpl
   have hA1 := (Below.refl w1.heap.size w1).alloc (Nat.le_refl _) (.cells #[.string (txt t.nm), .int .i64 t.nx, .slice t.sa t.S.length t.sc, .slice t.va t.V.length t.vc, .int .i64 t.pub] 36)
   have B1 := hdn ((B0.out.below hb1).below hA1)
   have O1 := hdn ((hO.base (b0 := w.heap.size + 2) (by have := HW0.out; omega)).below hA1)
   have K1 := hdn (heap_alloc_new w1 (.cells #[.string (txt t.nm), .int .i64 t.nx, .slice t.sa t.S.length t.sc, .slice t.va t.V.length t.vc, .int .i64 t.pub] 36))
   clear hf hm hpl hb1 hO hA1 CT B0 q0
   obtain ⟨tm, tx, tS, tV, tp, tsa, tva, tsc, tvc⟩ := t
   simp only at K1 B1 O1 hlv hls ⊢
   have CV : Hid (∀ W, TNAt W ⟨tm, tx, tS, tV, tp, tsa, tva, tsc, tvc⟩ -> _) := fun W h => l11Version_any ⟨tm, tx, tS, tV, tp, tsa, tva, tsc, tvc⟩ tp W h (by show tV.length <= _; omega)
   have CN : Hid (∀ id W, TNAt W ⟨tm, tx, tS, tV, tp, tsa, tva, tsc, tvc⟩ -> _) := fun id W h => l11Snap_any ⟨tm, tx, tS, tV, tp, tsa, tva, tsc, tvc⟩ id W h (by show tS.length <= _; omega)
   simp only at CV CN
   generalize txt tm = mn at *
   obtain ⟨mS, HMS⟩ := nmd tS.length
   obtain ⟨mV, HMV⟩ := nmd tV.length
   rw [HMS.out, HMV.out] at K1 B1 O1 CV CN ⊢
   obtain ⟨k0, k1, k2, k3, k4⟩ := cells5 K1.out
   go_wp2_with fail
   generalize (w1.alloc (.cells #[.string mn, .int .i64 tx, .slice tsa mS tsc, .slice tva mV tvc, .int .i64 tp] 36)) = W1 at *
   obtain ⟨kt, HKT⟩ := nmd w1.heap.size
   rw [HKT.out] at K1 k0 k1 k2 k3 k4 ⊢
   refine (CV.out W1 O1.out.at).mono ?_
   rintro e w2 (⟨v, hv, rfl, hb2⟩ | ⟨hv, rfl, hb2⟩)
   · obtain ⟨s, s0, v0, hs, hpb, hps, hpv, hpl⟩ := pub_copy HF.out HM.out HPL.out hv
     have HV := hdn hv
     have HS := hdn hs
     have HPB := hdn hpb
     have HPS := hdn hps
     have HPV := hdn hpv
     have HPP := hdn hpl
     have HLE := hdn (pub_lens hpl hpv)
     clear hv hs hpb hps hpv hpl CV
     have hA2 := (Below.refl w2.heap.size w2).alloc (Nat.le_refl _) (.cells #[.int .i64 v.id, .int .i64 v.sn, .slice v.ra v.R.length v.rc, .slice v.la v.L.length v.lc] 70)
     have HK2 := hdn (row_lt (B1.out.below hb2).o)
     have B2 := hdn ((B1.out.below hb2).below hA2)
     have O2 := hdn ((O1.out.below hb2).below hA2)
     have K2 := hdn (below_row hA2 (row_lt (below_row hb2 (row_lt K1.out) K1.out)) (below_row hb2 (row_lt K1.out) K1.out))
     have V2 := hdn (heap_alloc_new w2 (.cells #[.int .i64 v.id, .int .i64 v.sn, .slice v.ra v.R.length v.rc, .slice v.la v.L.length v.lc] 70))
     clear hb2 hA2 B1 O1 K1 k0 k1 k2 k3 k4
     have HO9 : Hid (∀ W, TNO W (w.heap.size + 2) ⟨tm, tx, tS, tV, tp, tsa, tva, tsc, tvc⟩ -> RoutesAt W v.ra v.R /\ IntsAt W v.la v.L) := fun W h => by
      have := (h.vno (List.mem_of_find?_eq_some HV.out)).at
      exact ⟨this.r, this.l⟩
     have HS9 : Hid (∀ W, TNO W (w.heap.size + 2) ⟨tm, tx, tS, tV, tp, tsa, tva, tsc, tvc⟩ -> SNAt W s) := fun W h => h.at.s.2 s (List.mem_of_find?_eq_some HS.out)
     have HVL : Hid (v.R.length <= 12 /\ (∀ r ∈ v.R, r.ids ≠ [] /\ r.ids.length <= 12) /\ v.L.length <= 12) := pub_lens HPP.out rfl
     have HLA : Hid ((v.la = none /\ v.L.length = 0) ∨ ∃ bl ol, v.la = some ⟨bl, ol, none⟩) := by
      rcases own_kinds (O2.out.vno (List.mem_of_find?_eq_some HV.out)).p.l with ⟨e, h0⟩ | ⟨g, c9, e, _, _⟩
      · exact .inl ⟨by injection e, h0⟩
      · exact .inr ⟨g, 0, by injection e⟩
     have HSL : Hid (s.c.os.length = s.c.ko * 6 /\ s.c.vs.length = s.c.kv * 5) := by
      have h9 := O2.out.s.s s (List.mem_of_find?_eq_some HS.out)
      exact ⟨by have := h9.o.1; simpa using this, by have := h9.v.1; simpa using this⟩
     obtain ⟨vid, vsn, vR, vL, vra, vla, vrc, vlc⟩ := v
     simp only at V2 B2 O2 K2 HO9 HS HPP HVL HLA ⊢
     have hvl := HVL.out
     have hvn : vR.length <= 12 /\ vL.length <= 12 := ⟨hvl.1, hvl.2.2⟩
     clear hvl
     obtain ⟨nR, HNR⟩ := nmd vR.length
     obtain ⟨nL, HNL⟩ := nmd vL.length
     rw [HNR.out, HNL.out] at V2 B2 O2 K2 ⊢
     obtain ⟨k0, k1, k2, k3, k4⟩ := cells5 K2.out
     obtain ⟨v9, v1, v2, v3⟩ := cells4v V2.out
     go_wp2_with fail
     generalize (w2.alloc (.cells #[.int .i64 vid, .int .i64 vsn, .slice vra nR vrc, .slice vla nL vlc] 70)) = W2 at *
     obtain ⟨kv, HKV⟩ := nmd w2.heap.size
     rw [HKV.out] at V2 v9 v1 v2 v3 ⊢
     refine (CN.out vsn W2 O2.out.at).mono ?_
     rintro e w3 (⟨s', hs', rfl, hb3⟩ | ⟨hs', _⟩)
     · obtain rfl : s' = s := Option.some.inj (hs'.symm.trans HS.out)
       clear hs'
       have hA3 := (Below.refl w3.heap.size w3).alloc (Nat.le_refl _) (.cells #[.int .i64 s'.c.n, .slice s'.za s'.c.zs.length s'.zc, .slice s'.oa s'.c.ko s'.oc, .slice s'.va s'.c.kv s'.vc, .int .i64 s'.c.f] 78)
       have HK3 := hdn (row_lt (B2.out.below hb3).o)
       have B3 := hdn ((B2.out.below hb3).below hA3)
       have O3 := hdn ((O2.out.below hb3).below hA3)
       have V3 := hdn (below_row hA3 (row_lt (below_row hb3 (row_lt V2.out) V2.out)) (below_row hb3 (row_lt V2.out) V2.out))
       have C3 := hdn (heap_alloc_new w3 (.cells #[.int .i64 s'.c.n, .slice s'.za s'.c.zs.length s'.zc, .slice s'.oa s'.c.ko s'.oc, .slice s'.va s'.c.kv s'.vc, .int .i64 s'.c.f] 78))
       clear hb3 hA3 B2 O2 K2 V2 k0 k1 k2 k3 k4 v9 v1 v2 v3 CN
       obtain ⟨sid, ⟨cn, cf, zs, os, vs, ko, kv9⟩, za, oa, va9, zc, oc, vc9⟩ := s'
       simp only at B3 O3 V3 C3 HPP HS9 HSL ⊢
       have LC : Hid (∀ W, TNO W (w.heap.size + 2) ⟨tm, tx, tS, tV, tp, tsa, tva, tsc, tvc⟩ -> _) := fun W h => l4Copy_opt vra vla vrc vlc vR vL W (HO9.out W h).1 (HO9.out W h).2 HLA.out (by omega) (fun r hr => ⟨(HVL.out.2.1 r hr).1, by have := (HVL.out.2.1 r hr).2; omega⟩) (by omega)
       have LK : Hid (∀ W, TNO W (w.heap.size + 2) ⟨tm, tx, tS, tV, tp, tsa, tva, tsc, tvc⟩ -> _) := fun W h => l4Cost_any cn cf za oa va9 vra vla zc ko oc kv9 vc9 vrc vlc zs os vs vL vR W (HS9.out W h).z (HS9.out W h).o (HS9.out W h).v (HO9.out W h).1 HSL.out.1 HSL.out.2 (by have := (planV_sm HPP.out).2.2.2.2; omega) (by have := (planV_sm HPP.out).2.2.2.2; omega) HPP.out
       obtain ⟨nz, HNZ⟩ := nmd zs.length
       obtain ⟨cc, HCC⟩ := nmd (costR cn zs os vs ko kv9 vR (cf * vL.length) vR.length)
       rw [HNR.out, HNL.out] at LC
       rw [HCC.out, HNR.out, HNL.out, HNZ.out] at LK
       rw [HNZ.out] at C3 B3 O3 V3 ⊢
       obtain ⟨v9, v1, v2, v3⟩ := cells4v V3.out
       go_wp2_with fail
       generalize (w3.alloc (.cells #[.int .i64 cn, .slice za nz zc, .slice oa ko oc, .slice va9 kv9 vc9, .int .i64 cf] 78)) = W3 at *
       obtain ⟨kc, HKC⟩ := nmd w3.heap.size
       rw [HKC.out] at C3 HK3 ⊢
       rw [HKV.out] at HK2
       have kS := fun (W : World) (h1 : W.heap[kv]? = some (.cells #[.int .i64 vid, .int .i64 vsn, .slice vra nR vrc, .slice vla nL vlc] 70 (0, 0))) (h2 : W.heap[kc]? = some (.cells #[.int .i64 cn, .slice za nz zc, .slice oa ko oc, .slice va9 kv9 vc9, .int .i64 cf] 78 (0, 0))) => And.intro (cells4v h1).2.2 (cells5 h2)
       have hkS : Hid _ := kS
       clear kS v9 v1 v2 v3
       have hD : Below W3.heap.size W3 W3.drew := (Below.refl _ _).drew
       refine wp_region_held_drew (S := (fun W => (W.cell? ⟨kv, 2, none⟩ = some (.slice vra nR vrc) /\ W.cell? ⟨kv, 3, none⟩ = some (.slice vla nL vlc)) /\ W.cell? ⟨kc, 0, none⟩ = some (.int .i64 cn) /\ W.cell? ⟨kc, 1, none⟩ = some (.slice za nz zc) /\ W.cell? ⟨kc, 2, none⟩ = some (.slice oa ko oc) /\ W.cell? ⟨kc, 3, none⟩ = some (.slice va9 kv9 vc9) /\ W.cell? ⟨kc, 4, none⟩ = some (.int .i64 cf))) (by kernel_rfl) ?_ (fun hHeld => ?_)
       · exact hkS.out _ (below_row hD (row_lt V3.out) V3.out) (below_row hD (row_lt C3.out) C3.out)
       have B4 := hdn (B3.out.below hD)
       have O4 := hdn (O3.out.below hD)
       have V4 := hdn (below_row hD (row_lt V3.out) V3.out)
       have C4 := hdn (below_row hD (row_lt C3.out) C3.out)
       clear hD B3 O3 V3 C3
       generalize W3.drew = W4 at *
       refine tkH 0 hHeld ?_
       refine tkH 1 hHeld ?_
       refine tkH 3 hHeld ?_
       refine tkH 4 hHeld ?_
       refine tkH 5 hHeld ?_
       refine wpAnyH_ready (rs := [2]) (by kernel_rfl) (by simp) ?_
       refine AllReadyH.cons rfl (fun K hK => ?_) AllReadyH.nil
       go_simp
       refine (LC.out W4 O4.out).mono ?_
       rintro e w5 ⟨ra, rc, gl, lc, S5, rfl, hb, hky, hpo⟩
       have HKY := hdn hky
       have P5 := hdn (hpo.base (b0 := w.heap.size + 2) (by have := row_lt B4.out.o; omega))
       have B5 := hdn (B4.out.below hb)
       have O5 := hdn (O4.out.below hb)
       have V5 := hdn (below_row hb (row_lt V4.out) V4.out)
       have C5 := hdn (below_row hb (row_lt C4.out) C4.out)
       clear hb hky hpo B4 O4 V4 C4 LC
       rw [HNR.out, HNL.out] at P5 ⊢
       (try go_wp2_with fail)
       refine hK.out _ _ ?_ (fun hHeld => ?_)
       · exact hkS.out _ V5.out C5.out
       clear hK K
       (try simp only [Act.put, List.setIfInBounds_toArray, List.set_cons_zero, List.set_cons_succ])
       refine wpAnyH_ready (rs := [6]) (by kernel_rfl) (by simp) ?_
       refine AllReadyH.cons rfl (fun K hK => ?_) AllReadyH.nil
       go_simp
       refine (LK.out w5 O5.out).mono ?_
       rintro e w6 ⟨rfl, hb⟩
       have P6 := hdn (P5.out.below hb)
       have B6 := hdn (B5.out.below hb)
       have V6 := hdn (below_row hb (row_lt V5.out) V5.out)
       have C6 := hdn (below_row hb (row_lt C5.out) C5.out)
       clear hb B5 O5 V5 C5 P5 LK
       (try go_wp2_with fail)
       refine hK.out _ _ ?_ (fun hHeld => ?_)
       · exact hkS.out _ V6.out C6.out
       clear hK K
       (try simp only [Act.put, List.setIfInBounds_toArray, List.set_cons_zero, List.set_cons_succ])
       refine wpAnyH_ready (rs := [7]) (by kernel_rfl) (by simp) ?_
       refine AllReadyH.cons rfl (fun K hK => ?_) AllReadyH.nil
       obtain ⟨r0, r1⟩ := cells2 B6.out.o
       have f0 := fun i => frozen_of_row _ _ i _ _ B6.out.o
       go_simp
       have hg : w6.grownBy ((w6.setCell ⟨w.heap.size + 1, 0, none⟩ (.slice ra nR rc)).setCell ⟨w.heap.size + 1, 1, none⟩ (.slice (some ⟨gl, 0, none⟩) nL lc)) (some (w.heap.size + 1)) := grown_trans (grown_set _ _ _ _) (grown_set _ _ _ _)
       refine hK.out _ _ ?_ (fun hHeld => ?_)
       · exact hkS.out _ (grown_row hg V6.out (fun e => by injection e with e; have := HK2.out; omega)) (grown_row hg C6.out (fun e => by injection e with e; have := HK3.out; omega))
       clear hK K hg
       (try simp only [Act.put, List.setIfInBounds_toArray, List.set_cons_zero, List.set_cons_succ])
       refine tkH 8 hHeld ?_
       refine tkH 9 hHeld ?_
       refine wpAnyH_done (by kernel_rfl) ?_ _
       clear hHeld
       go_wp2
       have hpc : cc = pubC s0 v0 := by rw [<- HCC.out]; exact pubC_same HPS.out HPV.out
       have hl1 : nR = v0.R.length := by rw [<- HNR.out]; have := congrArg List.length (congrArg VN.R HPV.out :); simpa [VN.plain] using this
       have hl2 : vL = v0.L := (congrArg VN.L HPV.out :)
       have hl3 : nL = v0.L.length := by rw [<- HNL.out, hl2]
       have hl4 : vR.map RT.key = v0.R.map RT.key := RT.key_plain (congrArg VN.R HPV.out :)
       refine bodyPost_ret (v := .tuple #[.agg #[.slice ra nR rc, .slice (some ⟨gl, 0, none⟩) nL lc], .int .i64 cc, .bool true]) (by simp [results, Tryz.results19, go_sem, r0, r1]) rfl (.inl ⟨s0, v0, ra, rc, some ⟨gl, 0, none⟩, lc, S5, HPB.out, by rw [hl1, hl3, hpc], ?_, HKY.out.trans hl4, ?_, HLE.out⟩)
       · repeat (first | with_reducible exact B6.out.b | refine Below.setCell ?_ (by simp <;> omega) _)
       · rw [<- hl1, <- hl3, <- hl2]
         exact (P6.out.set (by omega)).set (by omega)
     · rw [HS.out] at hs'
       cases hs'
   · have HN9 := hdn (pub_none HF.out HPL.out hv)
     have hA2 := (Below.refl w2.heap.size w2).alloc (Nat.le_refl _) (.cells #[.int .i64 0, .int .i64 0, .slice none 0 0, .slice none 0 0] 70)
     have B2 := hdn ((B1.out.below hb2).below hA2)
     have HK2 := hdn (row_lt (B1.out.below hb2).o)
     clear hv hb2 hA2 CV CN B1 O1 K1 k0 k1 k2 k3 k4
     obtain ⟨r0, r1⟩ := cells2 B2.out.o
     have f0 := fun i => frozen_of_row _ _ i _ _ B2.out.o
     go_wp2
     refine bodyPost_ret (v := .tuple #[.agg #[.slice none 0 0, .slice none 0 0], .int .i64 0, .bool false]) (by simp [results, Tryz.results19, go_sem, r0, r1]) rfl (.inr ⟨HN9.out, rfl, ?_⟩)
     repeat (first | with_reducible exact B2.out.b | refine Below.setCell ?_ (by simp <;> omega) _)
 · have HF := hdn hf
   have hA1 := (Below.refl w1.heap.size w1).alloc (Nat.le_refl _) (.cells #[.string ⟨#[]⟩, .int .i64 0, .slice none 0 0, .slice none 0 0, .int .i64 0] 36)
   have B1 := hdn ((B0.out.below hb1).below hA1)
   have K1 := hdn (heap_alloc_new w1 (.cells #[.string ⟨#[]⟩, .int .i64 0, .slice none 0 0, .slice none 0 0, .int .i64 0] 36))
   have CV : Hid (∀ W, Calls Tryz.prog 44 #[.agg #[.string ⟨#[]⟩, .int .i64 0, .slice none 0 0, .slice none 0 0, .int .i64 0], .int .i64 0] W fun e w' => e = .returned (.tuple #[.agg #[.int .i64 0, .int .i64 0, .slice none 0 0, .slice none 0 0], .bool false]) /\ Below W.heap.size W w') := fun W => by
    refine (l11Version_any tn0 0 W ⟨⟨fun j hj => absurd hj (Nat.not_lt_zero _), fun _ h => by simp [tn0] at h⟩, fun j hj => absurd hj (Nat.not_lt_zero _), fun _ h => by simp [tn0] at h⟩ (by simp [tn0])).mono ?_
    rintro e w' (⟨v, hv, _⟩ | ⟨_, h1, h2⟩)
    · cases hv
    · exact ⟨h1, h2⟩
   clear hf hb1 hA1 CT B0 q0
   obtain ⟨k0, k1, k2, k3, k4⟩ := cells5 K1.out
   go_wp2_with fail
   generalize (w1.alloc (.cells #[.string ⟨#[]⟩, .int .i64 0, .slice none 0 0, .slice none 0 0, .int .i64 0] 36)) = W1 at *
   refine (CV.out W1).mono ?_
   rintro e w2 ⟨rfl, hb2⟩
   have HN9 := hdn (pub_noT HF.out)
   have hA2 := (Below.refl w2.heap.size w2).alloc (Nat.le_refl _) (.cells #[.int .i64 0, .int .i64 0, .slice none 0 0, .slice none 0 0] 70)
   have B2 := hdn ((B1.out.below hb2).below hA2)
   have HK2 := hdn (row_lt (B1.out.below hb2).o)
   clear hb2 hA2 CV B1 K1 k0 k1 k2 k3 k4
   obtain ⟨r0, r1⟩ := cells2 B2.out.o
   have f0 := fun i => frozen_of_row _ _ i _ _ B2.out.o
   go_wp2
   refine bodyPost_ret (v := .tuple #[.agg #[.slice none 0 0, .slice none 0 0], .int .i64 0, .bool false]) (by simp [results, Tryz.results19, go_sem, r0, r1]) rfl (.inr ⟨HN9.out, rfl, ?_⟩)
   repeat (first | with_reducible exact B2.out.b | refine Below.setCell ?_ (by simp <;> omega) _)
end Go.Proofs.YtehfjfmfpdgibaaGreatDoor
