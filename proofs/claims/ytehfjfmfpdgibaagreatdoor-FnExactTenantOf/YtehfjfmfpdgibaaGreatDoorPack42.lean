import Derived.Test.YtehfjfmfpdgibaaGreatDoorPack15
import Derived.Test.YtehfjfmfpdgibaaGreatDoorPack24
import Derived.Test.YtehfjfmfpdgibaaGreatDoorPack37
import Derived.Test.YtehfjfmfpdgibaaGreatDoorImplPub
import Derived.Test.YtehfjfmfpdgibaaGreatDoorStoreMark
namespace Go.Proofs.YtehfjfmfpdgibaaGreatDoor
open Go.RowKit
theorem findT_plain (T : List TN) (q : ByteArray) : findT (T.map TN.plain) q = (findT T q).map TN.plain := find_map9 _ _ T
theorem tenT_move {S T : List TN} {q : ByteArray} (hp : S.map TN.plain = T.map TN.plain) : (tenT S q).map TN.plain = (tenT T q).map TN.plain := by
 unfold tenT
 rw [storeB_same hp]
 cases storeB T
 · rfl
 · show (findT S q).map TN.plain = (findT T q).map TN.plain
   rw [<- findT_plain, <- findT_plain, hp]
theorem sum_one {α : Type} (f : α -> Nat) : ∀ l : List α, sumF9 (fun x => f x + 1) l = sumF9 f l + l.length
 | [] => rfl
 | x :: l => by
   have ih := sum_one f l
   unfold sumF9 at ih ⊢
   rw [List.map_cons, List.sum_cons, List.map_cons, List.sum_cons, ih, List.length_cons]
   omega
theorem sum_le {α : Type} {f g : α -> Nat} (h : ∀ x, f x <= g x) : ∀ l : List α, sumF9 f l <= sumF9 g l
 | [] => Nat.le_refl _
 | x :: l => by
   have ih := sum_le h l
   unfold sumF9 at ih ⊢
   rw [List.map_cons, List.sum_cons, List.map_cons, List.sum_cons]
   have := h x
   omega
theorem sum_uR (R : List RT) : sumF9 uR R = (allTo R R.length).length + R.length := by
 have h1 : sumF9 uR R = sumF9 (fun r : RT => r.ids.length) R + R.length := sum_one _ R
 rw [h1]
 unfold allTo
 rw [List.take_length, List.length_flatMap]
 rfl
theorem uV_is (v : VN) : uV v = useV v + 1 := by
 unfold uV useV
 rw [sum_uR]
 omega
theorem uT_le (t : TN) : uT t <= useT t + 1 := by
 have h1 : sumF9 uS t.S = sumF9 useS t.S + t.S.length := sum_one useS t.S
 have h2 : sumF9 uV t.V = sumF9 useV t.V + t.V.length := by
  have e : uV = fun v => useV v + 1 := funext uV_is
  rw [e]
  exact sum_one useV t.V
 unfold uT useT useSs useVs
 omega
theorem sumT_le (T : List TN) : sumF9 uT T <= useTs T := by
 have h1 := sum_le uT_le T
 have h2 := sum_one useT T
 unfold useTs
 omega
theorem sum_plain {α : Type} {f : α -> Nat} {p : α -> α} (h : ∀ x, f (p x) = f x) (l : List α) : sumF9 f (l.map p) = sumF9 f l := by
 unfold sumF9
 rw [List.map_map]
 exact congrArg List.sum (List.map_congr_left fun x _ => h x)
theorem uT_plain (t : TN) : uT t.plain = uT t := by
 have h2 : ∀ v : VN, uV v.plain = uV v := fun v => by
  show sumF9 uR (v.R.map RT.plain) + v.L.length + 1 = _
  rw [sum_plain (f := uR) (p := RT.plain) (fun _ => rfl)]
  rfl
 show sumF9 uS (t.S.map SN.plain) + sumF9 uV (t.V.map VN.plain) + 1 = _
 rw [sum_plain (f := uS) (p := SN.plain) (fun _ => rfl), sum_plain h2]
 rfl
theorem store_use {S T : List TN} (hp : S.map TN.plain = T.map TN.plain) (h : (useTs T : Int) <= 1048576) : sumF9 uT S <= 4000000 /\ ∀ x ∈ S, sumF9 uS x.S <= 4000000 /\ sumF9 uV x.V <= 4000000 /\ ∀ v ∈ x.V, sumF9 uR v.R <= 4000000 := by
 have h1 : sumF9 uT S <= 4000000 := by
  rw [<- sum_plain uT_plain S, hp, sum_plain uT_plain T]
  have := sumT_le T
  omega
 refine ⟨h1, fun x hx => ?_⟩
 have h2 := sumF9_mem uT S x hx
 have h3 : uT x = sumF9 uS x.S + sumF9 uV x.V + 1 := rfl
 refine ⟨by omega, by omega, fun v hv => ?_⟩
 have h4 := sumF9_mem uV x.V v hv
 have h5 : uV v = sumF9 uR v.R + v.L.length + 1 := rfl
 omega
noncomputable def aT (T : List TN) (q : ByteArray) : TN := ((tenT T q).map TN.plain).getD tn0
noncomputable def aB (T : List TN) (q : ByteArray) : Bool := ((tenT T q).map TN.plain).isSome
theorem tsml_of {x t : TN} (h : tenB x = true) (hp : t.plain = x.plain) : TSml t := by
 obtain ⟨_, _, hs, hv, _⟩ := tenB_true h
 have h1 : t.V.map VN.plain = x.V.map VN.plain := (congrArg TN.V hp :)
 have h2 : t.S.map SN.plain = x.S.map SN.plain := (congrArg TN.S hp :)
 have l1 := map_len h1
 have l2 := map_len h2
 have h3 := vers_true hv
 have h4 := snaps_true hs
 refine ⟨by omega, by omega, fun s hs => ?_, fun v hv => ?_⟩
 · obtain ⟨s0, hs0, e⟩ := mem_plain h2 hs
   have hc : s.c = s0.c := (congrArg SN.c e :)
   have hok := h4.2 s0 hs0
   rw [hc]
   have hok2 : caseB s0.c.n s0.c.zs s0.c.os s0.c.vs s0.c.ko s0.c.kv s0.c.f = true := hok
   obtain ⟨m1, m2, m3, _⟩ := caseB_four hok2
   obtain ⟨a1, a2, a3, _⟩ := matB_true m1
   have b1 := (ordsB_true m2).1
   have b2 := (vehsB_true m3).1
   have b3 : s0.c.n * s0.c.n <= 16 * 16 := Int.mul_le_mul a2 a2 (by omega) (by omega)
   exact ⟨by omega, by omega, by omega⟩
 · obtain ⟨v0, hv0, e⟩ := mem_plain h1 hv
   obtain ⟨s, _, hpl⟩ := h3.2 v0 hv0
   obtain ⟨c1, c2, c3⟩ := pub_lens hpl e.symm
   exact ⟨c1, fun r hr => by have := (c2 r hr).2; omega, by omega⟩
def TenX (X : TN) (B : Bool) (w : World) (e : Ending) (w' : World) : Prop := ∃ t : TN, e = .returned (.tuple #[.agg #[.string (txt t.nm), .int .i64 t.nx, .slice t.sa t.S.length t.sc, .slice t.va t.V.length t.vc, .int .i64 t.pub], .bool B]) /\ t.plain = X /\ Below w.heap.size w w' /\ TNO w' (w.heap.size + 2) t /\ TNOk 1048576 t
def TenXI (X : TN) (B : Bool) (w : World) (e : Ending) (w' : World) : Prop := ∃ t : TN, e = .returned (.tuple #[.agg #[.string (txt t.nm), .int .i64 t.nx, .slice t.sa t.S.length t.sc, .slice t.va t.V.length t.vc, .int .i64 t.pub], .bool B]) /\ t.plain = X /\ Below w.heap.size w w' /\ TNO w' (w.heap.size + 2) t /\ TNOk 1048576 t /\ TSml t /\ ∀ v ∈ t.V, Apt v.R v.la
theorem tno_nil (w : World) (base : Nat) : TNO w base tn0 := ⟨SO.nil _ _, base, Nat.le_refl _, VO.nil _ _, fun _ h => by simp [tn0] at h, fun _ h => by simp [tn0] at h⟩
theorem tn0_ok : TNOk 1048576 tn0 := ⟨by simp [tn0], by simp [tn0], by simp [tn0], fun _ h => by simp [tn0] at h, fun _ h => by simp [tn0] at h⟩
theorem TenOut.uni {S T : List TN} {q : ByteArray} {w w' : World} {e : Ending} (hp : S.map TN.plain = T.map TN.plain) (hok : ∀ t ∈ S, TNOk 1048576 t) (h : TenOut S q w e w') : TenX (aT T q) (aB T q) w e w' := by
 unfold aT aB
 rw [<- tenT_move (q := q) hp]
 rcases h with ⟨x, t, hf, hm, rfl, hpl, hb, hO⟩ | ⟨hf, rfl, hb⟩
 · rw [hf]
   exact ⟨t, rfl, hpl, hb, hO, (hok x hm).plain hpl⟩
 · rw [hf]
   exact ⟨tn0, rfl, rfl, hb, tno_nil _ _, tn0_ok⟩
theorem TenOutI.uni {S T : List TN} {q : ByteArray} {w w' : World} {e : Ending} (hp : S.map TN.plain = T.map TN.plain) (hok : ∀ t ∈ S, TNOk 1048576 t) (h : TenOutI S q w e w') : TenXI (aT T q) (aB T q) w e w' := by
 unfold aT aB
 rw [<- tenT_move (q := q) hp]
 rcases h with ⟨x, t, hf, hm, rfl, hpl, hb, hO, hap⟩ | ⟨hf, rfl, hb⟩
 · have hB := tenT_true hf hm
   rw [hf]
   exact ⟨t, rfl, hpl, hb, hO, (hok x hm).plain hpl, tsml_of hB hpl, hap⟩
 · rw [hf]
   exact ⟨tn0, rfl, rfl, hb, tno_nil _ _, tn0_ok, ⟨by simp [tn0], by simp [tn0], fun _ h => by simp [tn0] at h, fun _ h => by simp [tn0] at h⟩, fun _ h => by simp [tn0] at h⟩
structure TQ (W : World) (k base : Nat) (t : TN) : Prop where
 b : W.heap[k]? = some (.cells #[.string (txt t.nm), .int .i64 t.nx, .slice t.sa t.S.length t.sc, .slice t.va t.V.length t.vc, .int .i64 t.pub] 36 (0, 0))
 p : TNO W base t
theorem TQ.below {W W' : World} {k base : Nat} {t : TN} (h : TQ W k base t) (hb : Below W.heap.size W W') : TQ W' k base t := ⟨below_row hb (row_lt h.b) h.b, h.p.below hb⟩
theorem TQ.but {C : Nat -> Prop} {W W' : World} {k base : Nat} {t : TN} (h : TQ W k base t) (hG : GrownBut C W W') (hs : ∀ b, C b -> b < base) (hk : ¬ C k) : TQ W' k base t := ⟨hG.row h.b hk, h.p.but hG hs⟩
theorem TQ.new {W : World} {base : Nat} {t : TN} (h : TNO W base t) : TQ (W.alloc (.cells #[.string (txt t.nm), .int .i64 t.nx, .slice t.sa t.S.length t.sc, .slice t.va t.V.length t.vc, .int .i64 t.pub] 36)) W.heap.size base t := ⟨heap_alloc_new _ _, h.below ((Below.refl _ _).alloc (Nat.le_refl _) _)⟩
theorem B1x.butT {T : TypeId} {w W W' : World} {src : Array Value} {C : Nat -> Prop} (h : B1x T w W src) (hG : GrownBut C W W') (hs : ∀ b, C b -> w.heap.size < b) : B1x T w W' src := ⟨h.b.trans (hG.below h.b.size (fun b hb => Nat.le_of_lt (hs b hb))), hG.row h.s (fun hb => Nat.lt_irrefl _ (hs _ hb))⟩
theorem las_ofT {lo : Nat} {W : World} {a : Option Addr} {S : List TN} (h : TensB lo W a S) : LasT S := fun t ht v hv => by
 obtain ⟨g, e, _⟩ := ((h.2 t ht).m.vs v hv).l
 exact ⟨g, 0, e⟩
set_option maxRecDepth 20000 in
set_option maxHeartbeats 8000000 in
theorem lawTen (a : Option Addr) (c : Nat) (T : List TN) (q : ByteArray) (w : World) (hA : TensAt w a T) (hn : T.length <= 9223372036854775807) (hok : ∀ t ∈ T, TNOk 9223372036854775807 t) (hG : GS w) (hG3 : GSx 0 w) :
 Calls Tryz.prog 4 #[.agg #[.slice a T.length c], .string q] w fun e w' => e = .returned (.bool true) /\ Below w.heap.size w w' := by
 have HA := hdn hA
 have HG := hdn hG
 have HG3 := hdn hG3
 have CZ := hdn (fun W (h : TensAt W a T) => szStore_any a c T 1048576 W h (by omega) (by omega) hn hok)
 have HSM : Hid ((useTs T : Int) <= 1048576 -> T.length <= 1048576 /\ (∀ t ∈ T, TNOk 1048576 t) /\ ∀ t ∈ T, t.small) := szW_small hn hok
 clear hA hok hG hG3
 obtain ⟨x, HX⟩ := nmd (szW 1048576 (useTs T))
 have HXN : Hid (1048576 < (useTs T : Int) -> x = -1) := fun h => HX.out.symm.trans (szW_lt (by omega))
 have HXY : Hid ((useTs T : Int) <= 1048576 -> 0 <= x) := fun h => by have := HX.out.symm.trans (szW_le h); omega
 rw [HX.out] at CZ
 obtain ⟨n, HN⟩ := nmd T.length
 rw [HN.out] at CZ HSM ⊢
 clear hn HX
 have B0 := hdn (B1x.new 24 w #[.slice a n c])
 have q0 := cell1x B0.out.s
 by_cases hq : (1048576 : Int) < (q.size : Int)
 · go_enter Tryz.func4, Tryz.ntmps4
   go_wp2
   go_ret
   exact ⟨rfl, B0.out.b⟩
 go_enter Tryz.func4, Tryz.ntmps4
 go_wp2_with fail
 clear q0
 refine (CZ.out _ (HA.out.below B0.out.b)).mono ?_
 rintro e w1 ⟨rfl, hb⟩
 have B1 := hdn (B0.out.below hb)
 clear hb B0 CZ hq
 by_cases hx : (useTs T : Int) <= 1048576
 · have hx0 := HXY.out hx
   have hxn : ¬ (x < 0) := by omega
   obtain ⟨hs1, hs2, hs3⟩ := HSM.out hx
   have HOK := hdn hs2
   have HUSE := hdn (fun (S : List TN) (hp : S.map TN.plain = T.map TN.plain) => store_use hp hx)
   have CT := hdn (fun W (h : TensAt W a T) => toStore_any a c T W h (by rw [HN.out]; exact hs1) hs2)
   have HCP := hdn (fun (S : List TN) (hp : S.map TN.plain = T.map TN.plain) (hr : ∀ s ∈ S, TN.room s) => TSm.copy (by rw [HN.out]; exact hs1) hs2 hs3 hp hr)
   have HLN : Hid (∀ S : List TN, S.map TN.plain = T.map TN.plain -> S.length = n) := fun S h => (map_len h).trans HN.out
   have CSp : Hid (∀ (g : Nat) (S : List TN) W, TensAt W (some ⟨g, 0, none⟩) S -> TSm S -> LasT S -> S.map TN.plain = T.map TN.plain -> Calls Tryz.prog 13 #[.agg #[.slice (some ⟨g, 0, none⟩) n n], .string q] W (TenX (aT T q) (aB T q) W)) := fun g S W h1 h2 h3 h4 => by
    have := specTenantOf_any (some ⟨g, 0, none⟩) n S q W h1 h2 h3
    rw [HLN.out S h4] at this
    exact this.mono fun e w' h => h.uni h4 h2.ok
   have CIm : Hid (∀ (g : Nat) (S : List TN) W, TensAt W (some ⟨g, 0, none⟩) S -> TSm S -> LasT S -> S.map TN.plain = T.map TN.plain -> Below w.heap.size w W -> Calls Tryz.prog 14 #[.agg #[.slice (some ⟨g, 0, none⟩) n n], .string q] W (TenXI (aT T q) (aB T q) W)) := fun g S W h1 h2 h3 h4 h5 => by
    have := implTenantOf_any (some ⟨g, 0, none⟩) n S q W h1 h2 h3 (HG.out.below h5 (Nat.le_refl _)) (HG3.out.below h5 (Nat.le_refl _))
    rw [HLN.out S h4] at this
    exact this.mono fun e w' h => h.uni h4 h2.ok
   obtain ⟨XT, HXT⟩ := nmd (aT T q)
   obtain ⟨PB, HPB⟩ := nmd (aB T q)
   rw [HXT.out, HPB.out] at CSp CIm
   rw [HN.out] at CT
   clear hs2 hs3 hx HXN HXY HSM HXT HPB HG HG3
   have q0 := cell1x B1.out.s
   go_wp2_with fail
   clear q0
   refine (CT.out _ (HA.out.below B1.out.b)).mono ?_
   rintro e w2 ⟨g2, S2, rfl, ⟨hp2, hr2⟩, hb, hk⟩
   have B2 := hdn (B1.out.below hb)
   have K2 := hdn hk.now.1.1
   have L2 := hdn (las_ofT hk.now)
   have T2 := hdn (HCP.out S2 hp2 hr2)
   have P2 := hdn hp2
   clear hb hk B1 hp2 hr2
   go_wp2_with fail
   refine (CSp.out g2 S2 w2 K2.out T2.out L2.out P2.out).mono ?_
   rintro e w3 ⟨tx, rfl, hkx, hb, hpo, hxo⟩
   have A3 := (Below.refl w3.heap.size w3).alloc (Nat.le_refl _) (.cells #[.string (txt tx.nm), .int .i64 tx.nx, .slice tx.sa tx.S.length tx.sc, .slice tx.va tx.V.length tx.vc, .int .i64 tx.pub] 36)
   have B3 := hdn ((B2.out.below hb).below A3)
   have X3 := hdn (TQ.new hpo)
   have HKX := hdn hkx
   clear hb hkx hpo hxo A3 B2 K2 L2 T2 P2 CSp
   have q0 := cell1x B3.out.s
   obtain ⟨x0, x1, x2, x3, x4⟩ := cells5 X3.out.b
   go_wp2_with fail
   clear q0 x0 x1 x2 x3 x4
   generalize w3.alloc (.cells #[.string (txt tx.nm), .int .i64 tx.nx, .slice tx.sa tx.S.length tx.sc, .slice tx.va tx.V.length tx.vc, .int .i64 tx.pub] 36) = W3 at *
   generalize w3.heap.size = kw at *
   have HW3 := hdn (row_lt B3.out.s)
   refine (CT.out _ (HA.out.below B3.out.b)).mono ?_
   rintro e w4 ⟨g4, S4, rfl, ⟨hp4, hr4⟩, hb, hk⟩
   have A4 : Hid (Below w4.heap.size w4 (w4.alloc (.cells #[.slice (some ⟨g4, 0, none⟩) n n] 29))) := (Below.refl _ _).alloc (Nat.le_refl _) _
   have D4 : Hid (Below W3.heap.size W3 (w4.alloc (.cells #[.slice (some ⟨g4, 0, none⟩) n n] 29))) := hb.trans (A4.out.mono hb.size)
   have B4 := hdn (B3.out.below D4.out)
   have K4 := hdn (hk.now.1.1.below A4.out)
   have L4 := hdn (las_ofT hk.now)
   have T4 := hdn (HCP.out S4 hp4 hr4)
   have P4 := hdn hp4
   have HLO := hdn (show W3.heap.size <= w4.heap.size from hb.size)
   have Y4 : Hid ((w4.alloc (.cells #[.slice (some ⟨g4, 0, none⟩) n n] 29)).heap[w4.heap.size]? = some (.cells #[.slice (some ⟨g4, 0, none⟩) n n] 29 (0, 0))) := heap_alloc_new _ _
   have I4 := hdn hk.now.1.2
   have M4 := hdn (fun x hx => (hk.now.2 x hx).m)
   have HMK : Hid (∀ W, Below w4.heap.size w4 W -> Calls Tryz.prog 16 #[.agg #[.slice (some ⟨g4, 0, none⟩) n n], .int .i64 1] W fun e w' => ∃ k', e = .returned (.int .i64 k') /\ 1 <= k' /\ MK W3.heap.size w4.heap.size W w') := fun W h => by
    obtain ⟨h1, h2⟩ := HUSE.out S4 P4.out
    have := markStore_mk W3.heap.size w4.heap.size (some ⟨g4, 0, none⟩) n S4 W (I4.out.mk (MK.below h)) (fun x hx => (M4.out x hx).keep (MK.below h)) (fun x hx => ⟨T4.out.ok x hx, h2 x hx⟩) T4.out.n h1
    rw [HLN.out S4 P4.out] at this
    exact this
   clear hb hk B3 hp4 hr4
   have y0 := cell1x Y4.out
   go_wp2_with fail
   clear y0
   have A4m := hdn (A4.out)
   generalize w4.alloc (.cells #[.slice (some ⟨g4, 0, none⟩) n n] 29) = W4 at *
   refine (CIm.out g4 S4 W4 K4.out T4.out L4.out P4.out B4.out.b).mono ?_
   rintro e w5 ⟨tg, rfl, hkg, hb, hpo, hgo, hgs, hap⟩
   have A5 := (Below.refl w5.heap.size w5).alloc (Nat.le_refl _) (.cells #[.string (txt tg.nm), .int .i64 tg.nx, .slice tg.sa tg.S.length tg.sc, .slice tg.va tg.V.length tg.vc, .int .i64 tg.pub] 36)
   have F5 := hb.trans (A5.mono hb.size)
   have B5 := hdn (B4.out.below F5)
   have D5 := hdn (D4.out.trans (F5.mono D4.out.size))
   have E5 := hdn (A4m.out.trans (F5.mono A4m.out.size))
   have K5 := hdn (K4.out.below F5)
   have Y5 := hdn (below_row F5 (row_lt Y4.out) Y4.out)
   have G5 := hdn (TQ.new hpo)
   have HTP := hdn hpo.topsX
   have HKG := hdn hkg
   have HGO := hdn hgo
   have HGS := hdn hgs
   have HAP := hdn hap
   have HZ1 : Hid (w4.heap.size < W4.heap.size /\ W4.heap.size <= w5.heap.size) := ⟨row_lt Y4.out, hb.size⟩
   clear hb hkg hpo hgo hgs hap A5 F5 B4 D4 K4 Y4 L4 A4 A4m
   obtain ⟨x0, x1, x2, x3, x4⟩ := cells5 (X3.out.below D5.out).b
   obtain ⟨y0, y1, y2, y3, y4⟩ := cells5 G5.out.b
   have hbb : (PB != PB) = false := by simp
   go_wp2_with fail
   clear x0 x1 x2 x3 x4 y0 y1 y2 y3 y4
   generalize w5.alloc (.cells #[.string (txt tg.nm), .int .i64 tg.nx, .slice tg.sa tg.S.length tg.sc, .slice tg.va tg.V.length tg.vc, .int .i64 tg.pub] 36) = W5 at *
   generalize w5.heap.size = kg at *
   have EQP : Hid (∀ (t : TN) W, TNAt W t -> t.plain = XT -> TNOk 1048576 t -> Below W3.heap.size W3 W -> Calls Tryz.prog 15 #[.agg #[.string (txt t.nm), .int .i64 t.nx, .slice t.sa t.S.length t.sc, .slice t.va t.V.length t.vc, .int .i64 t.pub], .agg #[.string (txt tx.nm), .int .i64 tx.nx, .slice tx.sa tx.S.length tx.sc, .slice tx.va tx.V.length tx.vc, .int .i64 tx.pub]] W fun e w' => e = .returned (.bool true) /\ Below W.heap.size W w') := fun t W h1 h2 h3 h4 => eqTenant_same t tx W h1 (X3.out.below h4).p.at (HKX.out.trans h2.symm) h3
   refine (EQP.out tg W5 G5.out.p.at HKG.out HGO.out D5.out).mono ?_
   rintro e w6 ⟨rfl, hb⟩
   have B6 := hdn (B5.out.below hb)
   have D6 := hdn (D5.out.trans (hb.mono D5.out.size))
   have E6 := hdn (E5.out.trans (hb.mono E5.out.size))
   have K6 := hdn (K5.out.below hb)
   have Y6 := hdn (below_row hb (row_lt Y5.out) Y5.out)
   have G6 := hdn (G5.out.below hb)
   clear hb B5 D5 E5 K5 Y5 G5
   have q0 := cell1x B6.out.s
   have y0 := cell1x Y6.out
   have kS := And.intro q0 y0
   have EQ : Hid (∀ (g6 : Nat) (S6 : List TN) W, Below w6.heap.size w6 W -> S6.map TN.plain = T.map TN.plain -> TensAt W (some ⟨g6, 0, none⟩) S6 -> Calls Tryz.prog 12 #[.agg #[.slice (some ⟨g4, 0, none⟩) n n], .agg #[.slice (some ⟨g6, 0, none⟩) n n]] W fun e w' => e = .returned (.bool true) /\ Below W.heap.size W w') := fun g6 S6 W hb hp6 hk6 => by
    have := eqStore_same (some ⟨g4, 0, none⟩) (some ⟨g6, 0, none⟩) n n S4 S6 W (K6.out.below hb) hk6 (hp6.trans P4.out.symm) (by rw [HLN.out S4 P4.out]; exact hs1) (fun s hs => by obtain ⟨t, ht, e⟩ := mem_plain P4.out hs; exact (HOK.out t ht).plain e)
    rw [HLN.out S4 P4.out] at this
    exact this
   go_wp2_with fail
   go_region_held3 (fun W => W.cell? ⟨w.heap.size, 0, none⟩ = some (.slice a n c) /\ W.cell? ⟨w4.heap.size, 0, none⟩ = some (.slice (some ⟨g4, 0, none⟩) n n)) (first | with_reducible exact kS | go_keep) ((first
    | (go_at_call 10
       with_reducible refine (CT.out w6.drew (HA.out.below B6.out.b.drew)).mono ?_
       rintro e w7 ⟨g6, S6, rfl, ⟨hp6, hr6⟩, hb, hk⟩
       have Q7 : Hid (Below w6.heap.size w6 w7) := (Below.refl _ _).drew.trans (show Below w6.heap.size w6.drew w7 from hb)
       have K7 := hdn hk.now.1.1
       have P7 := hdn hp6
       have kS := And.intro (keepC q0 Q7.out) (keepC y0 Q7.out)
       clear hb hk hp6 hr6)
    | (go_at_call 12
       with_reducible refine (EQ.out g6 S6 w7 Q7.out P7.out K7.out).mono ?_
       rintro e w8 ⟨rfl, hb⟩
       have Q8 : Hid (Below w6.heap.size w6 w8) := Q7.out.trans (hb.mono Q7.out.size)
       have kS := And.intro (keepC q0 Q8.out) (keepC y0 Q8.out)
       clear hb)))
   all_goals
    have B8 := hdn (B6.out.below Q8.out)
    have D8 := hdn (D6.out.trans (Q8.out.mono D6.out.size))
    have E8 := hdn (E6.out.trans (Q8.out.mono E6.out.size))
    have Y8 := hdn (below_row Q8.out (row_lt Y6.out) Y6.out)
    have G8 := hdn (G6.out.below Q8.out)
    clear kS q0 y0 EQ K6 B6 D6 E6 Y6 G6 K7 P7 Q7 Q8
    have y0 := cell1x Y8.out
    go_wp2_with fail
    clear y0
    refine (HMK.out w8 E8.out).mono ?_
    rintro e w9 ⟨k9, rfl, hk9, hmk⟩
    have hG9 := hmk.1
    have B9 := hdn (B8.out.butT hG9 (fun b hb => by have := HW3.out; omega))
    have D9 := hdn (D8.out.trans (hG9.below D8.out.size (fun b hb => hb.1)))
    have G9 := hdn (G8.out.but hG9 (fun b hb => by have := HZ1.out; omega) (fun hb => by have := HZ1.out; omega))
    have hk0 : ¬ (k9 < 0) := by omega
    clear hG9 hmk hk9 B8 D8 E8 G8 Y8 HMK
    obtain ⟨x0, x1, x2, x3, x4⟩ := cells5 (X3.out.below D9.out).b
    obtain ⟨y0, y1, y2, y3, y4⟩ := cells5 G9.out.b
    go_wp2_with fail
    clear x0 x1 x2 x3 x4 y0 y1 y2 y3 y4
    refine (EQP.out tg w9 G9.out.p.at HKG.out HGO.out D9.out).mono ?_
    rintro e w10 ⟨rfl, hb⟩
    have B10 := hdn (B9.out.below hb)
    have D10 := hdn (D9.out.trans (hb.mono D9.out.size))
    have G10 := hdn (G9.out.below hb)
    clear hb B9 D9 G9
    obtain ⟨y0, y1, y2, y3, y4⟩ := cells5 G10.out.b
    go_wp2_with fail
    clear y0 y1 y2 y3 y4 hk0
    have MKP := markTenant_own tg (W4.heap.size + 2) w10 G10.out.p HGS.out HAP.out (fun b => W4.heap.size + 2 <= b /\ b < kg) HTP.out
    have hk1 := knSs_bd tg.S 1 HGS.out.ss
    have hk2 := knVs_ge tg.V (knSs tg.S 1) (fun v hv => (HGS.out.vs v hv).2.1)
    obtain ⟨K, HKK⟩ := nmd (knVs tg.V (knSs tg.S 1))
    have hmk : 0 <= K := by rw [<- HKK.out]; omega
    rw [HKK.out] at MKP
    clear hk1 hk2
    refine MKP.mono ?_
    rintro e w11 ⟨rfl, hg, hp⟩
    have B11 := hdn (B10.out.butT hg (fun b hb => by have := HZ1.out; have := HLO.out; have := HW3.out; omega))
    have D11 := hdn (D10.out.trans (hg.below D10.out.size (fun b hb => by have := HZ1.out; have := HLO.out; omega)))
    have Z11 := hdn (hg.row G10.out.b (fun hb => by omega))
    have M11 := hdn hp
    have CH : Hid (∀ W, TMk W (W4.heap.size + 2) tg -> Calls Tryz.prog 18 #[.agg #[.string (txt tg.nm), .int .i64 tg.nx, .slice tg.sa tg.S.length tg.sc, .slice tg.va tg.V.length tg.vc, .int .i64 tg.pub], .int .i64 1] W fun e w' => e = .returned (.int .i64 K) /\ Below W.heap.size W w') := fun W h => by
     have := heldTenant_own tg (W4.heap.size + 2) W h HGS.out
     rw [HKK.out] at this
     exact this
    clear hg hp MKP B10 D10 G10 HTP HAP
    have hM0 : ¬ (K < 0) := by omega
    clear hmk
    obtain ⟨y0, y1, y2, y3, y4⟩ := cells5 Z11.out
    go_wp2_with fail
    clear y0 y1 y2 y3 y4
    refine (CH.out w11 M11.out).mono ?_
    rintro e w12 ⟨rfl, hb⟩
    have B12 := hdn (B11.out.below hb)
    have D12 := hdn (D11.out.trans (hb.mono D11.out.size))
    have Z12 := hdn (below_row hb (row_lt Z11.out) Z11.out)
    have M12 := hdn (M11.out.below hb)
    clear hb B11 D11 Z11 M11
    have q0 := cell1x B12.out.s
    go_wp2_with fail
    clear q0
    refine (CT.out _ (HA.out.below B12.out.b)).mono ?_
    rintro e w13 ⟨g13, S13, rfl, ⟨hp13, hr13⟩, hb, hk⟩
    have B13 := hdn (B12.out.below hb)
    have D13 := hdn (D12.out.trans (hb.mono D12.out.size))
    have Z13 := hdn (below_row hb (row_lt Z12.out) Z12.out)
    have M13 := hdn (M12.out.below hb)
    have K13 := hdn hk.now.1.1
    have L13 := hdn (las_ofT hk.now)
    have T13 := hdn (HCP.out S13 hp13 hr13)
    have P13 := hdn hp13
    clear hb hk hp13 hr13 B12 D12 Z12 M12
    go_wp2_with fail
    refine (CIm.out g13 S13 w13 K13.out T13.out L13.out P13.out B13.out.b).mono ?_
    rintro e w14 ⟨th, rfl, hkh, hb, hpo, hho, -, -⟩
    have A14 := (Below.refl w14.heap.size w14).alloc (Nat.le_refl _) (.cells #[.string (txt th.nm), .int .i64 th.nx, .slice th.sa th.S.length th.sc, .slice th.va th.V.length th.vc, .int .i64 th.pub] 36)
    have F14 := hb.trans (A14.mono hb.size)
    have B14 := hdn (B13.out.below F14)
    have D14 := hdn (D13.out.trans (F14.mono D13.out.size))
    have Z14 := hdn (below_row F14 (row_lt Z13.out) Z13.out)
    have M14 := hdn (M13.out.below F14)
    have H14 := hdn (TQ.new hpo)
    have HKH := hdn hkh
    have HHO := hdn hho
    clear hb hkh hpo hho A14 F14 B13 D13 Z13 M13 K13 L13 T13 P13
    obtain ⟨x0, x1, x2, x3, x4⟩ := cells5 (X3.out.below D14.out).b
    obtain ⟨y0, y1, y2, y3, y4⟩ := cells5 H14.out.b
    go_wp2_with fail
    clear x0 x1 x2 x3 x4 y0 y1 y2 y3 y4
    generalize w14.alloc (.cells #[.string (txt th.nm), .int .i64 th.nx, .slice th.sa th.S.length th.sc, .slice th.va th.V.length th.vc, .int .i64 th.pub] 36) = W14 at *
    generalize w14.heap.size = kh at *
    refine (EQP.out th W14 H14.out.p.at HKH.out HHO.out D14.out).mono ?_
    rintro e w15 ⟨rfl, hb⟩
    have B15 := hdn (B14.out.below hb)
    have Z15 := hdn (below_row hb (row_lt Z14.out) Z14.out)
    have M15 := hdn (M14.out.below hb)
    clear hb B14 D14 Z14 M14 H14
    obtain ⟨y0, y1, y2, y3, y4⟩ := cells5 Z15.out
    go_wp2_with fail
    clear y0 y1 y2 y3 y4
    refine (CH.out w15 M15.out).mono ?_
    rintro e w16 ⟨rfl, hb⟩
    have B16 := hdn (B15.out.below hb)
    clear hb B15 Z15 M15
    have hMM : (K != K) = false := by simp
    go_wp2
    go_ret
    exact ⟨rfl, B16.out.b⟩
 · have hr := HXN.out (by omega)
   subst hr
   go_wp2
   go_ret
   exact ⟨rfl, B1.out.b⟩
end Go.Proofs.YtehfjfmfpdgibaaGreatDoor
