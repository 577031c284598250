import Derived.Test.YtehfjfmfpdgibaaGreatDoorPack1
import Derived.Test.YtehfjfmfpdgibaaGreatDoorPack3
import Derived.Test.YtehfjfmfpdgibaaGreatDoorBuildBytes
import Derived.Test.YtehfjfmfpdgibaaGreatDoorFmtLay
import Derived.Lib.LaidTab
namespace Go.Proofs.YtehfjfmfpdgibaaGreatDoor
open Go.RowKit
def PW (w : World) : Prop := Lib.TabIs Tryz.prog w "internal/strconv.uint64pow10" .u64 Lib.pow10Tab
theorem PW.below {w w' : World} {B : Nat} (h : PW w) (hb : Below B w w') (hB : w.heap.size <= B) : PW w' := by
 unfold PW Lib.TabIs World.var? at *
 cases hg : Tryz.prog.globalNamed "internal/strconv.uint64pow10" with
 | none => simp [hg] at h
 | some g =>
   simp only [hg, Option.bind_some] at h ⊢
   cases ho : w.heap[g]? with
   | none => simp [ho] at h
   | some o =>
     rw [below_row hb (Nat.lt_of_lt_of_le (row_lt ho) hB) ho]
     rw [ho] at h
     exact h
theorem BU.below {B b : Nat} {l : List UInt8} {w w' : World} (h : BU B b l w) (hb : Below w.heap.size w w') : BU B b l w' := by
 have key : ∀ p, Lib.BuilderAtF 99 5 B b p (Lib.byteCells l) w -> Lib.BuilderAtF 99 5 B b p (Lib.byteCells l) w' := fun p h => by
  have hlt := h.lt
  obtain ⟨hB, v, hbk, hown, hne⟩ := h
  refine ⟨hB, v, below_row hb hlt hbk, ⟨hown.1, ?_⟩, hne⟩
  rcases hown.2 with h | ⟨g, cap, cur, fz, hv, hbg, hg, r⟩
  · exact .inl h
  · exact .inr ⟨g, cap, cur, fz, hv, hbg, below_row hb (row_lt hg) hg, r⟩
 exact h.elim (fun x => .inl (key _ x)) (fun x => .inr (key _ x))
theorem Wrt.of_below {B b : Nat} {w w' : World} (hb : Below w.heap.size w w') (hB : B <= w.heap.size) : Wrt B b w w' :=
 ⟨hb.mono hB, fun _ _ hk _ _ => below_row hb (row_lt hk) hk⟩
theorem below_drewN (w : World) (q : Nat) (os : Array Obj) : Below w.heap.size w (Sort.grow (w.drewN q) os) :=
 ⟨rfl, rfl, rfl, by show w.heap.size <= (w.heap ++ os).size; simp, fun i hi => by
   show (w.heap ++ os)[i]? = _
   exact Array.getElem?_append_left hi⟩
theorem BU.new (B : Nat) (w : World) (hB : B <= w.heap.size) : BU B w.heap.size [] (w.alloc (.cells #[.pointer none, .slice none 0 0] 99)) := by
 refine .inl ⟨hB, .slice none 0 0, heap_alloc_new _ _, ⟨by decide, .inl ⟨rfl, rfl⟩⟩, by simp [Value.ownBlock]⟩
theorem BU.lt {B b : Nat} {l : List UInt8} {w : World} (h : BU B b l w) : b < w.heap.size := h.elim (fun x => x.lt) (fun x => x.lt)
set_option maxHeartbeats 2000000 in
set_option maxRecDepth 100000 in
theorem writeLine_any (B b : Nat) (l wd : List UInt8) (a : Option Addr) (cap : Nat) (ns : List Int) (w : World) (hB : BU B b l w) (hBw : B <= w.heap.size) (hA : ∀ W', Wrt B b w W' -> IntsAt W' a ns) (hT : ∀ W', Below B w W' -> PW W') (hs : Small ns) (hn : ns.length <= 1000) (hwd : wd.length <= 1000) (hl : l.length <= 100000000) :
 Calls Tryz.prog 60 #[.pointer (some ⟨b, 0, none⟩), .string (txt wd), .slice a ns.length cap] w fun e w' => e = .returned (.tuple #[]) /\ BU B b (l ++ lineL wd ns) w' /\ Wrt B b w w' := by
 have HA : Hid (∀ W', Wrt B b w W' -> IntsAt W' a ns) := hA
 have HT : Hid (∀ W', Below B w W' -> PW W') := hT
 have HSM : Hid (Small ns) := hs
 have HBW : Hid (B <= w.heap.size) := hBw
 have C0 := writeString_any B b l wd w hB (by omega) (by omega) hBw
 obtain ⟨m, HN⟩ : ∃ m, Hid (ns.length = m) := ⟨_, rfl⟩
 have HX : Hid (l ++ lineL wd ns = l ++ wd ++ numsTo ns m ++ [10]) := by
  show _ = _
  unfold lineL
  rw [<- HN.out]
  simp
 rw [HX.out]
 rw [HN.out] at hn ⊢
 clear hA hT hs hB
 generalize txt wd = t at *
 go_enter Tryz.func60, Tryz.ntmps60
 go_wp2_with fail
 refine C0.mono ?_
 rintro e w1 ⟨rfl, hb1, hk1⟩
 have U1 : Hid (BU B b (l ++ wd) w1) := hb1
 have K1 : Hid (Wrt B b w w1) := hk1
 clear hb1 hk1 C0
 go_wp2_with fail
 go_loopw [13] (fun t wr => ∃ k : Nat, k <= m /\ t = .int .i64 k /\ BU B b (l ++ wd ++ numsTo ns k) wr /\ Wrt B b w wr) (fun t _ => m - (intOf t).toNat)
 case atStart => exact ⟨0, Nat.zero_le _, rfl, by rw [numsTo_zero, List.append_nil]; exact U1.out, K1.out⟩
 case round =>
  clear U1 K1
  obtain ⟨k, hk, rfl, hu, hw⟩ := hrel
  have U1 : Hid (BU B b (l ++ wd ++ numsTo ns k) wr) := hu
  have K1 : Hid (Wrt B b w wr) := hw
  have BS : Hid (B <= wr.heap.size) := Nat.le_trans hBw hw.1.size
  clear hu hw
  have HLEN : Hid ((l ++ wd ++ numsTo ns k).length <= 200000000) := by
   have := numsTo_len ns HSM.out k (by rw [HN.out]; exact hk)
   show _ <= _
   rw [List.length_append, List.length_append]
   omega
  by_cases hlt : k < m
  · have hkl : k < ns.length := by rw [HN.out]; exact hlt
    obtain ⟨b1, off, rfl, hc⟩ := (HA.out wr K1.out) k hkl
    have hm : ns.getD k 0 ∈ ns := by rw [List.getD_eq_getElem?_getD, List.getElem?_eq_getElem hkl]; simp
    have hbd := HSM.out _ hm
    have HSTEP : Hid (l ++ wd ++ numsTo ns (k + 1) = l ++ wd ++ numsTo ns k ++ [32] ++ Lib.itoa (ns.getD k 0)) := by
     show _ = _
     rw [numsTo_succ ns k hkl]
     simp
    obtain ⟨id, HID⟩ : ∃ t, Hid (ns.getD k 0 = t) := ⟨_, rfl⟩
    rw [HID.out] at hc hbd HSTEP
    clear hm hkl
    have HIL : Hid ((Lib.itoa id).length <= 21) := Lib.itoa_length_le id (by omega) (by omega)
    have C1 := writeByte_any B b (l ++ wd ++ numsTo ns k) 32 wr U1.out (by have := HLEN.out; omega) BS.out
    rw [show (((32 : UInt8).toNat : Nat) : Int) = 32 from rfl] at C1
    go_wp2_with fail
    clear hc
    refine C1.mono ?_
    rintro e w2 ⟨rfl, hb2, hk2⟩
    have U2 : Hid (BU B b (l ++ wd ++ numsTo ns k ++ [32]) w2) := hb2
    have K2 : Hid (Wrt B b w w2) := K1.out.trans hk2
    have B2 : Hid (B <= w2.heap.size) := Nat.le_trans BS.out hk2.1.size
    clear hb2 hk2 C1 U1 K1 BS
    have C2 := Tryz.strconv_FormatInt_10 id (by omega) (by omega) w2 (HT.out w2 K2.out.1)
    go_wp2_with fail
    refine C2.mono ?_
    rintro e w3 ⟨rfl, kk, os, hw3⟩
    have hb3 : Below w2.heap.size w2 w3 := by rw [hw3]; exact below_drewN _ _ _
    have U3 : Hid (BU B b (l ++ wd ++ numsTo ns k ++ [32]) w3) := U2.out.below hb3
    have K3 : Hid (Wrt B b w w3) := K2.out.trans (Wrt.of_below hb3 B2.out)
    have B3 : Hid (B <= w3.heap.size) := Nat.le_trans B2.out hb3.size
    clear hb3 hw3 C2 U2 K2 B2
    have C3 := writeString_any B b (l ++ wd ++ numsTo ns k ++ [32]) (Lib.itoa id) w3 U3.out (by have := HLEN.out; rw [List.length_append]; simp only [List.length_cons, List.length_nil]; omega) (by have := HIL.out; omega) B3.out
    rw [<- HSTEP.out] at C3
    change Calls Tryz.prog 61 #[.pointer (some ⟨b, 0, none⟩), .string ⟨(Lib.itoa id).toArray⟩] w3 _ at C3
    generalize (ByteArray.mk (Lib.itoa id).toArray) = tt at *
    go_wp2_with fail
    refine C3.mono ?_
    rintro e w4 ⟨rfl, hb4, hk4⟩
    have U4 : Hid (BU B b (l ++ wd ++ numsTo ns (k + 1)) w4) := hb4
    have K4 : Hid (Wrt B b w w4) := K3.out.trans hk4
    clear hb4 hk4 C3 U3 K3 B3
    go_wp2_with fail
    go_roundw
    case rel => exact ⟨k + 1, by omega, by go_num, U4.out, K4.out⟩
    case measure => simp [intOf]; omega
  · have hkm : k = m := by omega
    subst hkm
    have C1 := writeByte_any B b (l ++ wd ++ numsTo ns k) 10 wr U1.out (by have := HLEN.out; omega) BS.out
    rw [show (((10 : UInt8).toNat : Nat) : Int) = 10 from rfl] at C1
    go_wp2_with fail
    refine C1.mono ?_
    rintro e w2 ⟨rfl, hb2, hk2⟩
    have U2 : Hid (BU B b (l ++ wd ++ numsTo ns k ++ [10]) w2) := hb2
    have K2 : Hid (Wrt B b w w2) := K1.out.trans hk2
    clear hb2 hk2 C1 U1 K1 BS
    go_wp2
    first | refine bodyPost_end (results_none rfl _ _ _) rfl ?_ | refine bodyPost_ret (results_none rfl _ _ _) rfl ?_
    exact ⟨rfl, U2.out, K2.out⟩
theorem Wrt.row {B b k : Nat} {cs : Array Value} {T : TypeId} {fz : Nat × Nat} {w w' : World} (h : Wrt B b w w') (hr : w.heap[k]? = some (.cells cs T fz)) (hk : k ≠ b) (hT : T ≠ 5) : w'.heap[k]? = some (.cells cs T fz) :=
 h.2 k _ hr (fun e => hk (Option.some.inj e)) (fun _ _ e => hT (by injection e))
set_option maxRecDepth 10000 in
set_option maxHeartbeats 4000000 in
theorem implCaseText_cap (n fine : Int) (a ao av : Option Addr) (cap ko co kv cv : Nat) (zs os vs : List Int) (w : World) (hA : IntsAt w a zs) (hO : IntsAt w ao os) (hV : IntsAt w av vs) (hlo : os.length = ko * 6) (hlv : vs.length = kv * 5) (hko : ko <= 9223372036854775807) (hkv : kv <= 9223372036854775807) (hcap : zs.length <= cap) (hT : PW w) :
 Calls Tryz.prog 62 #[.agg #[.int .i64 n, .slice a zs.length cap, .slice ao ko co, .slice av kv cv, .int .i64 fine]] w fun e w' => e = .returned (.string (if caseB n zs os vs ko kv fine = true then txt (caseL n fine zs os vs ko kv) else txt [])) /\ Below w.heap.size w w' := by
 have HPW : Hid (PW w) := hT
 clear hT
 have HA : Hid (IntsAt w a zs) := hA
 have HO : Hid (IntsAt w ao os) := hO
 have HV : Hid (IntsAt w av vs) := hV
 have HLO : Hid _ := hlo
 have HLV : Hid _ := hlv
 have HCAP : Hid (zs.length <= cap) := hcap
 clear hA hO hV hlo hlv hcap
 have C0 : Hid (CB w (w.alloc (.cells #[.int .i64 n, .slice a zs.length cap, .slice ao ko co, .slice av kv cv, .int .i64 fine] 78)) _) := CB.new w _
 obtain ⟨x, HX⟩ : ∃ x, Hid ((if caseB n zs os vs ko kv fine = true then txt (caseL n fine zs os vs ko kv) else txt []) = x) := ⟨_, rfl⟩
 rw [HX.out]
 obtain ⟨c0, c1, c2, c3, c4⟩ := cells5 C0.out.2
 go_enter Tryz.func62, Tryz.ntmps62
 go_wp2_with fail
 clear c0 c1 c2 c3 c4
 generalize (w.alloc (.cells #[.int .i64 n, .slice a zs.length cap, .slice ao ko co, .slice av kv cv, .int .i64 fine] 78)) = W0 at *
 refine (implCase_any n fine a ao av cap ko co kv cv zs os vs W0 (HA.out.below C0.out.1) (HO.out.below C0.out.1) (HV.out.below C0.out.1) HLO.out HLV.out hko hkv).mono ?_
 rintro e w1 ⟨rfl, hb⟩
 have C1 : Hid (CB w w1 #[.int .i64 n, .slice a zs.length cap, .slice ao ko co, .slice av kv cv, .int .i64 fine]) := C0.out.below hb
 clear hb C0
 by_cases hc2 : caseB n zs os vs ko kv fine = false
 · have HE : Hid (x = txt []) := by show _ = _; rw [<- HX.out, if_neg (by rw [hc2]; simp)]
   rw [hc2]
   clear hc2
   go_wp2
   go_ret
   exact ⟨by rw [HE.out]; rfl, C1.out.1⟩
 have hcc : caseB n zs os vs ko kv fine = true := by simpa using hc2
 have HE : Hid (x = txt (headL n fine ++ timesL zs n.toNat n.toNat ++ ordersL os ko ++ vehiclesL vs kv)) := by show _ = _; rw [<- HX.out, if_pos hcc]; rfl
 rw [hcc]
 obtain ⟨hmat, hords, hvehs, hn1, hf0, hf1⟩ := caseB_parts hcc
 obtain ⟨-, hn2, hzl, -⟩ := matB_true hmat
 have HMAT : Hid (matB n zs = true) := hmat
 have HOB : Hid (ordsB n os ko = true) := hords
 have HVB : Hid (vehsB n vs kv = true) := hvehs
 have hk12 := (ordsB_true hords).1
 have hk5 := (vehsB_true hvehs).1
 obtain ⟨N, rfl⟩ : ∃ N : Nat, n = (N : Int) := ⟨n.toNat, by omega⟩
 have HNN : Hid ((N : Int).toNat = N) := by show _ = _; omega
 have HZL : Hid (zs.length = N * N) := by
  have e : ((N * N : Nat) : Int) = (N : Int) * N := Int.natCast_mul _ _
  show _ = _
  omega
 have HT : Hid (∀ k, k <= N -> (timesL zs N k).length <= 400 * k) := HNN.out ▸ timesL_len hmat
 have HTO : Hid (∀ k, k <= ko -> (ordersL os k).length <= 400 * k) := ordersL_len hords hn2
 have HTV : Hid (∀ k, k <= kv -> (vehiclesL vs k).length <= 400 * k) := vehiclesL_len hvehs hn2
 have HHS : Hid (Small [(N : Int), fine]) := fun v hv => by simp at hv; rcases hv with rfl | rfl <;> omega
 have HHL : Hid ((headL (N : Int) fine).length <= 100) := by
  have := lineL_len wCase _ HHS.out
  have e : wCase.length = 4 := rfl
  simp at this
  show (lineL wCase [(N : Int), fine]).length <= 100
  omega
 have HRS : Hid (∀ k, Small (rowL zs N k)) := HNN.out ▸ row_small hmat
 rw [HNN.out] at HE
 clear hc2 hcc hmat hords hvehs hzl
 obtain ⟨c0, c1, c2, c3, c4⟩ := cells5 (C1.out.below ((Below.refl _ _).alloc (Nat.le_refl _) (.cells #[.pointer none, .slice none 0 0] 99))).2
 have BZ : Hid (Below w1.heap.size w1 ((w1.alloc (.cells #[.pointer none, .slice none 0 0] 99)).alloc (.cells #[.int .i64 (N : Int), .int .i64 fine] 2))) := ((Below.refl _ _).alloc (Nat.le_refl _) _).alloc (by simp) _
 have RZ : Hid (((w1.alloc (.cells #[.pointer none, .slice none 0 0] 99)).alloc (.cells #[.int .i64 (N : Int), .int .i64 fine] 2)).heap[w1.heap.size + 1]? = some (.cells #[.int .i64 (N : Int), .int .i64 fine] 2 (0, 0))) := heap_alloc2_new _ _ _
 have U2 : Hid (BU w1.heap.size w1.heap.size [] ((w1.alloc (.cells #[.pointer none, .slice none 0 0] 99)).alloc (.cells #[.int .i64 (N : Int), .int .i64 fine] 2))) := (BU.new w1.heap.size w1 (Nat.le_refl _)).below ((Below.refl _ _).alloc (Nat.le_refl _) _)
 have HPW1 : Hid (∀ W', Below w1.heap.size w1 W' -> PW W') := fun W' h => PW.below HPW.out (C1.out.1.trans (h.mono C1.out.1.size)) (Nat.le_refl _)
 go_wp2_with fail
 clear c0 c1 c2 c3 c4
 generalize ((w1.alloc (.cells #[.pointer none, .slice none 0 0] 99)).alloc (.cells #[.int .i64 (N : Int), .int .i64 fine] 2)) = W2 at *
 refine (writeLine_any w1.heap.size w1.heap.size [] wCase (some ⟨w1.heap.size + 1, 0, none⟩) 2 [(N : Int), fine] W2 U2.out BZ.out.size (fun W' h => IntsAt.of_row (h.row RZ.out (by omega) (by decide))) (fun W' h => HPW1.out W' (BZ.out.trans h)) HHS.out (by simp) (by simp [wCase]) (by simp)).mono ?_
 rintro e w3 ⟨rfl, hu, hb⟩
 have U3 : Hid (BU w1.heap.size w1.heap.size (headL (N : Int) fine) w3) := hu
 have B3 : Hid (Below w1.heap.size w1 w3) := BZ.out.trans hb.1
 clear hu hb BZ RZ U2
 go_wp2_with fail
 go_loopw [22] (fun ti wr => ∃ k : Nat, k <= N /\ ti = .int .i64 k /\ BU w1.heap.size w1.heap.size (headL (N : Int) fine ++ timesL zs N k) wr /\ Below w1.heap.size w1 wr) (fun ti _ => N - (intOf ti).toNat)
 case atStart => exact ⟨0, Nat.zero_le _, rfl, by simp only [timesL, List.append_nil]; exact U3.out, B3.out⟩
 case round =>
  clear B3 U3
  obtain ⟨k, hk, rfl, hu, hb⟩ := hrel
  have UW : Hid (BU w1.heap.size w1.heap.size (headL (N : Int) fine ++ timesL zs N k) wr) := hu
  have BW : Hid (Below w1.heap.size w1 wr) := hb
  have CW : Hid (CB w wr #[.int .i64 (N : Int), .slice a zs.length cap, .slice ao ko co, .slice av kv cv, .int .i64 fine]) := C1.out.below hb
  clear hu hb
  obtain ⟨c0, c1, c2, c3, c4⟩ := cells5 CW.out.2
  have HTS : Hid ((headL (N : Int) fine ++ timesL zs N k).length <= 7000) := by
   have h1 := HT.out k hk
   have h2 := HHL.out
   show _ <= _
   rw [List.length_append]
   omega
  by_cases hlt : k < N
  · skip
    have hlt' : (k : Int) < N := by omega
    obtain ⟨lo, HLOO⟩ : ∃ lo : Nat, Hid (k * N = lo) := ⟨_, rfl⟩
    have HHI : Hid ((k + 1) * N = lo + N) := by show _ = _; rw [Nat.add_mul, HLOO.out, Nat.one_mul]
    have hle : lo + N <= zs.length := by
     rw [HZL.out, <- HHI.out]
     exact Nat.mul_le_mul_right N hlt
    have HN256 : Hid (N * N <= 256) := Nat.mul_le_mul (show N <= 16 by omega) (show N <= 16 by omega)
    have hlo2 : lo + N <= 256 := by have := HN256.out; have := HZL.out; omega
    have HW1 : Hid (wrap64 ((k : Int) * (N : Int)) = (lo : Int)) := wrap_mul k N lo HLOO.out (by omega)
    have HW2 : Hid (wrap64 (((k + 1 : Nat) : Int) * (N : Int)) = ((lo + N : Nat) : Int)) := wrap_mul (k + 1) N (lo + N) HHI.out (by omega)
    have HW3 : Hid (wrap64 ((k : Int) + 1) = ((k + 1 : Nat) : Int)) := by show _ = _; rw [IntWalk.wrap64_in _ (by omega)]; omega
    have hcp2 : lo + N <= cap := Nat.le_trans hle HCAP.out
    have hlc : lo < cap := by omega
    have hlc2 : ¬ (cap = lo) := by omega
    have hlc3 : ¬ (lo = cap) := by omega
    obtain ⟨b, off, rfl, hcs⟩ := IntsAt.some (HA.out.below CW.out.1) (j := 0) (by omega)
    clear hcs
    have HRL : Hid ((rowL zs N k).length = N) := row_len HZL.out hlt
    have HLL := lineL_len wTimes _ (HRS.out k)
    rw [HRL.out] at HLL
    have hll : (txt (lineL wTimes (rowL zs N k))).size <= 1000 := by
     have e : wTimes.length = 5 := rfl
     rw [txt_size]
     omega
    clear HLL
    have HSTEP : Hid (headL (N : Int) fine ++ timesL zs N (k + 1) = headL (N : Int) fine ++ timesL zs N k ++ lineL wTimes (rowL zs N k)) := by
     show _ = _
     rw [List.append_assoc]
     rfl
    have HCL := writeLine_any w1.heap.size w1.heap.size (headL (N : Int) fine ++ timesL zs N k) wTimes (some ⟨b, off + lo, none⟩) (cap - lo) (rowL zs N k) wr UW.out BW.out.size (fun W' h => ints_rowL (HA.out.below (CW.out.1.trans (h.1.mono C1.out.1.size))) HLOO.out hle) (fun W' h => HPW1.out W' (BW.out.trans h)) (HRS.out k) (by rw [HRL.out]; omega) (by simp [wTimes]) (by have := HTS.out; omega)
    rw [HRL.out, <- HSTEP.out] at HCL
    clear hll
    obtain ⟨i1, HI1⟩ : ∃ i1 : Int, Hid (((k + 1 : Nat) : Int) = i1) := ⟨_, rfl⟩
    obtain ⟨i, HI⟩ : ∃ i : Int, Hid ((k : Int) = i) := ⟨_, rfl⟩
    obtain ⟨hi, HHII⟩ : ∃ hi : Nat, Hid (lo + N = hi) := ⟨_, rfl⟩
    rw [HI1.out, HHII.out] at HW2
    rw [HI1.out, HI.out] at HW3
    rw [HI.out] at HW1
    rw [HI.out] at hlt'
    rw [HHII.out] at hcp2
    have hlh : lo <= hi := by have := HHII.out; omega
    rw [HI.out]
    have hwl := HW1.out
    have hwh := HW2.out
    have hw1 := HW3.out
    go_wp2_with fail
    have hhl : hi - lo = N := by have := HHII.out; omega
    rw [hhl]
    clear hhl hwl hwh hw1 HW1 HW2 HW3
    clear c0 c1 c2 c3 c4
    refine HCL.mono ?_
    rintro e w2 ⟨rfl, hu, hb⟩
    have U2 : Hid (BU w1.heap.size w1.heap.size (headL (N : Int) fine ++ timesL zs N (k + 1)) w2) := hu
    have B2 : Hid (Below w1.heap.size w1 w2) := BW.out.trans hb.1
    clear hu hb CW BW UW HCL
    go_wp2_with fail
    go_roundw
    case rel => exact ⟨k + 1, by omega, by first | (rw [<- HI.out, IntWalk.wrap64_in _ (by omega)]; go_num) | (rw [<- HI.out]; go_num), U2.out, B2.out⟩
    case measure => first | (rw [<- HI.out, IntWalk.wrap64_in _ (by omega)]; simp [intOf]; omega) | (rw [<- HI.out]; simp [intOf]; omega)
  · skip
    have hnlt : ¬ ((k : Int) < (N : Int)) := by omega
    have HK1 : Hid (k = N) := by show _ = _; omega
    obtain ⟨p, HP⟩ : ∃ p, Hid (headL (N : Int) fine ++ timesL zs N k = p) := ⟨_, rfl⟩
    rw [HP.out] at UW HTS
    have HPL : Hid (p.length <= 7000) := HTS.out
    have HNE : Hid (p ≠ []) := by
     show _ ≠ _
     rw [<- HP.out]
     unfold headL lineL
     simp
    go_wp2_with fail
    clear c0 c1 c2 c3 c4 HTS
    go_loopw [41] (fun ti wr => ∃ k : Nat, k <= ko /\ ti = .int .i64 k /\ BU w1.heap.size w1.heap.size (p ++ ordersL os k) wr /\ Below w1.heap.size w1 wr) (fun ti _ => ko - (intOf ti).toNat)
    case atStart => exact ⟨0, Nat.zero_le _, rfl, by simp only [ordersL, List.append_nil]; exact UW.out, BW.out⟩
    case round =>
     clear CW BW UW
     obtain ⟨k, hk, rfl, hu, hb⟩ := hrel
     have UW : Hid (BU w1.heap.size w1.heap.size (p ++ ordersL os k) wr) := hu
     have BW : Hid (Below w1.heap.size w1 wr) := hb
     have CW : Hid (CB w wr #[.int .i64 (N : Int), .slice a zs.length cap, .slice ao ko co, .slice av kv cv, .int .i64 fine]) := C1.out.below hb
     clear hu hb
     obtain ⟨c0, c1, c2, c3, c4⟩ := cells5 CW.out.2
     have HTS : Hid ((p ++ ordersL os k).length <= 20000) := by
      have h1 := HTO.out k hk
      have h2 := HPL.out
      show _ <= _
      rw [List.length_append]
      omega
     by_cases hlt : k < ko
     · skip
       have hlt' : (k : Int) < ko := by omega
       obtain ⟨b, off, rfl, hcs⟩ := IntsAt.some (HO.out.below CW.out.1) (j := k * 6) (by rw [HLO.out]; omega)
       obtain ⟨r0, r1, r2, r3, r4, r5⟩ := row6_at hcs HLO.out k hlt
       clear hcs
       have HSM : Hid (Small (ordF os k)) := ord_small HOB.out hn2 hlt
       have hll : (txt (lineL wOrder (ordF os k))).size <= 1000 := by
        have HLL := lineL_len wOrder _ HSM.out
        have e : wOrder.length = 5 := rfl
        have e2 : (ordF os k).length = 6 := rfl
        rw [txt_size]
        omega
       obtain ⟨o0, H0⟩ : ∃ t, Hid (og6 os k 0 = t) := ⟨_, rfl⟩
       obtain ⟨o1, H1⟩ : ∃ t, Hid (og6 os k 1 = t) := ⟨_, rfl⟩
       obtain ⟨o2, H2⟩ : ∃ t, Hid (og6 os k 2 = t) := ⟨_, rfl⟩
       obtain ⟨o3, H3⟩ : ∃ t, Hid (og6 os k 3 = t) := ⟨_, rfl⟩
       obtain ⟨o4, H4⟩ : ∃ t, Hid (og6 os k 4 = t) := ⟨_, rfl⟩
       obtain ⟨o5, H5⟩ : ∃ t, Hid (og6 os k 5 = t) := ⟨_, rfl⟩
       have HF : Hid (ordF os k = [o0, o1, o2, o3, o4, o5]) := by show _ = _; unfold ordF; rw [H0.out, H1.out, H2.out, H3.out, H4.out, H5.out]
       rw [H0.out] at r0
       rw [H1.out] at r1
       rw [H2.out] at r2
       rw [H3.out] at r3
       rw [H4.out] at r4
       rw [H5.out] at r5
       rw [HF.out] at HSM hll
       have BZ : Hid (Below wr.heap.size wr ((wr.alloc (.cells #[.int .i64 o0, .int .i64 o1, .int .i64 o2, .int .i64 o3, .int .i64 o4, .int .i64 o5] 146)).alloc (.cells #[.int .i64 o0, .int .i64 o1, .int .i64 o2, .int .i64 o3, .int .i64 o4, .int .i64 o5] 2))) := ((Below.refl _ _).alloc (Nat.le_refl _) _).alloc (by simp) _
       have RZ : Hid (((wr.alloc (.cells #[.int .i64 o0, .int .i64 o1, .int .i64 o2, .int .i64 o3, .int .i64 o4, .int .i64 o5] 146)).alloc (.cells #[.int .i64 o0, .int .i64 o1, .int .i64 o2, .int .i64 o3, .int .i64 o4, .int .i64 o5] 2)).heap[wr.heap.size + 1]? = some (.cells #[.int .i64 o0, .int .i64 o1, .int .i64 o2, .int .i64 o3, .int .i64 o4, .int .i64 o5] 2 (0, 0))) := heap_alloc2_new _ _ _
       have HSTEP : Hid (p ++ ordersL os (k + 1) = p ++ ordersL os k ++ lineL wOrder [o0, o1, o2, o3, o4, o5]) := by
        show _ = _
        rw [List.append_assoc, <- HF.out]
        rfl
       have HCL := writeLine_any w1.heap.size w1.heap.size (p ++ ordersL os k) wOrder (some ⟨wr.heap.size + 1, 0, none⟩) 6 [o0, o1, o2, o3, o4, o5] ((wr.alloc (.cells #[.int .i64 o0, .int .i64 o1, .int .i64 o2, .int .i64 o3, .int .i64 o4, .int .i64 o5] 146)).alloc (.cells #[.int .i64 o0, .int .i64 o1, .int .i64 o2, .int .i64 o3, .int .i64 o4, .int .i64 o5] 2)) (UW.out.below BZ.out) (Nat.le_trans BW.out.size BZ.out.size) (fun W' h => IntsAt.of_row (h.row RZ.out (by have := BW.out.size; omega) (by decide))) (fun W' h => HPW1.out W' (BW.out.trans ((BZ.out.mono BW.out.size).trans h))) HSM.out (by simp) (by simp [wOrder]) (by have := HTS.out; omega)
       rw [<- HSTEP.out] at HCL
       clear hll
       go_wp2_with fail
       clear c0 c1 c2 c3 c4 r0 r1 r2 r3 r4 r5
       refine HCL.mono ?_
       rintro e w2 ⟨rfl, hu, hb⟩
       have U2 : Hid (BU w1.heap.size w1.heap.size (p ++ ordersL os (k + 1)) w2) := hu
       have B2 : Hid (Below w1.heap.size w1 w2) := BW.out.trans ((BZ.out.mono BW.out.size).trans hb.1)
       clear hu hb CW BW UW HCL BZ RZ
       go_wp2_with fail
       go_roundw
       case rel => exact ⟨k + 1, by omega, by go_num, U2.out, B2.out⟩
       case measure => simp [intOf]; omega
     · skip
       have hnlt : ¬ ((k : Int) < (ko : Int)) := by omega
       have HK2 : Hid (k = ko) := by show _ = _; omega
       obtain ⟨q, HQ⟩ : ∃ q, Hid (p ++ ordersL os k = q) := ⟨_, rfl⟩
       replace HPL : Hid (q.length <= 13000) := by
        have h1 := HTO.out k hk
        have h2 := HPL.out
        show _ <= _
        rw [<- HQ.out, List.length_append]
        omega
       replace HNE : Hid (q ≠ []) := by
        show _ ≠ _
        rw [<- HQ.out]
        simp [HNE.out]
       rw [HQ.out] at UW
       go_wp2_with fail
       clear c0 c1 c2 c3 c4 HTS
       go_loopw [63] (fun ti wr => ∃ k : Nat, k <= kv /\ ti = .int .i64 k /\ BU w1.heap.size w1.heap.size (q ++ vehiclesL vs k) wr /\ Below w1.heap.size w1 wr) (fun ti _ => kv - (intOf ti).toNat)
       case atStart => exact ⟨0, Nat.zero_le _, rfl, by simp only [vehiclesL, List.append_nil]; exact UW.out, BW.out⟩
       case round =>
        clear CW BW UW
        obtain ⟨k, hk, rfl, hu, hb⟩ := hrel
        have UW : Hid (BU w1.heap.size w1.heap.size (q ++ vehiclesL vs k) wr) := hu
        have BW : Hid (Below w1.heap.size w1 wr) := hb
        have CW : Hid (CB w wr #[.int .i64 (N : Int), .slice a zs.length cap, .slice ao ko co, .slice av kv cv, .int .i64 fine]) := C1.out.below hb
        clear hu hb
        obtain ⟨c0, c1, c2, c3, c4⟩ := cells5 CW.out.2
        have HTS : Hid ((q ++ vehiclesL vs k).length <= 20000) := by
         have h1 := HTV.out k hk
         have h2 := HPL.out
         show _ <= _
         rw [List.length_append]
         omega
        by_cases hlt : k < kv
        · skip
          have hlt' : (k : Int) < kv := by omega
          obtain ⟨b, off, rfl, hcs⟩ := IntsAt.some (HV.out.below CW.out.1) (j := k * 5) (by rw [HLV.out]; omega)
          obtain ⟨r0, r1, r2, r3, r4⟩ := row5_at hcs HLV.out k hlt
          clear hcs
          have HSM : Hid (Small (vehF vs k)) := veh_small HVB.out hn2 hlt
          have hll : (txt (lineL wVehicle (vehF vs k))).size <= 1000 := by
           have HLL := lineL_len wVehicle _ HSM.out
           have e : wVehicle.length = 7 := rfl
           have e2 : (vehF vs k).length = 5 := rfl
           rw [txt_size]
           omega
          obtain ⟨o0, H0⟩ : ∃ t, Hid (og5 vs k 0 = t) := ⟨_, rfl⟩
          obtain ⟨o1, H1⟩ : ∃ t, Hid (og5 vs k 1 = t) := ⟨_, rfl⟩
          obtain ⟨o2, H2⟩ : ∃ t, Hid (og5 vs k 2 = t) := ⟨_, rfl⟩
          obtain ⟨o3, H3⟩ : ∃ t, Hid (og5 vs k 3 = t) := ⟨_, rfl⟩
          obtain ⟨o4, H4⟩ : ∃ t, Hid (og5 vs k 4 = t) := ⟨_, rfl⟩
          have HF : Hid (vehF vs k = [o0, o1, o2, o3, o4]) := by show _ = _; unfold vehF; rw [H0.out, H1.out, H2.out, H3.out, H4.out]
          rw [H0.out] at r0
          rw [H1.out] at r1
          rw [H2.out] at r2
          rw [H3.out] at r3
          rw [H4.out] at r4
          rw [HF.out] at HSM hll
          have BZ : Hid (Below wr.heap.size wr ((wr.alloc (.cells #[.int .i64 o0, .int .i64 o1, .int .i64 o2, .int .i64 o3, .int .i64 o4] 137)).alloc (.cells #[.int .i64 o0, .int .i64 o1, .int .i64 o2, .int .i64 o3, .int .i64 o4] 2))) := ((Below.refl _ _).alloc (Nat.le_refl _) _).alloc (by simp) _
          have RZ : Hid (((wr.alloc (.cells #[.int .i64 o0, .int .i64 o1, .int .i64 o2, .int .i64 o3, .int .i64 o4] 137)).alloc (.cells #[.int .i64 o0, .int .i64 o1, .int .i64 o2, .int .i64 o3, .int .i64 o4] 2)).heap[wr.heap.size + 1]? = some (.cells #[.int .i64 o0, .int .i64 o1, .int .i64 o2, .int .i64 o3, .int .i64 o4] 2 (0, 0))) := heap_alloc2_new _ _ _
          have HSTEP : Hid (q ++ vehiclesL vs (k + 1) = q ++ vehiclesL vs k ++ lineL wVehicle [o0, o1, o2, o3, o4]) := by
           show _ = _
           rw [List.append_assoc, <- HF.out]
           rfl
          have HCL := writeLine_any w1.heap.size w1.heap.size (q ++ vehiclesL vs k) wVehicle (some ⟨wr.heap.size + 1, 0, none⟩) 5 [o0, o1, o2, o3, o4] ((wr.alloc (.cells #[.int .i64 o0, .int .i64 o1, .int .i64 o2, .int .i64 o3, .int .i64 o4] 137)).alloc (.cells #[.int .i64 o0, .int .i64 o1, .int .i64 o2, .int .i64 o3, .int .i64 o4] 2)) (UW.out.below BZ.out) (Nat.le_trans BW.out.size BZ.out.size) (fun W' h => IntsAt.of_row (h.row RZ.out (by have := BW.out.size; omega) (by decide))) (fun W' h => HPW1.out W' (BW.out.trans ((BZ.out.mono BW.out.size).trans h))) HSM.out (by simp) (by simp [wVehicle]) (by have := HTS.out; omega)
          rw [<- HSTEP.out] at HCL
          clear hll
          go_wp2_with fail
          clear c0 c1 c2 c3 c4 r0 r1 r2 r3 r4
          refine HCL.mono ?_
          rintro e w2 ⟨rfl, hu, hb⟩
          have U2 : Hid (BU w1.heap.size w1.heap.size (q ++ vehiclesL vs (k + 1)) w2) := hu
          have B2 : Hid (Below w1.heap.size w1 w2) := BW.out.trans ((BZ.out.mono BW.out.size).trans hb.1)
          clear hu hb CW BW UW HCL BZ RZ
          go_wp2_with fail
          go_roundw
          case rel => exact ⟨k + 1, by omega, by go_num, U2.out, B2.out⟩
          case measure => simp [intOf]; omega
        · skip
          have hnlt : ¬ ((k : Int) < (kv : Int)) := by omega
          have HK3 : Hid (k = kv) := by show _ = _; omega
          have HEE : Hid (x = txt (q ++ vehiclesL vs k)) := by
           show _ = _
           rw [HE.out, <- HQ.out, <- HP.out, HK1.out, HK2.out, HK3.out]
          have HCL := string_any w1.heap.size w1.heap.size (q ++ vehiclesL vs k) wr UW.out (by simp [HNE.out])
          rw [<- HEE.out] at HCL
          go_wp2_with fail
          refine HCL.mono ?_
          rintro e w2 ⟨rfl, hb⟩
          have B2 : Hid (Below w1.heap.size w1 w2) := BW.out.trans hb.1
          clear hb HCL
          go_wp2
          go_ret
          exact ⟨rfl, C1.out.1.trans (B2.out.mono C1.out.1.size)⟩
end Go.Proofs.YtehfjfmfpdgibaaGreatDoor
