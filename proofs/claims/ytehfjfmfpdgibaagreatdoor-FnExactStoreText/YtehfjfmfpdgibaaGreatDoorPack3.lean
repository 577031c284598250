import Derived.Test.YtehfjfmfpdgibaaGreatDoorPack0
import Derived.Test.YtehfjfmfpdgibaaGreatDoorPack1
import Derived.Lib.ItoaLen
import Derived.Laws.BytesArg
namespace Go.Proofs.YtehfjfmfpdgibaaGreatDoor
open Go.RowKit
def txt (l : List UInt8) : ByteArray := ⟨l.toArray⟩
theorem txt_size (l : List UInt8) : (txt l).size = l.length := by show l.toArray.size = _; simp
theorem txt_app (a b : List UInt8) : txt a ++ txt b = txt (a ++ b) := by
 apply ByteArray.ext
 simp [txt]
def numsTo (ns : List Int) (k : Nat) : List UInt8 := (ns.take k).flatMap fun n => 32 :: Lib.itoa n
theorem numsTo_zero (ns : List Int) : numsTo ns 0 = [] := by simp [numsTo]
theorem numsTo_succ (ns : List Int) (k : Nat) (h : k < ns.length) : numsTo ns (k + 1) = numsTo ns k ++ (32 :: Lib.itoa (ns.getD k 0)) := by
 unfold numsTo
 rw [take_snoc ns k h, List.flatMap_append]
 simp
def lineL (w : List UInt8) (ns : List Int) : List UInt8 := w ++ numsTo ns ns.length ++ [10]
theorem byte_cell1 (w : World) (n : Int) (i : Nat) (hi : i < 1) : (w.alloc (.cells #[.int .u8 n] 5)).cell? ⟨w.heap.size, 0 + i, none⟩ = some (.int .u8 (([n] : List Int).getD i 0)) := by
 rw [cell_of_row _ _ _ _ _ _ (heap_alloc_new _ _)]
 match i, hi with
 | 0, _ => rfl
theorem dec_small {j : Nat} (h : j < 10) : Lib.decDigits j = [UInt8.ofNat (48 + j)] := by rw [Lib.decDigits, dif_pos h]
theorem dec_big {j : Nat} (h : ¬ j < 10) : Lib.decDigits j = Lib.decDigits (j / 10) ++ [UInt8.ofNat (48 + j % 10)] := by rw [Lib.decDigits, dif_neg h]
theorem dec_len : ∀ (n j : Nat), j < 10 ^ (n + 1) -> (Lib.decDigits j).length <= n + 1
 | 0, j, h => by rw [dec_small (by simpa using h)]; simp
 | n + 1, j, h => by
   by_cases hj : j < 10
   · rw [dec_small hj]; simp
   · rw [dec_big hj, List.length_append]
     have := dec_len n (j / 10) (by rw [Nat.div_lt_iff_lt_mul (by omega)]; rw [Nat.pow_succ] at h; exact h)
     simp
     omega
theorem nums_one (j : Nat) : strOfNums [48 + (j : Int)] = txt [UInt8.ofNat (48 + j)] := by
 unfold strOfNums txt
 have : ((48 : Int) + (j : Int)).toNat = 48 + j := by omega
 simp [this]
set_option maxHeartbeats 1000000 in
theorem l1Dec_any (k : Nat) (w : World) (h1 : k <= 9999999999) :
 Calls Tryz.prog 102 #[.int .i64 k] w fun e w' => e = .returned (.string (txt (Lib.itoa k))) /\ Below w.heap.size w w' := by
 have HI : Hid (Lib.itoa k = Lib.decDigits k) := by show _ = _; unfold Lib.itoa; rw [if_neg (by omega)]; simp
 rw [HI.out]
 have hk0 : ¬ ((k : Int) < 0) := by omega
 go_enter Tryz.func102, Tryz.ntmps102
 go_wp2_with fail
 go_loopw [0, 3] (fun tk ts wr => ∃ (j : Nat) (l : List UInt8), j <= k /\ tk = .int .i64 j /\ ts = .string (txt l) /\ Lib.decDigits k = Lib.decDigits j ++ l /\ l.length <= 20 /\ Below w.heap.size w wr) (fun tk _ _ => (intOf tk).toNat)
 case atStart => exact ⟨k, [], Nat.le_refl _, rfl, rfl, by simp, by simp, Below.refl _ _⟩
 case round =>
  obtain ⟨j, l, hj, rfl, rfl, hd, hl, hb⟩ := hrel
  have HD : Hid (Lib.decDigits k = Lib.decDigits j ++ l) := hd
  have B1 : Hid (Below w.heap.size w wr) := hb
  clear hd hb
  have HLl : Hid ((Lib.decDigits k).length <= 10) := dec_len 9 k (by omega)
  have hss := txt_size l
  by_cases hj0 : 10 <= j
  · have hj' : (10 : Int) <= j := by omega
    have hl2 : l.length + 1 <= 20 := by
     have := HLl.out
     rw [HD.out, List.length_append] at this
     omega
    have HD2 : Hid (Lib.decDigits k = Lib.decDigits (j / 10) ++ ([UInt8.ofNat (48 + j % 10)] ++ l)) := by
     show _ = _
     rw [HD.out, dec_big (by omega), List.append_assoc]
    have HA : Hid (txt ([UInt8.ofNat (48 + j % 10)] ++ l) = strOfNums [48 + (j : Int) % 10] ++ txt l) := by
     show _ = _
     rw [<- txt_app, <- nums_one (j % 10)]
     rfl
    have hconv := run_convert_bytes_arg (P := Tryz.prog) _ 97 5 Tryz.underlying97 Tryz.underlying5 wr.heap.size 0 1 1 [48 + (j : Int) % 10] rfl (byte_cell1 wr (48 + (j : Int) % 10)) 9 Tryz.underlying9
    have hs1 := strOfNums_size [48 + (j : Int) % 10]
    generalize strOfNums [48 + (j : Int) % 10] = t1 at *
    generalize txt l = t2 at *
    have hs1' : t1.size = 1 := by simpa using hs1
    clear hs1
    have BA : Hid (Below w.heap.size w (wr.alloc (.cells #[.int .u8 (48 + (j : Int) % 10)] 5))) := B1.out.alloc B1.out.size _
    go_wp2_with fail
    exact ⟨⟨j / 10, _, by omega, by simp, by rw [HA.out], HD2.out, by simp; omega, BA.out⟩, by simp [intOf]; omega⟩
  · have hj' : ¬ ((10 : Int) <= j) := by omega
    have HM : Hid (txt (Lib.decDigits k) = strOfNums [48 + (j : Int)] ++ txt l) := by
     show _ = _
     rw [HD.out, dec_small (by omega), <- txt_app, nums_one j]
    have hconv := run_convert_bytes_arg (P := Tryz.prog) _ 97 5 Tryz.underlying97 Tryz.underlying5 wr.heap.size 0 1 1 [48 + (j : Int)] rfl (byte_cell1 wr (48 + (j : Int))) 9 Tryz.underlying9
    have hs1 := strOfNums_size [48 + (j : Int)]
    generalize strOfNums [48 + (j : Int)] = t1 at *
    generalize txt l = t2 at *
    have hs1' : t1.size = 1 := by simpa using hs1
    clear hs1 HD
    have BA : Hid (Below w.heap.size w (wr.alloc (.cells #[.int .u8 (48 + (j : Int))] 5))) := B1.out.alloc B1.out.size _
    go_wp2
    go_ret
    exact ⟨by rw [HM.out]; rfl, BA.out⟩
def Small (ns : List Int) : Prop := ∀ n ∈ ns, 0 <= n /\ n <= 1000000000
def SmallW (ns : List Int) : Prop := ∀ n ∈ ns, 0 <= n /\ n <= 9999999999
theorem small_wide {ns : List Int} (h : Small ns) : SmallW ns := fun n hn => by have := h n hn; omega
theorem numsTo_lenW (ns : List Int) (h : SmallW ns) : ∀ k, k <= ns.length -> (numsTo ns k).length <= 22 * k
 | 0, _ => by rw [numsTo_zero]; simp
 | k + 1, hk => by
   have ih := numsTo_lenW ns h k (by omega)
   rw [numsTo_succ ns k (by omega), List.length_append, List.length_cons]
   have hm : ns.getD k 0 ∈ ns := by rw [List.getD_eq_getElem?_getD, List.getElem?_eq_getElem (show k < ns.length by omega)]; simp
   have := h _ hm
   have := Lib.itoa_length_le (ns.getD k 0) (by omega) (by omega)
   omega
theorem numsTo_len (ns : List Int) (h : Small ns) : ∀ k, k <= ns.length -> (numsTo ns k).length <= 22 * k := numsTo_lenW ns (small_wide h)
theorem txt_blank (a b : List UInt8) : (txt a ++ (ByteArray.mk #[32])) ++ txt b = txt (a ++ (32 :: b)) := by
 show (txt a ++ txt [32]) ++ txt b = _
 rw [txt_app, txt_app, List.append_assoc]
 rfl
set_option maxHeartbeats 1000000 in
theorem l2LineW_any (wd : List UInt8) (a : Option Addr) (c : Nat) (ns : List Int) (w : World) (hA : IntsAt w a ns) (hs : SmallW ns) (hn : ns.length <= 1000) (hw : wd.length <= 1000) :
 Calls Tryz.prog 57 #[.string (txt wd), .slice a ns.length c] w fun e w' => e = .returned (.string (txt (lineL wd ns))) /\ Below w.heap.size w w' := by
 have HA : Hid (IntsAt w a ns) := hA
 have HSM : Hid (SmallW ns) := hs
 clear hA hs
 obtain ⟨x, HX⟩ : ∃ x, Hid (txt (lineL wd ns) = x) := ⟨_, rfl⟩
 rw [HX.out]
 obtain ⟨m, HN⟩ : ∃ n, Hid (ns.length = n) := ⟨_, rfl⟩
 rw [HN.out] at hn ⊢
 go_enter Tryz.func57, Tryz.ntmps57
 go_wp2_with fail
 go_loopw [0, 5] (fun ts ti wr => ∃ k : Nat, k <= m /\ ti = .int .i64 k /\ ts = .string (txt (wd ++ numsTo ns k)) /\ Below w.heap.size w wr) (fun _ ti _ => m - (intOf ti).toNat)
 case atStart => exact ⟨0, Nat.zero_le _, rfl, by rw [numsTo_zero, List.append_nil], Below.refl _ _⟩
 case round =>
  obtain ⟨k, hk, rfl, rfl, hb⟩ := hrel
  have B1 : Hid (Below w.heap.size w wr) := hb
  clear hb
  have HLEN : Hid ((numsTo ns k).length <= 22 * k) := numsTo_lenW ns HSM.out k (by rw [HN.out]; exact hk)
  have hts : (txt (wd ++ numsTo ns k)).size <= 23000 := by
   have := HLEN.out
   rw [txt_size, List.length_append]
   omega
  by_cases hlt : k < m
  · have hkl : k < ns.length := by rw [HN.out]; exact hlt
    obtain ⟨b, off, rfl, hc⟩ := (HA.out.below B1.out) k hkl
    have hm : ns.getD k 0 ∈ ns := by rw [List.getD_eq_getElem?_getD, List.getElem?_eq_getElem hkl]; simp
    have hbd := HSM.out _ hm
    have HSTEP : Hid (txt (wd ++ numsTo ns (k + 1)) = (txt (wd ++ numsTo ns k) ++ (ByteArray.mk #[32])) ++ txt (Lib.itoa (ns.getD k 0))) := by
     show _ = _
     rw [txt_blank, numsTo_succ ns k hkl, List.append_assoc]
    obtain ⟨id, HID⟩ : ∃ t, Hid (ns.getD k 0 = t) := ⟨_, rfl⟩
    rw [HID.out] at hc hbd HSTEP
    clear hm hkl
    obtain ⟨j, HJ⟩ : ∃ j : Nat, Hid (id = (j : Int)) := ⟨id.toNat, by show _ = _; omega⟩
    have hj : j <= 9999999999 := by have := HJ.out; omega
    rw [HJ.out] at hc HSTEP
    have hil := Lib.itoa_length_le (j : Int) (by omega) (by omega)
    have hi2 : (txt (Lib.itoa (j : Int))).size <= 21 := by rw [txt_size]; exact hil
    have HD := l1Dec_any j wr hj
    have h32 : (ByteArray.mk #[32]).size = 1 := rfl
    clear hil
    generalize txt (wd ++ numsTo ns k) = t0 at *
    generalize txt (Lib.itoa (j : Int)) = t1 at *
    have hsz : (t0 ++ ByteArray.mk #[32]).size <= 23001 := by rw [ByteArray.size_append]; omega
    go_wp2_with (go_at_call 102; refine HD.mono ?_; rintro e w1 ⟨rfl, hb1⟩)
    first
     | exact ⟨⟨k + 1, by omega, by go_num, by rw [HSTEP.out], B1.out.trans ((by assumption : Below wr.heap.size wr _).mono B1.out.size)⟩, by simp [intOf]; omega⟩
     | (go_roundw
        case rel => exact ⟨k + 1, by omega, by go_num, by rw [HSTEP.out], B1.out.trans ((by assumption : Below wr.heap.size wr _).mono B1.out.size)⟩
        case measure => simp [intOf]; omega)
  · have hkm : k = m := by omega
    have HE : Hid (x = txt (wd ++ numsTo ns k) ++ (ByteArray.mk #[10])) := by
     show _ = _
     rw [<- HX.out, hkm]
     unfold lineL
     rw [HN.out, <- txt_app]
     rfl
    clear hkm
    have h10 : (ByteArray.mk #[10]).size = 1 := rfl
    generalize txt (wd ++ numsTo ns k) = t0 at *
    go_wp2
    go_ret
    exact ⟨by rw [HE.out]; rfl, B1.out⟩
theorem l2Line_any (wd : List UInt8) (a : Option Addr) (c : Nat) (ns : List Int) (w : World) (hA : IntsAt w a ns) (hs : Small ns) (hn : ns.length <= 1000) (hw : wd.length <= 1000) :
 Calls Tryz.prog 57 #[.string (txt wd), .slice a ns.length c] w fun e w' => e = .returned (.string (txt (lineL wd ns))) /\ Below w.heap.size w w' := l2LineW_any wd a c ns w hA (small_wide hs) hn hw
def wCase : List UInt8 := [99, 97, 115, 101]
def wTimes : List UInt8 := [116, 105, 109, 101, 115]
def wOrder : List UInt8 := [111, 114, 100, 101, 114]
def wVehicle : List UInt8 := [118, 101, 104, 105, 99, 108, 101]
def rowL (zs : List Int) (n x : Nat) : List Int := (zs.drop (x * n)).take n
def ordF (os : List Int) (i : Nat) : List Int := [og6 os i 0, og6 os i 1, og6 os i 2, og6 os i 3, og6 os i 4, og6 os i 5]
def vehF (vs : List Int) (i : Nat) : List Int := [og5 vs i 0, og5 vs i 1, og5 vs i 2, og5 vs i 3, og5 vs i 4]
def timesL (zs : List Int) (n : Nat) : Nat -> List UInt8
 | 0 => []
 | k + 1 => timesL zs n k ++ lineL wTimes (rowL zs n k)
def ordersL (os : List Int) : Nat -> List UInt8
 | 0 => []
 | k + 1 => ordersL os k ++ lineL wOrder (ordF os k)
def vehiclesL (vs : List Int) : Nat -> List UInt8
 | 0 => []
 | k + 1 => vehiclesL vs k ++ lineL wVehicle (vehF vs k)
def headL (n fine : Int) : List UInt8 := lineL wCase [n, fine]
def caseL (n fine : Int) (zs os vs : List Int) (ko kv : Nat) : List UInt8 := headL n fine ++ timesL zs n.toNat n.toNat ++ ordersL os ko ++ vehiclesL vs kv
theorem lineL_len (w : List UInt8) (ns : List Int) (h : Small ns) : (lineL w ns).length <= w.length + 22 * ns.length + 1 := by
 have := numsTo_len ns h ns.length (Nat.le_refl _)
 unfold lineL
 rw [List.length_append, List.length_append]
 simp
 omega
theorem row_len {zs : List Int} {n x : Nat} (h : zs.length = n * n) (hx : x < n) : (rowL zs n x).length = n := by
 unfold rowL
 rw [List.length_take, List.length_drop, h]
 have : (x + 1) * n <= n * n := Nat.mul_le_mul_right n hx
 rw [Nat.add_mul] at this
 omega
theorem row_small {n : Int} {zs : List Int} (h : matB n zs = true) (x : Nat) : Small (rowL zs n.toNat x) := fun v hv => by
 unfold rowL at hv
 obtain ⟨j, hj, e⟩ := List.getElem_of_mem (List.mem_of_mem_drop (List.mem_of_mem_take hv))
 have := (matB_true h).2.2.2 j hj
 rw [List.getD_eq_getElem?_getD, List.getElem?_eq_getElem hj] at this
 simp only [Option.getD_some, e] at this
 omega
theorem ord_small {n : Int} {os : List Int} {ko i : Nat} (h : ordsB n os ko = true) (hn : n <= 16) (hi : i < ko) : Small (ordF os i) := fun v hv => by
 have := ((ordsB_true h).2 i hi).1
 unfold ordB ordIn hoursB inB at this
 simp at this
 unfold ordF at hv
 simp at hv
 rcases hv with rfl | rfl | rfl | rfl | rfl | rfl <;> omega
theorem veh_small {n : Int} {vs : List Int} {kv i : Nat} (h : vehsB n vs kv = true) (hn : n <= 16) (hi : i < kv) : Small (vehF vs i) := fun v hv => by
 have := ((vehsB_true h).2 i hi).1
 unfold vehB vehIn hoursB inB at this
 simp at this
 unfold vehF at hv
 simp at hv
 rcases hv with rfl | rfl | rfl | rfl | rfl <;> omega
theorem timesL_len {n : Int} {zs : List Int} (h : matB n zs = true) : ∀ k, k <= n.toNat -> (timesL zs n.toNat k).length <= 400 * k
 | 0, _ => by simp [timesL]
 | k + 1, hk => by
   have ih := timesL_len h k (by omega)
   obtain ⟨h1, h2, h3, _⟩ := matB_true h
   have hzl : zs.length = n.toNat * n.toNat := by
    have : (n.toNat : Int) = n := by omega
    have e : ((n.toNat * n.toNat : Nat) : Int) = n * n := by rw [Int.natCast_mul, this]
    omega
   have hl := lineL_len wTimes _ (row_small h k)
   rw [row_len hzl (by omega)] at hl
   have hw : wTimes.length = 5 := rfl
   simp only [timesL]
   rw [List.length_append]
   omega
theorem ordersL_len {n : Int} {os : List Int} {ko : Nat} (h : ordsB n os ko = true) (hn : n <= 16) : ∀ k, k <= ko -> (ordersL os k).length <= 400 * k
 | 0, _ => by simp [ordersL]
 | k + 1, hk => by
   have ih := ordersL_len h hn k (by omega)
   have hl := lineL_len wOrder _ (ord_small h hn (show k < ko by omega))
   have hw : wOrder.length = 5 := rfl
   have hf : (ordF os k).length = 6 := rfl
   simp only [ordersL]
   rw [List.length_append]
   omega
theorem vehiclesL_len {n : Int} {vs : List Int} {kv : Nat} (h : vehsB n vs kv = true) (hn : n <= 16) : ∀ k, k <= kv -> (vehiclesL vs k).length <= 400 * k
 | 0, _ => by simp [vehiclesL]
 | k + 1, hk => by
   have ih := vehiclesL_len h hn k (by omega)
   have hl := lineL_len wVehicle _ (veh_small h hn (show k < kv by omega))
   have hw : wVehicle.length = 7 := rfl
   have hf : (vehF vs k).length = 5 := rfl
   simp only [vehiclesL]
   rw [List.length_append]
   omega
def CB (w W : World) (cs : Array Value) : Prop := Below w.heap.size w W /\ W.heap[w.heap.size]? = some (.cells cs 78 (0, 0))
theorem CB.new (w : World) (cs : Array Value) : CB w (w.alloc (.cells cs 78)) cs := ⟨(Below.refl _ _).alloc (Nat.le_refl _) _, heap_alloc_new _ _⟩
theorem CB.below {w W W' : World} {cs : Array Value} (h : CB w W cs) (hb : Below W.heap.size W W') : CB w W' cs := ⟨h.1.trans (hb.mono h.1.size), below_row hb (row_lt h.2) h.2⟩
theorem wrap_mul (k N lo : Nat) (h : k * N = lo) (hb : lo <= 1000) : wrap64 ((k : Int) * (N : Int)) = (lo : Int) := by
 have e : (k : Int) * (N : Int) = (lo : Int) := by rw [<- h]; exact (Int.natCast_mul k N).symm
 rw [e]
 exact IntWalk.wrap64_in _ (by omega)
theorem ints_rowL {w : World} {b off : Nat} {zs : List Int} {N k lo : Nat} (h : IntsAt w (some ⟨b, off, none⟩) zs) (hl : k * N = lo) (hz : lo + N <= zs.length) : IntsAt w (some ⟨b, off + lo, none⟩) (rowL zs N k) := fun j hj => by
 have hj' : j < N := by unfold rowL at hj; rw [List.length_take] at hj; omega
 obtain ⟨b', off', e, hc⟩ := h (lo + j) (by omega)
 simp at e
 obtain ⟨rfl, rfl⟩ := e
 refine ⟨b, off + lo, rfl, ?_⟩
 rw [Nat.add_assoc, hc]
 unfold rowL
 rw [List.getD_eq_getElem?_getD, List.getD_eq_getElem?_getD, List.getElem?_take, if_pos hj', List.getElem?_drop, hl]
set_option maxRecDepth 10000 in
set_option maxHeartbeats 4000000 in
theorem specCaseText_cap (n fine : Int) (a ao av : Option Addr) (cap ko co kv cv : Nat) (zs os vs : List Int) (w : World) (hA : IntsAt w a zs) (hO : IntsAt w ao os) (hV : IntsAt w av vs) (hlo : os.length = ko * 6) (hlv : vs.length = kv * 5) (hko : ko <= 9223372036854775807) (hkv : kv <= 9223372036854775807) (hcap : zs.length <= cap) :
 Calls Tryz.prog 58 #[.agg #[.int .i64 n, .slice a zs.length cap, .slice ao ko co, .slice av kv cv, .int .i64 fine]] w fun e w' => e = .returned (.string (if caseB n zs os vs ko kv fine = true then txt (caseL n fine zs os vs ko kv) else txt [])) /\ Below w.heap.size w w' := by
 have HA : Hid (IntsAt w a zs) := hA
 have HO : Hid (IntsAt w ao os) := hO
 have HV : Hid (IntsAt w av vs) := hV
 have HLO : Hid _ := hlo
 have HLV : Hid _ := hlv
 have HCAP : Hid (zs.length <= cap) := hcap
 clear hA hO hV hlo hlv hcap
 have C0 : Hid (CB w (w.alloc (.cells #[.int .i64 n, .slice a zs.length cap, .slice ao ko co, .slice av kv cv, .int .i64 fine] 78)) _) := CB.new w _
 obtain ⟨x, HX⟩ : ∃ x, Hid ((if caseB n zs os vs ko kv fine = true then txt (caseL n fine zs os vs ko kv) else txt []) = x) := ⟨_, rfl⟩
 rw [HX.out]
 obtain ⟨c0, c1, c2, c3, c4⟩ := cells5 C0.out.2
 go_enter Tryz.func58, Tryz.ntmps58
 go_wp2_with fail
 clear c0 c1 c2 c3 c4
 generalize (w.alloc (.cells #[.int .i64 n, .slice a zs.length cap, .slice ao ko co, .slice av kv cv, .int .i64 fine] 78)) = W0 at *
 refine (specCase_any n fine a ao av cap ko co kv cv zs os vs W0 (HA.out.below C0.out.1) (HO.out.below C0.out.1) (HV.out.below C0.out.1) HLO.out HLV.out hko hkv).mono ?_
 rintro e w1 ⟨rfl, hb⟩
 have C1 : Hid (CB w w1 #[.int .i64 n, .slice a zs.length cap, .slice ao ko co, .slice av kv cv, .int .i64 fine]) := C0.out.below hb
 clear hb C0
 by_cases hc2 : caseB n zs os vs ko kv fine = false
 · have HE : Hid (x = txt []) := by show _ = _; rw [<- HX.out, if_neg (by rw [hc2]; simp)]
   rw [hc2]
   clear hc2
   go_wp2
   go_ret
   exact ⟨by rw [HE.out]; rfl, C1.out.1⟩
 have hcc : caseB n zs os vs ko kv fine = true := by simpa using hc2
 have HE : Hid (x = txt (headL n fine ++ timesL zs n.toNat n.toNat ++ ordersL os ko ++ vehiclesL vs kv)) := by show _ = _; rw [<- HX.out, if_pos hcc]; rfl
 rw [hcc]
 obtain ⟨hmat, hords, hvehs, hn1, hf0, hf1⟩ := caseB_parts hcc
 obtain ⟨-, hn2, hzl, -⟩ := matB_true hmat
 have HMAT : Hid (matB n zs = true) := hmat
 have HOB : Hid (ordsB n os ko = true) := hords
 have HVB : Hid (vehsB n vs kv = true) := hvehs
 have hk12 := (ordsB_true hords).1
 have hk5 := (vehsB_true hvehs).1
 obtain ⟨N, rfl⟩ : ∃ N : Nat, n = (N : Int) := ⟨n.toNat, by omega⟩
 have HNN : Hid ((N : Int).toNat = N) := by show _ = _; omega
 have HZL : Hid (zs.length = N * N) := by
  have e : ((N * N : Nat) : Int) = (N : Int) * N := Int.natCast_mul _ _
  show _ = _
  omega
 have HT : Hid (∀ k, k <= N -> (timesL zs N k).length <= 400 * k) := HNN.out ▸ timesL_len hmat
 have HTO : Hid (∀ k, k <= ko -> (ordersL os k).length <= 400 * k) := ordersL_len hords hn2
 have HTV : Hid (∀ k, k <= kv -> (vehiclesL vs k).length <= 400 * k) := vehiclesL_len hvehs hn2
 have HHS : Hid (Small [(N : Int), fine]) := fun v hv => by simp at hv; rcases hv with rfl | rfl <;> omega
 have HHL : Hid ((headL (N : Int) fine).length <= 100) := by
  have := lineL_len wCase _ HHS.out
  have e : wCase.length = 4 := rfl
  simp at this
  show (lineL wCase [(N : Int), fine]).length <= 100
  omega
 have HRS : Hid (∀ k, Small (rowL zs N k)) := HNN.out ▸ row_small hmat
 rw [HNN.out] at HE
 clear hc2 hcc hmat hords hvehs hzl
 obtain ⟨c0, c1, c2, c3, c4⟩ := cells5 C1.out.2
 have BZ : Hid (Below w1.heap.size w1 (w1.alloc (.cells #[.int .i64 (N : Int), .int .i64 fine] 2))) := (Below.refl _ _).alloc (Nat.le_refl _) _
 have IZ : Hid (IntsAt (w1.alloc (.cells #[.int .i64 (N : Int), .int .i64 fine] 2)) (some ⟨w1.heap.size, 0, none⟩) [(N : Int), fine]) := IntsAt.of_row (heap_alloc_new w1 (.cells #[.int .i64 (N : Int), .int .i64 fine] 2))
 go_wp2_with fail
 clear c0 c1 c2 c3 c4
 have C2 : Hid (CB w (w1.alloc (.cells #[.int .i64 (N : Int), .int .i64 fine] 2)) #[.int .i64 (N : Int), .slice a zs.length cap, .slice ao ko co, .slice av kv cv, .int .i64 fine]) := C1.out.below BZ.out
 generalize (w1.alloc (.cells #[.int .i64 (N : Int), .int .i64 fine] 2)) = W2 at *
 refine (l2Line_any wCase (some ⟨w1.heap.size, 0, none⟩) 2 [(N : Int), fine] W2 IZ.out HHS.out (by simp) (by simp [wCase])).mono ?_
 rintro e w3 ⟨rfl, hb⟩
 have C3 : Hid (CB w w3 #[.int .i64 (N : Int), .slice a zs.length cap, .slice ao ko co, .slice av kv cv, .int .i64 fine]) := C2.out.below hb
 clear hb C2 C1 BZ IZ
 rw [show lineL wCase [(N : Int), fine] = headL (N : Int) fine from rfl]
 go_wp2_with fail
 go_loopw [3, 4] (fun ts ti wr => ∃ k : Nat, k <= N /\ ti = .int .i64 k /\ ts = .string (txt (headL (N : Int) fine ++ timesL zs N k)) /\ CB w wr #[.int .i64 (N : Int), .slice a zs.length cap, .slice ao ko co, .slice av kv cv, .int .i64 fine]) (fun _ ti _ => N - (intOf ti).toNat)
 case atStart => exact ⟨0, Nat.zero_le _, rfl, by simp [timesL], C3.out⟩
 case round =>
  clear C3
  obtain ⟨k, hk, rfl, rfl, hcb⟩ := hrel
  have CW : Hid (CB w wr #[.int .i64 (N : Int), .slice a zs.length cap, .slice ao ko co, .slice av kv cv, .int .i64 fine]) := hcb
  clear hcb
  obtain ⟨c0, c1, c2, c3, c4⟩ := cells5 CW.out.2
  have hts : (txt (headL (N : Int) fine ++ timesL zs N k)).size <= 20000 := by
   have h1 := HT.out k hk
   have h2 := HHL.out
   rw [txt_size, List.length_append]
   omega
  by_cases hlt : k < N
  · skip
    have hlt' : (k : Int) < N := by omega
    obtain ⟨lo, HLOO⟩ : ∃ lo : Nat, Hid (k * N = lo) := ⟨_, rfl⟩
    have HHI : Hid ((k + 1) * N = lo + N) := by show _ = _; rw [Nat.add_mul, HLOO.out, Nat.one_mul]
    have hle : lo + N <= zs.length := by
     rw [HZL.out, <- HHI.out]
     exact Nat.mul_le_mul_right N hlt
    have HN256 : Hid (N * N <= 256) := Nat.mul_le_mul (show N <= 16 by omega) (show N <= 16 by omega)
    have hlo2 : lo + N <= 256 := by have := HN256.out; have := HZL.out; omega
    have HW1 : Hid (wrap64 ((k : Int) * (N : Int)) = (lo : Int)) := wrap_mul k N lo HLOO.out (by omega)
    have HW2 : Hid (wrap64 (((k + 1 : Nat) : Int) * (N : Int)) = ((lo + N : Nat) : Int)) := wrap_mul (k + 1) N (lo + N) HHI.out (by omega)
    have HW3 : Hid (wrap64 ((k : Int) + 1) = ((k + 1 : Nat) : Int)) := by show _ = _; rw [IntWalk.wrap64_in _ (by omega)]; omega
    have hcp2 : lo + N <= cap := Nat.le_trans hle HCAP.out
    have hlc : lo < cap := by omega
    have hlc2 : ¬ (cap = lo) := by omega
    have hlc3 : ¬ (lo = cap) := by omega
    obtain ⟨b, off, rfl, hcs⟩ := IntsAt.some (HA.out.below CW.out.1) (j := 0) (by omega)
    clear hcs
    have HRL : Hid ((rowL zs N k).length = N) := row_len HZL.out hlt
    have HLL := lineL_len wTimes _ (HRS.out k)
    rw [HRL.out] at HLL
    have hll : (txt (lineL wTimes (rowL zs N k))).size <= 1000 := by
     have e : wTimes.length = 5 := rfl
     rw [txt_size]
     omega
    clear HLL
    have HSTEP : Hid (txt (headL (N : Int) fine ++ timesL zs N (k + 1)) = txt (headL (N : Int) fine ++ timesL zs N k) ++ txt (lineL wTimes (rowL zs N k))) := by
     show _ = _
     rw [txt_app, List.append_assoc]
     rfl
    have HCL := l2Line_any wTimes (some ⟨b, off + lo, none⟩) (cap - lo) (rowL zs N k) wr (ints_rowL (HA.out.below CW.out.1) HLOO.out hle) (HRS.out k) (by rw [HRL.out]; omega) (by simp [wTimes])
    rw [HRL.out] at HCL
    generalize txt (headL (N : Int) fine ++ timesL zs N k) = t0 at *
    generalize txt (lineL wTimes (rowL zs N k)) = t1 at *
    obtain ⟨i1, HI1⟩ : ∃ i1 : Int, Hid (((k + 1 : Nat) : Int) = i1) := ⟨_, rfl⟩
    obtain ⟨i, HI⟩ : ∃ i : Int, Hid ((k : Int) = i) := ⟨_, rfl⟩
    obtain ⟨M, HM⟩ : ∃ M : Int, Hid ((N : Int) = M) := ⟨_, rfl⟩
    obtain ⟨hi, HHII⟩ : ∃ hi : Nat, Hid (lo + N = hi) := ⟨_, rfl⟩
    rw [HI1.out, HM.out, HHII.out] at HW2
    rw [HI1.out, HI.out] at HW3
    rw [HI.out, HM.out] at HW1
    rw [HI.out, HM.out] at hlt'
    rw [HM.out] at c0
    rw [HHII.out] at hcp2
    have hlh : lo <= hi := by have := HHII.out; omega
    rw [HI.out]
    have hwl := HW1.out
    have hwh := HW2.out
    have hw1 := HW3.out
    go_wp2_with fail
    have hhl : hi - lo = N := by have := HHII.out; omega
    rw [hhl]
    clear hhl hwl hwh hw1 HW1 HW2 HW3
    clear c0 c1 c2 c3 c4
    refine HCL.mono ?_
    rintro e w2 ⟨rfl, hb⟩
    have C2 : Hid (CB w w2 #[.int .i64 (N : Int), .slice (some ⟨b, off, none⟩) zs.length cap, .slice ao ko co, .slice av kv cv, .int .i64 fine]) := CW.out.below hb
    clear hb CW HCL
    go_wp2_with fail
    go_roundw
    case rel => exact ⟨k + 1, by omega, by first | (rw [<- HI.out, IntWalk.wrap64_in _ (by omega)]; go_num) | (rw [<- HI.out]; go_num), by rw [HSTEP.out], C2.out⟩
    case measure => first | (rw [<- HI.out, IntWalk.wrap64_in _ (by omega)]; simp [intOf]; omega) | (rw [<- HI.out]; simp [intOf]; omega)
  · skip
    have hnlt : ¬ ((k : Int) < (N : Int)) := by omega
    have HK1 : Hid (k = N) := by show _ = _; omega
    obtain ⟨p, HP⟩ : ∃ p, Hid (headL (N : Int) fine ++ timesL zs N k = p) := ⟨_, rfl⟩
    have HPL : Hid (p.length <= 7000) := by
     have h1 := HT.out k hk
     have h2 := HHL.out
     show _ <= _
     rw [<- HP.out, List.length_append]
     omega
    rw [HP.out] at hts ⊢
    go_wp2_with fail
    clear c0 c1 c2 c3 c4 hts
    go_loopw [3, 5] (fun ts ti wr => ∃ k : Nat, k <= ko /\ ti = .int .i64 k /\ ts = .string (txt (p ++ ordersL os k)) /\ CB w wr #[.int .i64 (N : Int), .slice a zs.length cap, .slice ao ko co, .slice av kv cv, .int .i64 fine]) (fun _ ti _ => ko - (intOf ti).toNat)
    case atStart => exact ⟨0, Nat.zero_le _, rfl, by simp [ordersL], CW.out⟩
    case round =>
     clear CW
     obtain ⟨k, hk, rfl, rfl, hcb⟩ := hrel
     have CW : Hid (CB w wr #[.int .i64 (N : Int), .slice a zs.length cap, .slice ao ko co, .slice av kv cv, .int .i64 fine]) := hcb
     clear hcb
     obtain ⟨c0, c1, c2, c3, c4⟩ := cells5 CW.out.2
     have hts : (txt (p ++ ordersL os k)).size <= 20000 := by
      have h1 := HTO.out k hk
      have h2 := HPL.out
      rw [txt_size, List.length_append]
      omega
     by_cases hlt : k < ko
     · skip
       have hlt' : (k : Int) < ko := by omega
       obtain ⟨b, off, rfl, hcs⟩ := IntsAt.some (HO.out.below CW.out.1) (j := k * 6) (by rw [HLO.out]; omega)
       obtain ⟨r0, r1, r2, r3, r4, r5⟩ := row6_at hcs HLO.out k hlt
       clear hcs
       have HSM : Hid (Small (ordF os k)) := ord_small HOB.out hn2 hlt
       have hll : (txt (lineL wOrder (ordF os k))).size <= 1000 := by
        have HLL := lineL_len wOrder _ HSM.out
        have e : wOrder.length = 5 := rfl
        have e2 : (ordF os k).length = 6 := rfl
        rw [txt_size]
        omega
       obtain ⟨o0, H0⟩ : ∃ t, Hid (og6 os k 0 = t) := ⟨_, rfl⟩
       obtain ⟨o1, H1⟩ : ∃ t, Hid (og6 os k 1 = t) := ⟨_, rfl⟩
       obtain ⟨o2, H2⟩ : ∃ t, Hid (og6 os k 2 = t) := ⟨_, rfl⟩
       obtain ⟨o3, H3⟩ : ∃ t, Hid (og6 os k 3 = t) := ⟨_, rfl⟩
       obtain ⟨o4, H4⟩ : ∃ t, Hid (og6 os k 4 = t) := ⟨_, rfl⟩
       obtain ⟨o5, H5⟩ : ∃ t, Hid (og6 os k 5 = t) := ⟨_, rfl⟩
       have HF : Hid (ordF os k = [o0, o1, o2, o3, o4, o5]) := by show _ = _; unfold ordF; rw [H0.out, H1.out, H2.out, H3.out, H4.out, H5.out]
       rw [H0.out] at r0
       rw [H1.out] at r1
       rw [H2.out] at r2
       rw [H3.out] at r3
       rw [H4.out] at r4
       rw [H5.out] at r5
       rw [HF.out] at HSM hll
       have BZ : Hid (Below wr.heap.size wr ((wr.alloc (.cells #[.int .i64 o0, .int .i64 o1, .int .i64 o2, .int .i64 o3, .int .i64 o4, .int .i64 o5] 146)).alloc (.cells #[.int .i64 o0, .int .i64 o1, .int .i64 o2, .int .i64 o3, .int .i64 o4, .int .i64 o5] 2))) := ((Below.refl _ _).alloc (Nat.le_refl _) _).alloc (by simp) _
       have RZ : Hid (((wr.alloc (.cells #[.int .i64 o0, .int .i64 o1, .int .i64 o2, .int .i64 o3, .int .i64 o4, .int .i64 o5] 146)).alloc (.cells #[.int .i64 o0, .int .i64 o1, .int .i64 o2, .int .i64 o3, .int .i64 o4, .int .i64 o5] 2)).heap[wr.heap.size + 1]? = some (.cells #[.int .i64 o0, .int .i64 o1, .int .i64 o2, .int .i64 o3, .int .i64 o4, .int .i64 o5] 2 (0, 0))) := heap_alloc2_new _ _ _
       have HSTEP : Hid (txt (p ++ ordersL os (k + 1)) = txt (p ++ ordersL os k) ++ txt (lineL wOrder [o0, o1, o2, o3, o4, o5])) := by
        show _ = _
        rw [txt_app, List.append_assoc, <- HF.out]
        rfl
       have HCL := l2Line_any wOrder (some ⟨wr.heap.size + 1, 0, none⟩) 6 [o0, o1, o2, o3, o4, o5] ((wr.alloc (.cells #[.int .i64 o0, .int .i64 o1, .int .i64 o2, .int .i64 o3, .int .i64 o4, .int .i64 o5] 146)).alloc (.cells #[.int .i64 o0, .int .i64 o1, .int .i64 o2, .int .i64 o3, .int .i64 o4, .int .i64 o5] 2)) (IntsAt.of_row RZ.out) HSM.out (by simp) (by simp [wOrder])
       generalize txt (p ++ ordersL os k) = t0 at *
       generalize txt (lineL wOrder [o0, o1, o2, o3, o4, o5]) = t1 at *
       go_wp2_with fail
       clear c0 c1 c2 c3 c4 r0 r1 r2 r3 r4 r5
       refine HCL.mono ?_
       rintro e w2 ⟨rfl, hb⟩
       have C2 : Hid (CB w w2 #[.int .i64 (N : Int), .slice a zs.length cap, .slice (some ⟨b, off, none⟩) ko co, .slice av kv cv, .int .i64 fine]) := CW.out.below (BZ.out.trans (hb.mono BZ.out.size))
       clear hb CW HCL BZ RZ
       go_wp2_with fail
       go_roundw
       case rel => exact ⟨k + 1, by omega, by go_num, by rw [HSTEP.out], C2.out⟩
       case measure => simp [intOf]; omega
     · skip
       have hnlt : ¬ ((k : Int) < (ko : Int)) := by omega
       have HK2 : Hid (k = ko) := by show _ = _; omega
       obtain ⟨q, HQ⟩ : ∃ q, Hid (p ++ ordersL os k = q) := ⟨_, rfl⟩
       replace HPL : Hid (q.length <= 13000) := by
        have h1 := HTO.out k hk
        have h2 := HPL.out
        show _ <= _
        rw [<- HQ.out, List.length_append]
        omega
       rw [HQ.out] at hts ⊢
       go_wp2_with fail
       clear c0 c1 c2 c3 c4 hts
       go_loopw [3, 7] (fun ts ti wr => ∃ k : Nat, k <= kv /\ ti = .int .i64 k /\ ts = .string (txt (q ++ vehiclesL vs k)) /\ CB w wr #[.int .i64 (N : Int), .slice a zs.length cap, .slice ao ko co, .slice av kv cv, .int .i64 fine]) (fun _ ti _ => kv - (intOf ti).toNat)
       case atStart => exact ⟨0, Nat.zero_le _, rfl, by simp [vehiclesL], CW.out⟩
       case round =>
        clear CW
        obtain ⟨k, hk, rfl, rfl, hcb⟩ := hrel
        have CW : Hid (CB w wr #[.int .i64 (N : Int), .slice a zs.length cap, .slice ao ko co, .slice av kv cv, .int .i64 fine]) := hcb
        clear hcb
        obtain ⟨c0, c1, c2, c3, c4⟩ := cells5 CW.out.2
        have hts : (txt (q ++ vehiclesL vs k)).size <= 20000 := by
         have h1 := HTV.out k hk
         have h2 := HPL.out
         rw [txt_size, List.length_append]
         omega
        by_cases hlt : k < kv
        · skip
          have hlt' : (k : Int) < kv := by omega
          obtain ⟨b, off, rfl, hcs⟩ := IntsAt.some (HV.out.below CW.out.1) (j := k * 5) (by rw [HLV.out]; omega)
          obtain ⟨r0, r1, r2, r3, r4⟩ := row5_at hcs HLV.out k hlt
          clear hcs
          have HSM : Hid (Small (vehF vs k)) := veh_small HVB.out hn2 hlt
          have hll : (txt (lineL wVehicle (vehF vs k))).size <= 1000 := by
           have HLL := lineL_len wVehicle _ HSM.out
           have e : wVehicle.length = 7 := rfl
           have e2 : (vehF vs k).length = 5 := rfl
           rw [txt_size]
           omega
          obtain ⟨o0, H0⟩ : ∃ t, Hid (og5 vs k 0 = t) := ⟨_, rfl⟩
          obtain ⟨o1, H1⟩ : ∃ t, Hid (og5 vs k 1 = t) := ⟨_, rfl⟩
          obtain ⟨o2, H2⟩ : ∃ t, Hid (og5 vs k 2 = t) := ⟨_, rfl⟩
          obtain ⟨o3, H3⟩ : ∃ t, Hid (og5 vs k 3 = t) := ⟨_, rfl⟩
          obtain ⟨o4, H4⟩ : ∃ t, Hid (og5 vs k 4 = t) := ⟨_, rfl⟩
          have HF : Hid (vehF vs k = [o0, o1, o2, o3, o4]) := by show _ = _; unfold vehF; rw [H0.out, H1.out, H2.out, H3.out, H4.out]
          rw [H0.out] at r0
          rw [H1.out] at r1
          rw [H2.out] at r2
          rw [H3.out] at r3
          rw [H4.out] at r4
          rw [HF.out] at HSM hll
          have BZ : Hid (Below wr.heap.size wr ((wr.alloc (.cells #[.int .i64 o0, .int .i64 o1, .int .i64 o2, .int .i64 o3, .int .i64 o4] 137)).alloc (.cells #[.int .i64 o0, .int .i64 o1, .int .i64 o2, .int .i64 o3, .int .i64 o4] 2))) := ((Below.refl _ _).alloc (Nat.le_refl _) _).alloc (by simp) _
          have RZ : Hid (((wr.alloc (.cells #[.int .i64 o0, .int .i64 o1, .int .i64 o2, .int .i64 o3, .int .i64 o4] 137)).alloc (.cells #[.int .i64 o0, .int .i64 o1, .int .i64 o2, .int .i64 o3, .int .i64 o4] 2)).heap[wr.heap.size + 1]? = some (.cells #[.int .i64 o0, .int .i64 o1, .int .i64 o2, .int .i64 o3, .int .i64 o4] 2 (0, 0))) := heap_alloc2_new _ _ _
          have HSTEP : Hid (txt (q ++ vehiclesL vs (k + 1)) = txt (q ++ vehiclesL vs k) ++ txt (lineL wVehicle [o0, o1, o2, o3, o4])) := by
           show _ = _
           rw [txt_app, List.append_assoc, <- HF.out]
           rfl
          have HCL := l2Line_any wVehicle (some ⟨wr.heap.size + 1, 0, none⟩) 5 [o0, o1, o2, o3, o4] ((wr.alloc (.cells #[.int .i64 o0, .int .i64 o1, .int .i64 o2, .int .i64 o3, .int .i64 o4] 137)).alloc (.cells #[.int .i64 o0, .int .i64 o1, .int .i64 o2, .int .i64 o3, .int .i64 o4] 2)) (IntsAt.of_row RZ.out) HSM.out (by simp) (by simp [wVehicle])
          generalize txt (q ++ vehiclesL vs k) = t0 at *
          generalize txt (lineL wVehicle [o0, o1, o2, o3, o4]) = t1 at *
          go_wp2_with fail
          clear c0 c1 c2 c3 c4 r0 r1 r2 r3 r4
          refine HCL.mono ?_
          rintro e w2 ⟨rfl, hb⟩
          have C2 : Hid (CB w w2 #[.int .i64 (N : Int), .slice a zs.length cap, .slice ao ko co, .slice (some ⟨b, off, none⟩) kv cv, .int .i64 fine]) := CW.out.below (BZ.out.trans (hb.mono BZ.out.size))
          clear hb CW HCL BZ RZ
          go_wp2_with fail
          go_roundw
          case rel => exact ⟨k + 1, by omega, by go_num, by rw [HSTEP.out], C2.out⟩
          case measure => simp [intOf]; omega
        · skip
          have hnlt : ¬ ((k : Int) < (kv : Int)) := by omega
          have HK3 : Hid (k = kv) := by show _ = _; omega
          have HEE : Hid (x = txt (q ++ vehiclesL vs k)) := by
           show _ = _
           rw [HE.out, <- HQ.out, <- HP.out, HK1.out, HK2.out, HK3.out]
          generalize txt (q ++ vehiclesL vs k) = t0 at *
          go_wp2
          go_ret
          exact ⟨by rw [HEE.out]; rfl, CW.out.1⟩
end Go.Proofs.YtehfjfmfpdgibaaGreatDoor
