import Derived.Test.YtaofpbmdloihgaaDoorPack0
import Derived.Test.YtaofpbmdloihgaaDoorPack1
import Derived.Lib.ItoaLen
import Derived.Laws.BytesArg
namespace Go.Proofs.YtaofpbmdloihgaaDoor
open Go.RowKit

/-- The text of these bytes. -/
def txt (l : List UInt8) : ByteArray := ⟨l.toArray⟩
theorem txt_size (l : List UInt8) : (txt l).size = l.length := by show l.toArray.size = _; simp
theorem txt_app (a b : List UInt8) : txt a ++ txt b = txt (a ++ b) := by
  apply ByteArray.ext
  simp [txt]
/-- So many numbers, a blank ahead of each. -/
def numsTo (ns : List Int) (k : Nat) : List UInt8 := (ns.take k).flatMap fun n => 32 :: Lib.itoa n
theorem numsTo_zero (ns : List Int) : numsTo ns 0 = [] := by simp [numsTo]
theorem numsTo_succ (ns : List Int) (k : Nat) (h : k < ns.length) : numsTo ns (k + 1) = numsTo ns k ++ (32 :: Lib.itoa (ns.getD k 0)) := by
  unfold numsTo
  rw [take_snoc ns k h, List.flatMap_append]
  simp
/-- A line: a word, numbers, its end. -/
def lineL (w : List UInt8) (ns : List Int) : List UInt8 := w ++ numsTo ns ns.length ++ [10]

end Go.Proofs.YtaofpbmdloihgaaDoor

namespace Go.Proofs.YtaofpbmdloihgaaDoor
open Go.RowKit

theorem byte_cell1 (w : World) (n : Int) (i : Nat) (hi : i < 1) : (w.alloc (.cells #[.int .u8 n] 5)).cell? ⟨w.heap.size, 0 + i, none⟩ = some (.int .u8 (([n] : List Int).getD i 0)) := by
  rw [cell_of_row _ _ _ _ _ _ (heap_alloc_new _ _)]
  match i, hi with
  | 0, _ => rfl
theorem dec_small {j : Nat} (h : j < 10) : Lib.decDigits j = [UInt8.ofNat (48 + j)] := by rw [Lib.decDigits, dif_pos h]
theorem dec_big {j : Nat} (h : ¬ j < 10) : Lib.decDigits j = Lib.decDigits (j / 10) ++ [UInt8.ofNat (48 + j % 10)] := by rw [Lib.decDigits, dif_neg h]
theorem dec_len : ∀ (n j : Nat), j < 10 ^ (n + 1) → (Lib.decDigits j).length ≤ n + 1
  | 0, j, h => by rw [dec_small (by simpa using h)]; simp
  | n + 1, j, h => by
    by_cases hj : j < 10
    · rw [dec_small hj]; simp
    · rw [dec_big hj, List.length_append]
      have := dec_len n (j / 10) (by rw [Nat.div_lt_iff_lt_mul (by omega)]; rw [Nat.pow_succ] at h; exact h)
      simp
      omega
theorem nums_one (j : Nat) : strOfNums [48 + (j : Int)] = txt [UInt8.ofNat (48 + j)] := by
  unfold strOfNums txt
  have : ((48 : Int) + (j : Int)).toNat = 48 + j := by omega
  simp [this]

set_option maxHeartbeats 1000000 in
theorem l1Dec_any (k : Nat) (w : World) (h1 : k ≤ 1000000000) :
    Calls Tryd.prog 43 #[.int .i64 k] w fun e w' => e = .returned (.string (txt (Lib.itoa k))) ∧ Below w.heap.size w w' := by
  have HI : Hid (Lib.itoa k = Lib.decDigits k) := by show _ = _; unfold Lib.itoa; rw [if_neg (by omega)]; simp
  rw [HI.out]
  have hk0 : ¬ ((k : Int) < 0) := by omega
  go_enter Tryd.func43, Tryd.ntmps43
  go_wp2_with fail
  go_loopw [0, 3] (fun tk ts wr => ∃ (j : Nat) (l : List UInt8), j ≤ k ∧ tk = .int .i64 j ∧ ts = .string (txt l) ∧ Lib.decDigits k = Lib.decDigits j ++ l ∧ l.length ≤ 20 ∧ Below w.heap.size w wr) (fun tk _ _ => (intOf tk).toNat)
  case atStart => exact ⟨k, [], Nat.le_refl _, rfl, rfl, by simp, by simp, Below.refl _ _⟩
  case round =>
    obtain ⟨j, l, hj, rfl, rfl, hd, hl, hb⟩ := hrel
    have HD : Hid (Lib.decDigits k = Lib.decDigits j ++ l) := hd
    have B1 : Hid (Below w.heap.size w wr) := hb
    clear hd hb
    have HLl : Hid ((Lib.decDigits k).length ≤ 10) := dec_len 9 k (by omega)
    have hss := txt_size l
    by_cases hj0 : 10 ≤ j
    · have hj' : (10 : Int) ≤ j := by omega
      have hl2 : l.length + 1 ≤ 20 := by
        have := HLl.out
        rw [HD.out, List.length_append] at this
        omega
      have HD2 : Hid (Lib.decDigits k = Lib.decDigits (j / 10) ++ ([UInt8.ofNat (48 + j % 10)] ++ l)) := by
        show _ = _
        rw [HD.out, dec_big (by omega), List.append_assoc]
      have HA : Hid (txt ([UInt8.ofNat (48 + j % 10)] ++ l) = strOfNums [48 + (j : Int) % 10] ++ txt l) := by
        show _ = _
        rw [← txt_app, ← nums_one (j % 10)]
        rfl
      have hconv := run_convert_bytes_arg (P := Tryd.prog) _ 22 5 Tryd.underlying22 Tryd.underlying5 wr.heap.size 0 1 1 [48 + (j : Int) % 10] rfl (byte_cell1 wr (48 + (j : Int) % 10)) 9 Tryd.underlying9
      have hs1 := strOfNums_size [48 + (j : Int) % 10]
      generalize strOfNums [48 + (j : Int) % 10] = t1 at *
      generalize txt l = t2 at *
      have hs1' : t1.size = 1 := by simpa using hs1
      clear hs1
      have BA : Hid (Below w.heap.size w (wr.alloc (.cells #[.int .u8 (48 + (j : Int) % 10)] 5))) := B1.out.alloc B1.out.size _
      go_wp2_with fail
      exact ⟨⟨j / 10, _, by omega, by simp, by rw [HA.out], HD2.out, by simp; omega, BA.out⟩, by simp [intOf]; omega⟩
    · have hj' : ¬ ((10 : Int) ≤ j) := by omega
      have HM : Hid (txt (Lib.decDigits k) = strOfNums [48 + (j : Int)] ++ txt l) := by
        show _ = _
        rw [HD.out, dec_small (by omega), ← txt_app, nums_one j]
      have hconv := run_convert_bytes_arg (P := Tryd.prog) _ 22 5 Tryd.underlying22 Tryd.underlying5 wr.heap.size 0 1 1 [48 + (j : Int)] rfl (byte_cell1 wr (48 + (j : Int))) 9 Tryd.underlying9
      have hs1 := strOfNums_size [48 + (j : Int)]
      generalize strOfNums [48 + (j : Int)] = t1 at *
      generalize txt l = t2 at *
      have hs1' : t1.size = 1 := by simpa using hs1
      clear hs1 HD
      have BA : Hid (Below w.heap.size w (wr.alloc (.cells #[.int .u8 (48 + (j : Int))] 5))) := B1.out.alloc B1.out.size _
      go_wp2
      go_ret
      exact ⟨by rw [HM.out]; rfl, BA.out⟩

end Go.Proofs.YtaofpbmdloihgaaDoor

namespace Go.Proofs.YtaofpbmdloihgaaDoor
open Go.RowKit

/-- Numbers that a line bears: Ids and what is less. -/
def Small (ns : List Int) : Prop := ∀ n ∈ ns, 0 ≤ n ∧ n ≤ 1000000000
theorem numsTo_len (ns : List Int) (h : Small ns) : ∀ k, k ≤ ns.length → (numsTo ns k).length ≤ 22 * k
  | 0, _ => by rw [numsTo_zero]; simp
  | k + 1, hk => by
    have ih := numsTo_len ns h k (by omega)
    rw [numsTo_succ ns k (by omega), List.length_append, List.length_cons]
    have hm : ns.getD k 0 ∈ ns := by rw [List.getD_eq_getElem?_getD, List.getElem?_eq_getElem (show k < ns.length by omega)]; simp
    have := h _ hm
    have := Lib.itoa_length_le (ns.getD k 0) (by omega) (by omega)
    omega
theorem txt_blank (a b : List UInt8) : (txt a ++ (ByteArray.mk #[32])) ++ txt b = txt (a ++ (32 :: b)) := by
  show (txt a ++ txt [32]) ++ txt b = _
  rw [txt_app, txt_app, List.append_assoc]
  rfl

set_option maxHeartbeats 1000000 in
theorem l2Line_any (wd : List UInt8) (a : Option Addr) (c : Nat) (ns : List Int) (w : World) (hA : IntsAt w a ns) (hs : Small ns) (hn : ns.length ≤ 1000) (hw : wd.length ≤ 1000) :
    Calls Tryd.prog 19 #[.string (txt wd), .slice a ns.length c] w fun e w' => e = .returned (.string (txt (lineL wd ns))) ∧ Below w.heap.size w w' := by
  have HA : Hid (IntsAt w a ns) := hA
  have HSM : Hid (Small ns) := hs
  clear hA hs
  obtain ⟨x, HX⟩ : ∃ x, Hid (txt (lineL wd ns) = x) := ⟨_, rfl⟩
  rw [HX.out]
  obtain ⟨m, HN⟩ : ∃ n, Hid (ns.length = n) := ⟨_, rfl⟩
  rw [HN.out] at hn ⊢
  go_enter Tryd.func19, Tryd.ntmps19
  go_wp2_with fail
  go_loopw [0, 5] (fun ts ti wr => ∃ k : Nat, k ≤ m ∧ ti = .int .i64 k ∧ ts = .string (txt (wd ++ numsTo ns k)) ∧ Below w.heap.size w wr) (fun _ ti _ => m - (intOf ti).toNat)
  case atStart => exact ⟨0, Nat.zero_le _, rfl, by rw [numsTo_zero, List.append_nil], Below.refl _ _⟩
  case round =>
    obtain ⟨k, hk, rfl, rfl, hb⟩ := hrel
    have B1 : Hid (Below w.heap.size w wr) := hb
    clear hb
    have HLEN : Hid ((numsTo ns k).length ≤ 22 * k) := numsTo_len ns HSM.out k (by rw [HN.out]; exact hk)
    have hts : (txt (wd ++ numsTo ns k)).size ≤ 23000 := by
      have := HLEN.out
      rw [txt_size, List.length_append]
      omega
    by_cases hlt : k < m
    · have hkl : k < ns.length := by rw [HN.out]; exact hlt
      obtain ⟨b, off, rfl, hc⟩ := (HA.out.below B1.out) k hkl
      have hm : ns.getD k 0 ∈ ns := by rw [List.getD_eq_getElem?_getD, List.getElem?_eq_getElem hkl]; simp
      have hbd := HSM.out _ hm
      have HSTEP : Hid (txt (wd ++ numsTo ns (k + 1)) = (txt (wd ++ numsTo ns k) ++ (ByteArray.mk #[32])) ++ txt (Lib.itoa (ns.getD k 0))) := by
        show _ = _
        rw [txt_blank, numsTo_succ ns k hkl, List.append_assoc]
      obtain ⟨id, HID⟩ : ∃ t, Hid (ns.getD k 0 = t) := ⟨_, rfl⟩
      rw [HID.out] at hc hbd HSTEP
      clear hm hkl
      obtain ⟨j, HJ⟩ : ∃ j : Nat, Hid (id = (j : Int)) := ⟨id.toNat, by show _ = _; omega⟩
      have hj : j ≤ 1000000000 := by have := HJ.out; omega
      rw [HJ.out] at hc HSTEP
      have hil := Lib.itoa_length_le (j : Int) (by omega) (by omega)
      have hi2 : (txt (Lib.itoa (j : Int))).size ≤ 21 := by rw [txt_size]; exact hil
      have HD := l1Dec_any j wr hj
      have h32 : (ByteArray.mk #[32]).size = 1 := rfl
      clear hil
      generalize txt (wd ++ numsTo ns k) = t0 at *
      generalize txt (Lib.itoa (j : Int)) = t1 at *
      have hsz : (t0 ++ ByteArray.mk #[32]).size ≤ 23001 := by rw [ByteArray.size_append]; omega
      go_wp2_with (go_at_call 43; refine HD.mono ?_; rintro e w1 ⟨rfl, hb1⟩)
      first
        | exact ⟨⟨k + 1, by omega, by go_num, by rw [HSTEP.out], B1.out.trans ((by assumption : Below wr.heap.size wr _).mono B1.out.size)⟩, by simp [intOf]; omega⟩
        | (go_roundw
           case rel => exact ⟨k + 1, by omega, by go_num, by rw [HSTEP.out], B1.out.trans ((by assumption : Below wr.heap.size wr _).mono B1.out.size)⟩
           case measure => simp [intOf]; omega)
    · have hkm : k = m := by omega
      have HE : Hid (x = txt (wd ++ numsTo ns k) ++ (ByteArray.mk #[10])) := by
        show _ = _
        rw [← HX.out, hkm]
        unfold lineL
        rw [HN.out, ← txt_app]
        rfl
      clear hkm
      have h10 : (ByteArray.mk #[10]).size = 1 := rfl
      generalize txt (wd ++ numsTo ns k) = t0 at *
      go_wp2
      go_ret
      exact ⟨by rw [HE.out]; rfl, B1.out⟩

end Go.Proofs.YtaofpbmdloihgaaDoor

namespace Go.Proofs.YtaofpbmdloihgaaDoor
open Go.RowKit

def wCase : List UInt8 := [99, 97, 115, 101]
def wTimes : List UInt8 := [116, 105, 109, 101, 115]
def wOrder : List UInt8 := [111, 114, 100, 101, 114]
def wVehicle : List UInt8 := [118, 101, 104, 105, 99, 108, 101]
/-- The row x of a matrix of n places. -/
def rowL (zs : List Int) (n x : Nat) : List Int := (zs.drop (x * n)).take n
def ordF (os : List Int) (i : Nat) : List Int := [og6 os i 0, og6 os i 1, og6 os i 2, og6 os i 3, og6 os i 4, og6 os i 5]
def vehF (vs : List Int) (i : Nat) : List Int := [og5 vs i 0, og5 vs i 1, og5 vs i 2, og5 vs i 3, og5 vs i 4]
/-- The lines so far. -/
def timesL (zs : List Int) (n : Nat) : Nat → List UInt8
  | 0 => []
  | k + 1 => timesL zs n k ++ lineL wTimes (rowL zs n k)
def ordersL (os : List Int) : Nat → List UInt8
  | 0 => []
  | k + 1 => ordersL os k ++ lineL wOrder (ordF os k)
def vehiclesL (vs : List Int) : Nat → List UInt8
  | 0 => []
  | k + 1 => vehiclesL vs k ++ lineL wVehicle (vehF vs k)
def headL (n fine : Int) : List UInt8 := lineL wCase [n, fine]
/-- What CaseText writes of a case that is right. -/
def caseL (n fine : Int) (zs os vs : List Int) (ko kv : Nat) : List UInt8 := headL n fine ++ timesL zs n.toNat n.toNat ++ ordersL os ko ++ vehiclesL vs kv
theorem lineL_len (w : List UInt8) (ns : List Int) (h : Small ns) : (lineL w ns).length ≤ w.length + 22 * ns.length + 1 := by
  have := numsTo_len ns h ns.length (Nat.le_refl _)
  unfold lineL
  rw [List.length_append, List.length_append]
  simp
  omega
theorem row_len {zs : List Int} {n x : Nat} (h : zs.length = n * n) (hx : x < n) : (rowL zs n x).length = n := by
  unfold rowL
  rw [List.length_take, List.length_drop, h]
  have : (x + 1) * n ≤ n * n := Nat.mul_le_mul_right n hx
  rw [Nat.add_mul] at this
  omega
theorem row_small {n : Int} {zs : List Int} (h : matB n zs = true) (x : Nat) : Small (rowL zs n.toNat x) := fun v hv => by
  unfold rowL at hv
  obtain ⟨j, hj, e⟩ := List.getElem_of_mem (List.mem_of_mem_drop (List.mem_of_mem_take hv))
  have := (matB_true h).2.2.2 j hj
  rw [List.getD_eq_getElem?_getD, List.getElem?_eq_getElem hj] at this
  simp only [Option.getD_some, e] at this
  omega
theorem ord_small {n : Int} {os : List Int} {ko i : Nat} (h : ordsB n os ko = true) (hn : n ≤ 16) (hi : i < ko) : Small (ordF os i) := fun v hv => by
  have := ((ordsB_true h).2 i hi).1
  unfold ordB ordIn hoursB inB at this
  simp at this
  unfold ordF at hv
  simp at hv
  rcases hv with rfl | rfl | rfl | rfl | rfl | rfl <;> omega
theorem veh_small {n : Int} {vs : List Int} {kv i : Nat} (h : vehsB n vs kv = true) (hn : n ≤ 16) (hi : i < kv) : Small (vehF vs i) := fun v hv => by
  have := ((vehsB_true h).2 i hi).1
  unfold vehB vehIn hoursB inB at this
  simp at this
  unfold vehF at hv
  simp at hv
  rcases hv with rfl | rfl | rfl | rfl | rfl <;> omega
theorem timesL_len {n : Int} {zs : List Int} (h : matB n zs = true) : ∀ k, k ≤ n.toNat → (timesL zs n.toNat k).length ≤ 400 * k
  | 0, _ => by simp [timesL]
  | k + 1, hk => by
    have ih := timesL_len h k (by omega)
    obtain ⟨h1, h2, h3, _⟩ := matB_true h
    have hzl : zs.length = n.toNat * n.toNat := by
      have : (n.toNat : Int) = n := by omega
      have e : ((n.toNat * n.toNat : Nat) : Int) = n * n := by rw [Int.natCast_mul, this]
      omega
    have hl := lineL_len wTimes _ (row_small h k)
    rw [row_len hzl (by omega)] at hl
    have hw : wTimes.length = 5 := rfl
    simp only [timesL]
    rw [List.length_append]
    omega
theorem ordersL_len {n : Int} {os : List Int} {ko : Nat} (h : ordsB n os ko = true) (hn : n ≤ 16) : ∀ k, k ≤ ko → (ordersL os k).length ≤ 400 * k
  | 0, _ => by simp [ordersL]
  | k + 1, hk => by
    have ih := ordersL_len h hn k (by omega)
    have hl := lineL_len wOrder _ (ord_small h hn (show k < ko by omega))
    have hw : wOrder.length = 5 := rfl
    have hf : (ordF os k).length = 6 := rfl
    simp only [ordersL]
    rw [List.length_append]
    omega
theorem vehiclesL_len {n : Int} {vs : List Int} {kv : Nat} (h : vehsB n vs kv = true) (hn : n ≤ 16) : ∀ k, k ≤ kv → (vehiclesL vs k).length ≤ 400 * k
  | 0, _ => by simp [vehiclesL]
  | k + 1, hk => by
    have ih := vehiclesL_len h hn k (by omega)
    have hl := lineL_len wVehicle _ (veh_small h hn (show k < kv by omega))
    have hw : wVehicle.length = 7 := rfl
    have hf : (vehF vs k).length = 5 := rfl
    simp only [vehiclesL]
    rw [List.length_append]
    omega

end Go.Proofs.YtaofpbmdloihgaaDoor

namespace Go.Proofs.YtaofpbmdloihgaaDoor
open Go.RowKit

/-- A case in its box. -/
def CB (w W : World) (cs : Array Value) : Prop := Below w.heap.size w W ∧ W.heap[w.heap.size]? = some (.cells cs 30 (0, 0))
theorem CB.new (w : World) (cs : Array Value) : CB w (w.alloc (.cells cs 30)) cs := ⟨(Below.refl _ _).alloc (Nat.le_refl _) _, heap_alloc_new _ _⟩
theorem CB.below {w W W' : World} {cs : Array Value} (h : CB w W cs) (hb : Below W.heap.size W W') : CB w W' cs := ⟨h.1.trans (hb.mono h.1.size), below_row hb (row_lt h.2) h.2⟩

theorem wrap_mul (k N lo : Nat) (h : k * N = lo) (hb : lo ≤ 1000) : wrap64 ((k : Int) * (N : Int)) = (lo : Int) := by
  have e : (k : Int) * (N : Int) = (lo : Int) := by rw [← h]; exact (Int.natCast_mul k N).symm
  rw [e]
  exact IntWalk.wrap64_in _ (by omega)
theorem ints_rowL {w : World} {b off : Nat} {zs : List Int} {N k lo : Nat} (h : IntsAt w (some ⟨b, off, none⟩) zs) (hl : k * N = lo) (hz : lo + N ≤ zs.length) : IntsAt w (some ⟨b, off + lo, none⟩) (rowL zs N k) := fun j hj => by
  have hj' : j < N := by unfold rowL at hj; rw [List.length_take] at hj; omega
  obtain ⟨b', off', e, hc⟩ := h (lo + j) (by omega)
  simp at e
  obtain ⟨rfl, rfl⟩ := e
  refine ⟨b, off + lo, rfl, ?_⟩
  rw [Nat.add_assoc, hc]
  unfold rowL
  rw [List.getD_eq_getElem?_getD, List.getD_eq_getElem?_getD, List.getElem?_take, if_pos hj', List.getElem?_drop, hl]

end Go.Proofs.YtaofpbmdloihgaaDoor
