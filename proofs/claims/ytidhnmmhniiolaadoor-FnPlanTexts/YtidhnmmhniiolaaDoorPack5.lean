import Derived.Test.YtidhnmmhniiolaaDoorPack2
import Derived.Test.YtidhnmmhniiolaaDoorBuildBytes
import Derived.Test.YtidhnmmhniiolaaDoorFmtLay
import Derived.Lib.LaidTab
namespace Go.Proofs.YtidhnmmhniiolaaDoor
open Go.RowKit

/-- The table of the powers of ten, as it is laid. -/
def PW (w : World) : Prop := Lib.TabIs Tryd.prog w "internal/strconv.uint64pow10" .u64 Lib.pow10Tab
theorem PW.below {w w' : World} {B : Nat} (h : PW w) (hb : Below B w w') (hB : w.heap.size ≤ B) : PW w' := by
  unfold PW Lib.TabIs World.var? at *
  cases hg : Tryd.prog.globalNamed "internal/strconv.uint64pow10" with
  | none => simp [hg] at h
  | some g =>
    simp only [hg, Option.bind_some] at h ⊢
    cases ho : w.heap[g]? with
    | none => simp [ho] at h
    | some o =>
      rw [below_row hb (Nat.lt_of_lt_of_le (row_lt ho) hB) ho]
      rw [ho] at h
      exact h
theorem BU.below {B b : Nat} {l : List UInt8} {w w' : World} (h : BU B b l w) (hb : Below w.heap.size w w') : BU B b l w' := by
  have key : ∀ p, Lib.BuilderAtF 47 5 B b p (Lib.byteCells l) w → Lib.BuilderAtF 47 5 B b p (Lib.byteCells l) w' := fun p h => by
    have hlt := h.lt
    obtain ⟨hB, v, hbk, hown, hne⟩ := h
    refine ⟨hB, v, below_row hb hlt hbk, ⟨hown.1, ?_⟩, hne⟩
    rcases hown.2 with h | ⟨g, cap, cur, fz, hv, hbg, hg, r⟩
    · exact .inl h
    · exact .inr ⟨g, cap, cur, fz, hv, hbg, below_row hb (row_lt hg) hg, r⟩
  exact h.elim (fun x => .inl (key _ x)) (fun x => .inr (key _ x))
theorem Wrt.of_below {B b : Nat} {w w' : World} (hb : Below w.heap.size w w') (hB : B ≤ w.heap.size) : Wrt B b w w' :=
  ⟨hb.mono hB, fun _ _ hk _ _ => below_row hb (row_lt hk) hk⟩
theorem below_drewN (w : World) (q : Nat) (os : Array Obj) : Below w.heap.size w (Sort.grow (w.drewN q) os) :=
  ⟨rfl, rfl, rfl, by show w.heap.size ≤ (w.heap ++ os).size; simp, fun i hi => by
    show (w.heap ++ os)[i]? = _
    exact Array.getElem?_append_left hi⟩
theorem BU.new (B : Nat) (w : World) (hB : B ≤ w.heap.size) : BU B w.heap.size [] (w.alloc (.cells #[.pointer none, .slice none 0 0] 47)) := by
  refine .inl ⟨hB, .slice none 0 0, heap_alloc_new _ _, ⟨by decide, .inl ⟨rfl, rfl⟩⟩, by simp [Value.ownBlock]⟩
theorem BU.lt {B b : Nat} {l : List UInt8} {w : World} (h : BU B b l w) : b < w.heap.size := h.elim (fun x => x.lt) (fun x => x.lt)

set_option maxHeartbeats 2000000 in
set_option maxRecDepth 100000 in
theorem writeLine_any (B b : Nat) (l wd : List UInt8) (a : Option Addr) (cap : Nat) (ns : List Int) (w : World) (hB : BU B b l w) (hBw : B ≤ w.heap.size) (hA : ∀ W', Wrt B b w W' → IntsAt W' a ns) (hT : ∀ W', Below B w W' → PW W') (hs : Small ns) (hn : ns.length ≤ 1000) (hwd : wd.length ≤ 1000) (hl : l.length ≤ 100000000) :
    Calls Tryd.prog 16 #[.pointer (some ⟨b, 0, none⟩), .string (txt wd), .slice a ns.length cap] w fun e w' => e = .returned (.tuple #[]) ∧ BU B b (l ++ lineL wd ns) w' ∧ Wrt B b w w' := by
  have HA : Hid (∀ W', Wrt B b w W' → IntsAt W' a ns) := hA
  have HT : Hid (∀ W', Below B w W' → PW W') := hT
  have HSM : Hid (Small ns) := hs
  have HBW : Hid (B ≤ w.heap.size) := hBw
  have C0 := writeString_any B b l wd w hB (by omega) (by omega) hBw
  obtain ⟨m, HN⟩ : ∃ m, Hid (ns.length = m) := ⟨_, rfl⟩
  have HX : Hid (l ++ lineL wd ns = l ++ wd ++ numsTo ns m ++ [10]) := by
    show _ = _
    unfold lineL
    rw [← HN.out]
    simp
  rw [HX.out]
  rw [HN.out] at hn ⊢
  clear hA hT hs hB
  generalize txt wd = t at *
  go_enter Tryd.func16, Tryd.ntmps16
  go_wp2_with fail
  refine C0.mono ?_
  rintro e w1 ⟨rfl, hb1, hk1⟩
  have U1 : Hid (BU B b (l ++ wd) w1) := hb1
  have K1 : Hid (Wrt B b w w1) := hk1
  clear hb1 hk1 C0
  go_wp2_with fail
  go_loopw [13] (fun t wr => ∃ k : Nat, k ≤ m ∧ t = .int .i64 k ∧ BU B b (l ++ wd ++ numsTo ns k) wr ∧ Wrt B b w wr) (fun t _ => m - (intOf t).toNat)
  case atStart => exact ⟨0, Nat.zero_le _, rfl, by rw [numsTo_zero, List.append_nil]; exact U1.out, K1.out⟩
  case round =>
    clear U1 K1
    obtain ⟨k, hk, rfl, hu, hw⟩ := hrel
    have U1 : Hid (BU B b (l ++ wd ++ numsTo ns k) wr) := hu
    have K1 : Hid (Wrt B b w wr) := hw
    have BS : Hid (B ≤ wr.heap.size) := Nat.le_trans hBw hw.1.size
    clear hu hw
    have HLEN : Hid ((l ++ wd ++ numsTo ns k).length ≤ 200000000) := by
      have := numsTo_len ns HSM.out k (by rw [HN.out]; exact hk)
      show _ ≤ _
      rw [List.length_append, List.length_append]
      omega
    by_cases hlt : k < m
    · have hkl : k < ns.length := by rw [HN.out]; exact hlt
      obtain ⟨b1, off, rfl, hc⟩ := (HA.out wr K1.out) k hkl
      have hm : ns.getD k 0 ∈ ns := by rw [List.getD_eq_getElem?_getD, List.getElem?_eq_getElem hkl]; simp
      have hbd := HSM.out _ hm
      have HSTEP : Hid (l ++ wd ++ numsTo ns (k + 1) = l ++ wd ++ numsTo ns k ++ [32] ++ Lib.itoa (ns.getD k 0)) := by
        show _ = _
        rw [numsTo_succ ns k hkl]
        simp
      obtain ⟨id, HID⟩ : ∃ t, Hid (ns.getD k 0 = t) := ⟨_, rfl⟩
      rw [HID.out] at hc hbd HSTEP
      clear hm hkl
      have HIL : Hid ((Lib.itoa id).length ≤ 21) := Lib.itoa_length_le id (by omega) (by omega)
      have C1 := writeByte_any B b (l ++ wd ++ numsTo ns k) 32 wr U1.out (by have := HLEN.out; omega) BS.out
      rw [show (((32 : UInt8).toNat : Nat) : Int) = 32 from rfl] at C1
      go_wp2_with fail
      clear hc
      refine C1.mono ?_
      rintro e w2 ⟨rfl, hb2, hk2⟩
      have U2 : Hid (BU B b (l ++ wd ++ numsTo ns k ++ [32]) w2) := hb2
      have K2 : Hid (Wrt B b w w2) := K1.out.trans hk2
      have B2 : Hid (B ≤ w2.heap.size) := Nat.le_trans BS.out hk2.1.size
      clear hb2 hk2 C1 U1 K1 BS
      have C2 := Tryd.strconv_FormatInt_10 id (by omega) (by omega) w2 (HT.out w2 K2.out.1)
      go_wp2_with fail
      refine C2.mono ?_
      rintro e w3 ⟨rfl, kk, os, hw3⟩
      have hb3 : Below w2.heap.size w2 w3 := by rw [hw3]; exact below_drewN _ _ _
      have U3 : Hid (BU B b (l ++ wd ++ numsTo ns k ++ [32]) w3) := U2.out.below hb3
      have K3 : Hid (Wrt B b w w3) := K2.out.trans (Wrt.of_below hb3 B2.out)
      have B3 : Hid (B ≤ w3.heap.size) := Nat.le_trans B2.out hb3.size
      clear hb3 hw3 C2 U2 K2 B2
      have C3 := writeString_any B b (l ++ wd ++ numsTo ns k ++ [32]) (Lib.itoa id) w3 U3.out (by have := HLEN.out; rw [List.length_append]; simp only [List.length_cons, List.length_nil]; omega) (by have := HIL.out; omega) B3.out
      rw [← HSTEP.out] at C3
      change Calls Tryd.prog 41 #[.pointer (some ⟨b, 0, none⟩), .string ⟨(Lib.itoa id).toArray⟩] w3 _ at C3
      generalize (ByteArray.mk (Lib.itoa id).toArray) = tt at *
      go_wp2_with fail
      refine C3.mono ?_
      rintro e w4 ⟨rfl, hb4, hk4⟩
      have U4 : Hid (BU B b (l ++ wd ++ numsTo ns (k + 1)) w4) := hb4
      have K4 : Hid (Wrt B b w w4) := K3.out.trans hk4
      clear hb4 hk4 C3 U3 K3 B3
      go_wp2_with fail
      go_roundw
      case rel => exact ⟨k + 1, by omega, by go_num, U4.out, K4.out⟩
      case measure => simp [intOf]; omega
    · have hkm : k = m := by omega
      subst hkm
      have C1 := writeByte_any B b (l ++ wd ++ numsTo ns k) 10 wr U1.out (by have := HLEN.out; omega) BS.out
      rw [show (((10 : UInt8).toNat : Nat) : Int) = 10 from rfl] at C1
      go_wp2_with fail
      refine C1.mono ?_
      rintro e w2 ⟨rfl, hb2, hk2⟩
      have U2 : Hid (BU B b (l ++ wd ++ numsTo ns k ++ [10]) w2) := hb2
      have K2 : Hid (Wrt B b w w2) := K1.out.trans hk2
      clear hb2 hk2 C1 U1 K1 BS
      go_wp2
      first | refine bodyPost_end (results_none rfl _ _ _) rfl ?_ | refine bodyPost_ret (results_none rfl _ _ _) rfl ?_
      exact ⟨rfl, U2.out, K2.out⟩

end Go.Proofs.YtidhnmmhniiolaaDoor

namespace Go.Proofs.YtidhnmmhniiolaaDoor
open Go.RowKit

theorem Wrt.row {B b k : Nat} {cs : Array Value} {T : TypeId} {fz : Nat × Nat} {w w' : World} (h : Wrt B b w w') (hr : w.heap[k]? = some (.cells cs T fz)) (hk : k ≠ b) (hT : T ≠ 5) : w'.heap[k]? = some (.cells cs T fz) :=
  h.2 k _ hr (fun e => hk (Option.some.inj e)) (fun _ _ e => hT (by injection e))

end Go.Proofs.YtidhnmmhniiolaaDoor
