import Derived.Test.YtcapkcallaajaaaGreatDoorPack1
import Derived.Test.YtcapkcallaajaaaGreatDoorPack3
import Derived.Test.YtcapkcallaajaaaGreatDoorPack4
import Derived.Test.YtcapkcallaajaaaGreatDoorPack9
import Derived.Deep.CutRange
namespace Go.Proofs.YtcapkcallaajaaaGreatDoor
open Go.RowKit
structure QA (w : World) (a ao av ra la : Option Addr) (zs os vs : List Int) (S : List RT) (L : List Int) : Prop where
 iz : IntsAt w a zs
 io : IntsAt w ao os
 iv : IntsAt w av vs
 rs : RoutesAt w ra S
 il : IntsAt w la L
theorem QA.below {w w' : World} {a ao av ra la : Option Addr} {zs os vs L : List Int} {S : List RT} (h : QA w a ao av ra la zs os vs S L) (hb : Below w.heap.size w w') : QA w' a ao av ra la zs os vs S L := ⟨h.iz.below hb, h.io.below hb, h.iv.below hb, h.rs.below hb, h.il.below hb⟩
structure QZ (nm : List UInt8) (zl cap ko kv rn ln : Nat) (zs os vs : List Int) (S : List RT) (L : List Int) : Prop where
 nl : nm.length <= 1000000000
 zn : zs.length = zl
 on : os.length = ko * 6
 vn : vs.length = kv * 5
 kb : ko <= 1048576 /\ kv <= 1048576 /\ zl <= 1048576
 cb : zl <= cap
 sn : S.length = rn
 ll : L.length = ln
 rb : rn <= 1048576 /\ ln <= 1048576
 ib : ∀ r ∈ S, r.ids.length <= 1048576
 ad : ∀ r ∈ S, (r.a = none /\ r.ids = []) ∨ ∃ b off, r.a = some ⟨b, off, none⟩
theorem noCaseB_any (n f : Int) (a ao av : Option Addr) (zl cap ko co kv cv : Nat) (w : World) : Calls Tryz.prog 53 #[.agg #[.int .i64 n, .slice a zl cap, .slice ao ko co, .slice av kv cv, .int .i64 f]] w fun e w' => e = .returned (.bool (decide (n = 0 /\ zl = 0 /\ ko = 0 /\ kv = 0 /\ f = 0))) /\ Below w.heap.size w w' := by
 obtain ⟨d0, d1, d2, d3, d4⟩ := cells5 (heap_alloc_new w (.cells #[.int .i64 n, .slice a zl cap, .slice ao ko co, .slice av kv cv, .int .i64 f] 28))
 have HB := hdn ((Below.refl w.heap.size w).alloc (Nat.le_refl _) (.cells #[.int .i64 n, .slice a zl cap, .slice ao ko co, .slice av kv cv, .int .i64 f] 28))
 by_cases h0 : n = 0
 · have g0 : ((n == 0) = true) := by simp [h0]
   by_cases h1 : zl = 0
   · have g1 : (((zl : Int) == 0) = true) := by simp [h1]
     by_cases h2 : ko = 0
     · have g2 : (((ko : Int) == 0) = true) := by simp [h2]
       by_cases h3 : kv = 0
       · have g3 : (((kv : Int) == 0) = true) := by simp [h3]
         by_cases h4 : f = 0
         · have g4 : ((f == 0) = true) := by simp [h4]
           rw [decide_eq_true ⟨h0, h1, h2, h3, h4⟩]
           clear h0 h1 h2 h3 h4
           go_enter Tryz.func53, Tryz.ntmps53
           go_wp2
           go_ret
           exact ⟨rfl, HB.out⟩
         · have g4 : ((f == 0) = false) := by simpa using h4
           rw [decide_eq_false (fun h => h4 h.2.2.2.2)]
           clear h0 h1 h2 h3 h4
           go_enter Tryz.func53, Tryz.ntmps53
           go_wp2
           go_ret
           exact ⟨rfl, HB.out⟩
       · have g3 : (((kv : Int) == 0) = false) := by simpa using h3
         rw [decide_eq_false (fun h => h3 h.2.2.2.1)]
         clear h0 h1 h2 h3
         go_enter Tryz.func53, Tryz.ntmps53
         go_wp2
         go_ret
         exact ⟨rfl, HB.out⟩
     · have g2 : (((ko : Int) == 0) = false) := by simpa using h2
       rw [decide_eq_false (fun h => h2 h.2.2.1)]
       clear h0 h1 h2
       go_enter Tryz.func53, Tryz.ntmps53
       go_wp2
       go_ret
       exact ⟨rfl, HB.out⟩
   · have g1 : (((zl : Int) == 0) = false) := by simpa using h1
     rw [decide_eq_false (fun h => h1 h.2.1)]
     clear h0 h1
     go_enter Tryz.func53, Tryz.ntmps53
     go_wp2
     go_ret
     exact ⟨rfl, HB.out⟩
 · have g0 : ((n == 0) = false) := by simpa using h0
   rw [decide_eq_false (fun h => h0 h.1)]
   clear h0
   go_enter Tryz.func53, Tryz.ntmps53
   go_wp2
   go_ret
   exact ⟨rfl, HB.out⟩
set_option maxRecDepth 20000 in
set_option maxHeartbeats 8000000 in
theorem l11Form_any (k id sd st n f : Int) (nm : List UInt8) (a ao av ra la : Option Addr) (zl cap ko co kv cv rn rc ln lc : Nat) (zs os vs L : List Int) (S : List RT) (w : World) (hA : QA w a ao av ra la zs os vs S L) (hZ : QZ nm zl cap ko kv rn ln zs os vs S L) :
 Calls Tryz.prog 27 #[.agg #[.int .i64 k, .string (txt nm), .int .i64 id, .int .i64 sd, .int .i64 st, .int .i64 n, .slice a zl cap, .slice ao ko co, .slice av kv cv, .int .i64 f, .slice ra rn rc, .slice la ln lc]] w fun e w' => e = .returned (.bool (QV.ok ⟨k, nm, id, sd, st, ⟨n, f, zs, os, vs, ko, kv⟩, S, L⟩)) /\ Below w.heap.size w w' := by
 obtain ⟨ok, HOK⟩ := nmd (QV.ok ⟨k, nm, id, sd, st, ⟨n, f, zs, os, vs, ko, kv⟩, S, L⟩)
 rw [HOK.out]
 have QW := hdn (hA)
 have ZW := hdn (hZ)
 clear hA hZ
 have R0 : Hid ((w.alloc (.cells #[.int .i64 k, .string (txt nm), .int .i64 id, .int .i64 sd, .int .i64 st, .int .i64 n, .slice a zl cap, .slice ao ko co, .slice av kv cv, .int .i64 f, .slice ra rn rc, .slice la ln lc] 33)).heap[w.heap.size]? = some (.cells #[.int .i64 k, .string (txt nm), .int .i64 id, .int .i64 sd, .int .i64 st, .int .i64 n, .slice a zl cap, .slice ao ko co, .slice av kv cv, .int .i64 f, .slice ra rn rc, .slice la ln lc] 33 (0, 0))) := heap_alloc_new _ _
 have HB := hdn ((Below.refl w.heap.size w).alloc (Nat.le_refl _) (.cells #[.int .i64 k, .string (txt nm), .int .i64 id, .int .i64 sd, .int .i64 st, .int .i64 n, .slice a zl cap, .slice ao ko co, .slice av kv cv, .int .i64 f, .slice ra rn rc, .slice la ln lc] 33))
 obtain ⟨nn, HNN⟩ := nmd (decide (n = 0 /\ zl = 0 /\ ko = 0 /\ kv = 0 /\ f = 0))
 obtain ⟨bb, HBB⟩ := nmd (decide (rn = 0 /\ ln = 0))
 obtain ⟨cc, HCC⟩ := nmd (decide (sd = 0 /\ st = 0))
 obtain ⟨ii, HII⟩ := nmd (inB id 1 1000000000)
 obtain ⟨mm, HMM⟩ := nmd (nmB nm)
 have NC := noCaseB_any n f a ao av zl cap ko co kv cv (w.alloc (.cells #[.int .i64 k, .string (txt nm), .int .i64 id, .int .i64 sd, .int .i64 st, .int .i64 n, .slice a zl cap, .slice ao ko co, .slice av kv cv, .int .i64 f, .slice ra rn rc, .slice la ln lc] 33))
 rw [HNN.out] at NC
 have HOKD : Hid (ok = (mm && (if k = 1 then caseB n zs os vs ko kv f && (bb && (cc && decide (id = 0))) else if k = 2 then nn && (formB S L && (cc && ii)) else if k = 3 then nn && (bb && (inB sd 0 2147483647 && (inB st 0 60 && ii))) else if k = 4 then nn && (bb && (cc && ii)) else if k = 5 then nn && (bb && (cc && decide (id = 0))) else false))) := by
  show _ = _
  rw [<- HOK.out, <- HNN.out, <- HBB.out, <- HCC.out, <- HII.out, <- HMM.out, <- ZW.out.zn, <- ZW.out.sn, <- ZW.out.ll]
  rfl
 obtain ⟨d0, d1, d2, d3, d4, d5, d6, d7, d8, d9, d10, d11⟩ := cells12q R0.out
 go_enter Tryz.func27, Tryz.ntmps27
 go_wp2_with fail
 clear d0 d1 d2 d3 d4 d5 d6 d7 d8 d9 d10 d11
 have hold := (Nat.le_refl w.heap.size)
 generalize (w.alloc (.cells #[.int .i64 k, .string (txt nm), .int .i64 id, .int .i64 sd, .int .i64 st, .int .i64 n, .slice a zl cap, .slice ao ko co, .slice av kv cv, .int .i64 f, .slice ra rn rc, .slice la ln lc] 33)) = W0 at *
 refine NC.mono ?_
 rintro e w1 ⟨rfl, hb⟩
 have R1 := hdn (below_row hb (row_lt R0.out) R0.out)
 have B1 := hdn (HB.out.trans (hb.mono HB.out.size))
 clear hb hold R0 HB NC
 obtain ⟨d0, d1, d2, d3, d4, d5, d6, d7, d8, d9, d10, d11⟩ := cells12q R1.out
 go_upto_region 2 with fail
 go_cut [4] from 10 to 21 (fun s4 wx => s4 = .bool bb /\ wx = w1)
 case first =>
  by_cases h1 : rn = 0
  · have g1 : ((rn : Int) == 0) = true := by simp [h1]
    by_cases h2 : ln = 0
    · have g2 : ((ln : Int) == 0) = true := by simp [h2]
      have e : bb = true := by rw [<- HBB.out]; exact decide_eq_true ⟨h1, h2⟩
      clear h1 h2
      go_wp2
      go_meet
      exact ⟨by rw [e], rfl⟩
    · have g2 : ((ln : Int) == 0) = false := by simpa using h2
      have e : bb = false := by rw [<- HBB.out]; exact decide_eq_false (fun h => h2 h.2)
      clear h1 h2
      go_wp2
      go_meet
      exact ⟨by rw [e], rfl⟩
  · have g1 : ((rn : Int) == 0) = false := by simpa using h1
    have e : bb = false := by rw [<- HBB.out]; exact decide_eq_false (fun h => h1 h.1)
    clear h1
    go_wp2
    go_meet
    exact ⟨by rw [e], rfl⟩
 case rest =>
  obtain ⟨rfl, hwc⟩ := hcut; subst wc
  go_upto_region 3 with fail
  go_cut [5] from 22 to 29 (fun s5 wx => s5 = .bool cc /\ wx = w1)
  case first =>
   by_cases h1 : sd = 0
   · have g1 : (sd == 0) = true := by simp [h1]
     by_cases h2 : st = 0
     · have g2 : (st == 0) = true := by simp [h2]
       have e : cc = true := by rw [<- HCC.out]; exact decide_eq_true ⟨h1, h2⟩
       clear h1 h2
       go_wp2
       go_meet
       exact ⟨by rw [e], rfl⟩
     · have g2 : (st == 0) = false := by simpa using h2
       have e : cc = false := by rw [<- HCC.out]; exact decide_eq_false (fun h => h2 h.2)
       clear h1 h2
       go_wp2
       go_meet
       exact ⟨by rw [e], rfl⟩
   · have g1 : (sd == 0) = false := by simpa using h1
     have e : cc = false := by rw [<- HCC.out]; exact decide_eq_false (fun h => h1 h.1)
     clear h1
     go_wp2
     go_meet
     exact ⟨by rw [e], rfl⟩
  case rest =>
   obtain ⟨rfl, hwc⟩ := hcut; subst wc
   have LI := l1In_any id 1 1000000000 w1
   have LN := l11Name_any nm w1 ZW.out.nl
   rw [HII.out] at LI
   rw [HMM.out] at LN
   clear HII HMM HNN HBB HCC HOK
   have A1 := hdn (QW.out.below B1.out)
   clear QW
   go_wp2_with fail
   refine LI.mono ?_
   rintro e w' ⟨rfl, hw⟩
   subst w'
   clear LI
   go_wp2_with fail
   refine LN.mono ?_
   rintro e w' ⟨rfl, hw⟩
   subst w'
   clear LN
   cases mm
   · skip
     have e : ok = false := by rw [HOKD.out]; simp
     clear HOKD
     go_wp2
     go_ret
     exact ⟨by rw [e]; rfl, B1.out⟩
   · skip
     by_cases k1 : k = 1
     · subst k1
       have C := specCase_any n f a ao av cap ko co kv cv zs os vs w1 A1.out.iz A1.out.io A1.out.iv ZW.out.on ZW.out.vn (by have := ZW.out.kb; omega) (by have := ZW.out.kb; omega)
       rw [ZW.out.zn] at C
       obtain ⟨x, HX⟩ := nmd (caseB n zs os vs ko kv f)
       rw [HX.out] at C HOKD
       clear HX
       go_wp2_with fail
       clear d0 d1 d2 d3 d4 d5 d6 d7 d8 d9 d10 d11
       refine C.mono ?_
       rintro e w2 ⟨rfl, hb⟩
       have R2 := hdn (below_row hb (row_lt R1.out) R1.out)
       have B2 := hdn (B1.out.trans (hb.mono B1.out.size))
       clear hb C R1 B1 A1
       obtain ⟨d0, d1, d2, d3, d4, d5, d6, d7, d8, d9, d10, d11⟩ := cells12q R2.out
       cases x
       · skip
         have e : ok = false := by rw [HOKD.out]; simp
         clear HOKD
         go_wp2
         go_ret
         exact ⟨by rw [e]; rfl, B2.out⟩
       · skip
         cases bb
         · skip
           have e : ok = false := by rw [HOKD.out]; simp
           clear HOKD
           go_wp2
           go_ret
           exact ⟨by rw [e]; rfl, B2.out⟩
         · skip
           cases cc
           · skip
             have e : ok = false := by rw [HOKD.out]; simp
             clear HOKD
             go_wp2
             go_ret
             exact ⟨by rw [e]; rfl, B2.out⟩
           · skip
             by_cases h0 : id = 0
             · have g0 : (id == 0) = true := by simp [h0]
               have e : ok = true := by rw [HOKD.out]; simp [h0]
               clear HOKD
               go_wp2
               go_ret
               exact ⟨by rw [e]; rfl, B2.out⟩
             · have g0 : (id == 0) = false := by simpa using h0
               have e : ok = false := by rw [HOKD.out]; simp [h0]
               clear HOKD
               go_wp2
               go_ret
               exact ⟨by rw [e]; rfl, B2.out⟩
     have b1 : (k == 1) = false := by simpa using k1
     by_cases k2 : k = 2
     · subst k2
       clear k1 b1
       cases nn
       · skip
         have e : ok = false := by rw [HOKD.out]; simp
         clear HOKD
         go_wp2
         go_ret
         exact ⟨by rw [e]; rfl, B1.out⟩
       · skip
         have C := l4Form_any ra la rc lc S L w1 A1.out.rs A1.out.il (by rw [ZW.out.sn]; exact ZW.out.rb.1) (by rw [ZW.out.ll]; exact ZW.out.rb.2) ZW.out.ib
         rw [ZW.out.sn, ZW.out.ll] at C
         obtain ⟨x, HX⟩ := nmd (formB S L)
         rw [HX.out] at C HOKD
         clear HX
         go_wp2_with fail
         clear d0 d1 d2 d3 d4 d5 d6 d7 d8 d9 d10 d11
         refine C.mono ?_
         rintro e w2 ⟨rfl, hb⟩
         have R2 := hdn (below_row hb (row_lt R1.out) R1.out)
         have B2 := hdn (B1.out.trans (hb.mono B1.out.size))
         clear hb C R1 B1 A1
         obtain ⟨d0, d1, d2, d3, d4, d5, d6, d7, d8, d9, d10, d11⟩ := cells12q R2.out
         cases x
         · skip
           have e : ok = false := by rw [HOKD.out]; simp
           clear HOKD
           go_wp2
           go_ret
           exact ⟨by rw [e]; rfl, B2.out⟩
         · skip
           cases cc
           · skip
             have e : ok = false := by rw [HOKD.out]; simp
             clear HOKD
             go_wp2
             go_ret
             exact ⟨by rw [e]; rfl, B2.out⟩
           · skip
             cases ii
             · skip
               have e : ok = false := by rw [HOKD.out]; simp
               clear HOKD
               go_wp2
               go_ret
               exact ⟨by rw [e]; rfl, B2.out⟩
             · skip
               have e : ok = true := by rw [HOKD.out]; simp
               clear HOKD
               go_wp2
               go_ret
               exact ⟨by rw [e]; rfl, B2.out⟩
     have b2 : (k == 2) = false := by simpa using k2
     by_cases k3 : k = 3
     · subst k3
       clear k1 b1 k2 b2
       cases nn
       · skip
         have e : ok = false := by rw [HOKD.out]; simp
         clear HOKD
         go_wp2
         go_ret
         exact ⟨by rw [e]; rfl, B1.out⟩
       · skip
         cases bb
         · skip
           have e : ok = false := by rw [HOKD.out]; simp
           clear HOKD
           go_wp2
           go_ret
           exact ⟨by rw [e]; rfl, B1.out⟩
         · skip
           have Lsd := l1In_any sd 0 2147483647 w1
           obtain ⟨x, Hx⟩ := nmd (inB sd 0 2147483647)
           rw [Hx.out] at Lsd HOKD
           clear Hx
           go_wp2_with fail
           refine Lsd.mono ?_
           rintro e w' ⟨rfl, hw⟩
           subst w'
           clear Lsd
           cases x
           · skip
             have e : ok = false := by rw [HOKD.out]; simp
             clear HOKD
             go_wp2
             go_ret
             exact ⟨by rw [e]; rfl, B1.out⟩
           · skip
             have Lst := l1In_any st 0 60 w1
             obtain ⟨y, Hy⟩ := nmd (inB st 0 60)
             rw [Hy.out] at Lst HOKD
             clear Hy
             go_wp2_with fail
             refine Lst.mono ?_
             rintro e w' ⟨rfl, hw⟩
             subst w'
             clear Lst
             cases y
             · skip
               have e : ok = false := by rw [HOKD.out]; simp
               clear HOKD
               go_wp2
               go_ret
               exact ⟨by rw [e]; rfl, B1.out⟩
             · skip
               cases ii
               · skip
                 have e : ok = false := by rw [HOKD.out]; simp
                 clear HOKD
                 go_wp2
                 go_ret
                 exact ⟨by rw [e]; rfl, B1.out⟩
               · skip
                 have e : ok = true := by rw [HOKD.out]; simp
                 clear HOKD
                 go_wp2
                 go_ret
                 exact ⟨by rw [e]; rfl, B1.out⟩
     have b3 : (k == 3) = false := by simpa using k3
     by_cases k4 : k = 4
     · subst k4
       clear k1 b1 k2 b2 k3 b3
       cases nn
       · skip
         have e : ok = false := by rw [HOKD.out]; simp
         clear HOKD
         go_wp2
         go_ret
         exact ⟨by rw [e]; rfl, B1.out⟩
       · skip
         cases bb
         · skip
           have e : ok = false := by rw [HOKD.out]; simp
           clear HOKD
           go_wp2
           go_ret
           exact ⟨by rw [e]; rfl, B1.out⟩
         · skip
           cases cc
           · skip
             have e : ok = false := by rw [HOKD.out]; simp
             clear HOKD
             go_wp2
             go_ret
             exact ⟨by rw [e]; rfl, B1.out⟩
           · skip
             cases ii
             · skip
               have e : ok = false := by rw [HOKD.out]; simp
               clear HOKD
               go_wp2
               go_ret
               exact ⟨by rw [e]; rfl, B1.out⟩
             · skip
               have e : ok = true := by rw [HOKD.out]; simp
               clear HOKD
               go_wp2
               go_ret
               exact ⟨by rw [e]; rfl, B1.out⟩
     have b4 : (k == 4) = false := by simpa using k4
     by_cases k5 : k = 5
     · subst k5
       clear k1 b1 k2 b2 k3 b3 k4 b4
       cases nn
       · skip
         have e : ok = false := by rw [HOKD.out]; simp
         clear HOKD
         go_wp2
         go_ret
         exact ⟨by rw [e]; rfl, B1.out⟩
       · skip
         cases bb
         · skip
           have e : ok = false := by rw [HOKD.out]; simp
           clear HOKD
           go_wp2
           go_ret
           exact ⟨by rw [e]; rfl, B1.out⟩
         · skip
           cases cc
           · skip
             have e : ok = false := by rw [HOKD.out]; simp
             clear HOKD
             go_wp2
             go_ret
             exact ⟨by rw [e]; rfl, B1.out⟩
           · skip
             by_cases h0 : id = 0
             · have g0 : (id == 0) = true := by simp [h0]
               have e : ok = true := by rw [HOKD.out]; simp [h0]
               clear HOKD
               go_wp2
               go_ret
               exact ⟨by rw [e]; rfl, B1.out⟩
             · have g0 : (id == 0) = false := by simpa using h0
               have e : ok = false := by rw [HOKD.out]; simp [h0]
               clear HOKD
               go_wp2
               go_ret
               exact ⟨by rw [e]; rfl, B1.out⟩
     have b5 : (k == 5) = false := by simpa using k5
     have e : ok = false := by rw [HOKD.out]; simp [k1, k2, k3, k4, k5]
     clear HOKD
     go_wp2
     go_ret
     exact ⟨by rw [e]; rfl, B1.out⟩
set_option maxRecDepth 20000 in
set_option maxHeartbeats 4000000 in
theorem eqReq_same (k id sd st n f : Int) (nm : ByteArray) (nm0 : List UInt8) (a ao av ra la a' ao' av' ra' la' : Option Addr) (zl cap ko co kv cv rn rc ln lc cap' co' cv' rc' lc' : Nat) (zs os vs L : List Int) (S S' : List RT) (w : World) (hA : QA w a ao av ra la zs os vs S L) (hB : QA w a' ao' av' ra' la' zs os vs S' L) (hk : S'.map RT.key = S.map RT.key) (hZ : QZ nm0 zl cap ko kv rn ln zs os vs S L) :
 Calls Tryz.prog 6 #[.agg #[.int .i64 k, .string nm, .int .i64 id, .int .i64 sd, .int .i64 st, .int .i64 n, .slice a zl cap, .slice ao ko co, .slice av kv cv, .int .i64 f, .slice ra rn rc, .slice la ln lc], .agg #[.int .i64 k, .string nm, .int .i64 id, .int .i64 sd, .int .i64 st, .int .i64 n, .slice a' zl cap', .slice ao' ko co', .slice av' kv cv', .int .i64 f, .slice ra' rn rc', .slice la' ln lc']] w fun e w' => e = .returned (.bool true) /\ Below w.heap.size w w' := by
 have QW := hdn (hA)
 have QV' := hdn (hB)
 have ZW := hdn (hZ)
 clear hA hB hZ
 have R0 : Hid (((w.alloc (.cells #[.int .i64 k, .string nm, .int .i64 id, .int .i64 sd, .int .i64 st, .int .i64 n, .slice a zl cap, .slice ao ko co, .slice av kv cv, .int .i64 f, .slice ra rn rc, .slice la ln lc] 33)).alloc (.cells #[.int .i64 k, .string nm, .int .i64 id, .int .i64 sd, .int .i64 st, .int .i64 n, .slice a' zl cap', .slice ao' ko co', .slice av' kv cv', .int .i64 f, .slice ra' rn rc', .slice la' ln lc'] 33)).heap[w.heap.size]? = some (.cells #[.int .i64 k, .string nm, .int .i64 id, .int .i64 sd, .int .i64 st, .int .i64 n, .slice a zl cap, .slice ao ko co, .slice av kv cv, .int .i64 f, .slice ra rn rc, .slice la ln lc] 33 (0, 0))) := (heap_alloc_old _ _ (by simp)).trans (heap_alloc_new _ _)
 have T0 : Hid (((w.alloc (.cells #[.int .i64 k, .string nm, .int .i64 id, .int .i64 sd, .int .i64 st, .int .i64 n, .slice a zl cap, .slice ao ko co, .slice av kv cv, .int .i64 f, .slice ra rn rc, .slice la ln lc] 33)).alloc (.cells #[.int .i64 k, .string nm, .int .i64 id, .int .i64 sd, .int .i64 st, .int .i64 n, .slice a' zl cap', .slice ao' ko co', .slice av' kv cv', .int .i64 f, .slice ra' rn rc', .slice la' ln lc'] 33)).heap[w.heap.size + 1]? = some (.cells #[.int .i64 k, .string nm, .int .i64 id, .int .i64 sd, .int .i64 st, .int .i64 n, .slice a' zl cap', .slice ao' ko co', .slice av' kv cv', .int .i64 f, .slice ra' rn rc', .slice la' ln lc'] 33 (0, 0))) := by
  have := heap_alloc_new (w.alloc (.cells #[.int .i64 k, .string nm, .int .i64 id, .int .i64 sd, .int .i64 st, .int .i64 n, .slice a zl cap, .slice ao ko co, .slice av kv cv, .int .i64 f, .slice ra rn rc, .slice la ln lc] 33)) (.cells #[.int .i64 k, .string nm, .int .i64 id, .int .i64 sd, .int .i64 st, .int .i64 n, .slice a' zl cap', .slice ao' ko co', .slice av' kv cv', .int .i64 f, .slice ra' rn rc', .slice la' ln lc'] 33)
  have hsz : (w.alloc (.cells #[.int .i64 k, .string nm, .int .i64 id, .int .i64 sd, .int .i64 st, .int .i64 n, .slice a zl cap, .slice ao ko co, .slice av kv cv, .int .i64 f, .slice ra rn rc, .slice la ln lc] 33)).heap.size = w.heap.size + 1 := by simp
  rw [hsz] at this
  exact this
 have B0 := hdn (((Below.refl w.heap.size w).alloc (Nat.le_refl _) (.cells #[.int .i64 k, .string nm, .int .i64 id, .int .i64 sd, .int .i64 st, .int .i64 n, .slice a zl cap, .slice ao ko co, .slice av kv cv, .int .i64 f, .slice ra rn rc, .slice la ln lc] 33)).alloc (by simp) (.cells #[.int .i64 k, .string nm, .int .i64 id, .int .i64 sd, .int .i64 st, .int .i64 n, .slice a' zl cap', .slice ao' ko co', .slice av' kv cv', .int .i64 f, .slice ra' rn rc', .slice la' ln lc'] 33))
 have CC := fun W (h1 : QA W a ao av ra la zs os vs S L) (h2 : QA W a' ao' av' ra' la' zs os vs S' L) => eqCase_same n f a ao av a' ao' av' cap ko co kv cv cap' co' cv' zs os vs W h1.iz h1.io h1.iv h2.iz h2.io h2.iv ZW.out.on ZW.out.vn (by have := ZW.out.kb; have := ZW.out.zn; omega) (by have := ZW.out.kb; omega) (by have := ZW.out.kb; omega)
 have CP := fun W (h1 : QA W a ao av ra la zs os vs S L) (h2 : QA W a' ao' av' ra' la' zs os vs S' L) => eqPlan_same ra ra' la la' rc rc' rn lc lc' S S' L W h1.rs h2.rs hk ZW.out.sn ZW.out.rb.1 ZW.out.ib h1.il h2.il (by have := ZW.out.rb; have := ZW.out.ll; omega)
 rw [ZW.out.zn] at CC
 rw [ZW.out.ll] at CP
 have HCC := hdn CC
 have HCP := hdn CP
 clear CC CP hk
 have hst : ∀ (t : ByteArray), (t.toList == t.toList) = true := fun t => str_eq rfl
 obtain ⟨d0, d1, d2, d3, d4, d5, d6, d7, d8, d9, d10, d11⟩ := cells12q R0.out
 obtain ⟨e0, e1, e2, e3, e4, e5, e6, e7, e8, e9, e10, e11⟩ := cells12q T0.out
 have hnn := hst nm
 clear hst
 go_enter Tryz.func6, Tryz.ntmps6
 go_wp2_with fail
 clear d0 d1 d2 d3 d4 d5 d6 d7 d8 d9 d10 d11 e0 e1 e2 e3 e4 e5 e6 e7 e8 e9 e10 e11
 generalize ((w.alloc (.cells #[.int .i64 k, .string nm, .int .i64 id, .int .i64 sd, .int .i64 st, .int .i64 n, .slice a zl cap, .slice ao ko co, .slice av kv cv, .int .i64 f, .slice ra rn rc, .slice la ln lc] 33)).alloc (.cells #[.int .i64 k, .string nm, .int .i64 id, .int .i64 sd, .int .i64 st, .int .i64 n, .slice a' zl cap', .slice ao' ko co', .slice av' kv cv', .int .i64 f, .slice ra' rn rc', .slice la' ln lc'] 33)) = W0 at *
 refine (HCC.out _ (QW.out.below B0.out) (QV'.out.below B0.out)).mono ?_
 rintro e w1 ⟨rfl, hb⟩
 have R1 := hdn (below_row hb (row_lt R0.out) R0.out)
 have T1 := hdn (below_row hb (row_lt T0.out) T0.out)
 have B1 := hdn (B0.out.trans (hb.mono B0.out.size))
 clear hb HCC R0 T0 B0
 obtain ⟨d0, d1, d2, d3, d4, d5, d6, d7, d8, d9, d10, d11⟩ := cells12q R1.out
 obtain ⟨e0, e1, e2, e3, e4, e5, e6, e7, e8, e9, e10, e11⟩ := cells12q T1.out
 go_wp2_with fail
 clear d0 d1 d2 d3 d4 d5 d6 d7 d8 d9 d10 d11 e0 e1 e2 e3 e4 e5 e6 e7 e8 e9 e10 e11
 refine (HCP.out _ (QW.out.below B1.out) (QV'.out.below B1.out)).mono ?_
 rintro e w2 ⟨rfl, hb⟩
 have B2 := hdn (B1.out.trans (hb.mono B1.out.size))
 clear hb HCP R1 T1 B1
 go_wp2
 go_ret
 exact ⟨rfl, B2.out⟩
end Go.Proofs.YtcapkcallaajaaaGreatDoor
