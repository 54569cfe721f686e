/- The walk of ShuffleOrders: it answers true for every input, and leaves all old blocks as they were. No condition. -/
import Derived.Test.YteebeiflipfbkaaRows
import Derived.Test.YteebeiflipfbkaaRowKit
import Derived.Test.YteebeiflipfbkaaSlicesEq
import Derived.Test.YteebeiflipfbkaaSlicesEqM
import Derived.Test.YteebeiflipfbkaaRowL
import Derived.Test.YteebeiflipfbkaaMakeI
import Derived.Test.YteebeiflipfbkaaBlocks
import Derived.Test.YteebeiflipfbkaaWordsA
import Derived.Test.YteebeiflipfbkaaShufMath
import Derived.Test.YteebeiflipfbkaaShufA
import Derived.Test.YteebeiflipfbkaaShufB
import Derived.Test.YteebeiflipfbkaaShufC
import Derived.Test.YteebeiflipfbkaaShufD
import Derived.Test.YteebeiflipfbkaaShufE
import Derived.Test.YteebeiflipfbkaaShufF
import Derived.Test.YteebeiflipfbkaaShufG
import Derived.Test.YteebeiflipfbkaaShufH
import Derived.Test.YteebeiflipfbkaaShufO
import Derived.Test.YteebeiflipfbkaaShufP
import Derived.Test.YteebeiflipfbkaaRowT
import Derived.Test.YteebeiflipfbkaaShufQ
import Derived.Test.YteebeiflipfbkaaShufR
import Derived.Test.YteebeiflipfbkaaRowKit2
import Derived.WalkKit
import Derived.ProofKit
import Derived.OpenShut
import Derived.Deep.QuietTactic
import Derived.BigQuiet
import Derived.Lib.SmallJoins
import Derived.Lib.Hide
import Derived.WalkSpells
import Derived.WalkLawsBesides
import Derived.Deep.LoopGhost
import Derived.Laws.OwnMore
import Derived.Laws.MakeOwn
import Derived.Laws.CopyOwn
import Derived.OwnWalk
import Derived.IntWalk
namespace Go.Proofs.Yteebeiflipfbkaa.shuffleOrders
open Go.ChangeShapes Go.WideShapes Go.ChangeAt Go.RowKit Go.Joins
set_option linter.unusedSimpArgs false
set_option linter.unusedVariables false

set_option maxRecDepth 100000 in
set_option maxHeartbeats 8000000 in
theorem walk_ok_ok (n : Nat) (W : Option Addr) (c : Nat) (a : Int) (zs : List Int) (T : Option Addr) (q tc : Nat) (t : Nat → ByteArray) (L : Nat) (w : World) (hq : q ≤ 300) (hm : zs.length ≤ 1000) (hc : zs.length ≤ c) (hcm : c ≤ maxLen) (ha1 : -1099511627776 ≤ a) (ha2 : a ≤ 1099511627776) (hr : RdI w .u32 W zs) (hnil : W = none → c = 0) (hL : lf zs.length a = L) (hT : RdT w T q t) (hn : n ≤ 300) (h1 : n - 1 ≤ L) (h2 : q - 1 ≤ L) :
    Calls Try.prog 8 #[.int .i64 n, .agg #[.slice W zs.length c, .int .i64 a], .slice T q tc] w fun e w' => e = .returned (.bool true) ∧ Below w.heap.size w w' := by
  have hbox : Below w.heap.size w (w.alloc (.cells #[.slice W zs.length c, .int .i64 a] 64)) := (Below.refl _ _).alloc (Nat.le_refl _) _
  have BX := Lib.hid (Blk.new w #[(.slice W zs.length c : Value), .int .i64 a] 64)
  have LA := Lib.hid (fun X (h : RdI X .u32 W zs) => left_all W c a zs L X h hc hcm hL hnil)
  have HWd : Hid (WD (wsF zs a) L) := Lib.hid fun j hj => ws_bd hr (by rw [hL]; omega)
  have HL1000 : Hid (L ≤ 1000) := Lib.hid (by unfold lf at hL; split at hL <;> omega)
  have HR := Lib.hid hr
  have HT := Lib.hid hT
  have HBX := Lib.hid hbox
  have P := Lib.hid (fun X (h : RdI X .u32 W zs) => porder_loop (n - 1) n zs.length c a W (wsF zs a) X (by omega) (by omega) (by omega) hm (by omega) ha2 (fun j hj => ws_bd hr hj) (fun Y hb j hj => ws_cell h hb hj) (fun e w' => ∃ A c', e = .returned (.tuple #[.slice A n c', .agg #[.slice W zs.length c, .int .i64 (a + ((n - 1 : Nat) : Int))], .int .i64 0]) ∧ RdI w' .i64 A (rowL (ordF (wsF zs a) n (n - 1)) n) ∧ Below X.heap.size X w' ∧ n ≤ c' ∧ c' ≤ 300)
    (fun _ A w' hA hb c' h1 h2 => ⟨A, c', rfl, hA, hb, h1, h2⟩) (fun h => by rw [hL] at h; omega))
  have R1 := Lib.hid (fun X A c' (hA : WAt X A L (wsF zs a)) => rorder_loop (n - 1) n L c' A (wsF zs a) X (by omega) (by omega) (by omega) HL1000.out HWd.out hA (OrderR n (rowL (ordF (wsF zs a) n (n - 1)) n) (n - 1) X) (fun _ e w' h => h) (fun h => by omega))
  have R2 := Lib.hid (fun X A c' (hA : WAt X A L (wsF zs a)) => rorder_loop (q - 1) q L c' A (wsF zs a) X (by omega) (by omega) (by omega) HL1000.out HWd.out hA (OrderR q (rowL (ordF (wsF zs a) q (q - 1)) q) (q - 1) X) (fun _ e w' h => h) (fun h => by omega))
  have OFC := Lib.hid (fun X (h : RdI X .u32 W zs) (h3 : RdT X T q t) => psof_ok q zs.length c tc a W T (wsF zs a) t X hq hm (by omega) ha2 (fun j hj => ws_bd hr hj) (fun Y hb j hj => ws_cell h hb hj) h3 (by rw [hL]; omega))
  have OB := Lib.hid (fun i (hi : i < q) => ord_bd (ws := wsF zs a) (n := q) (q - 1) (fun j hj => ⟨by omega, HWd.out j (by omega)⟩) i hi)
  have hlen1 := Lib.hid (rowL_len (ordF (wsF zs a) n (n - 1)) n)
  have hlen2 := Lib.hid (rowL_len (ordF (wsF zs a) q (q - 1)) q)
  have n1 : Hid (n - 1 ≤ 300) := Lib.hid (by omega)
  have q1 : Hid (q - 1 ≤ 300) := Lib.hid (by omega)
  obtain ⟨kn, hkn⟩ : ∃ k, n - 1 = k := ⟨_, rfl⟩
  obtain ⟨kq, hkq⟩ : ∃ k, q - 1 = k := ⟨_, rfl⟩
  simp only [hkn] at P R1 hlen1 n1
  simp only [hkq] at R2 OFC hlen2 q1 OB
  have HKQ := Lib.hid hkq
  clear hr hL hnil hbox h1 h2 hkn hkq hT
  go_enter Try.func8, Try.ntmps8
  go_wp2_with fail
  refine (P.out _ (HR.out.kept HBX.out)).mono ?_
  rintro e w1 ⟨A, c', rfl, hA, hb1, hc1, hc2⟩
  have BXn := BX.out.next hb1
  have BV : Below w.heap.size w w1 := HBX.out.trans (hb1.mono HBX.out.size)
  have V0 : TW w (w1.alloc (.cells #[.slice W zs.length c, .int .i64 (a + (kn : Int))] 64)) w1.heap.size W zs.length c a (a + (kn : Int)) := ⟨BXn.alloc _, Blk.new _ _ _⟩
  have BV2 := BV.alloc BV.size (.cells #[.slice W zs.length c, .int .i64 (a + (kn : Int))] 64)
  obtain ⟨nb, hnb⟩ : ∃ nb, w1.heap.size = nb := ⟨_, rfl⟩
  obtain ⟨V, hV⟩ : ∃ V, w1.alloc (.cells #[.slice W zs.length c, .int .i64 (a + (kn : Int))] 64) = V := ⟨_, rfl⟩
  have HA := hA.kept ((Below.refl w1.heap.size w1).alloc (Nat.le_refl _) (.cells #[.slice W zs.length c, .int .i64 (a + (kn : Int))] 64))
  rw [hV] at V0 BV2 HA
  rw [hnb] at V0
  obtain ⟨p0, p1, _, _⟩ := V0.b.pair
  have VH := Lib.hid V0
  have BVh := Lib.hid BV2
  have HAh := Lib.hid HA
  clear BXn V0 BV BV2 hb1 hA HA
  go_wp2_with fail
  refine (LA.out _ (HR.out.kept BVh.out)).mono ?_
  rintro e w2 ⟨A2, c2, rfl, hWA, hb2⟩
  have V2 := Lib.hid (VH.out.next hb2)
  have B2 := Lib.hid (BVh.out.trans (hb2.mono BVh.out.size))
  have HA2 := Lib.hid (HAh.out.kept hb2)
  clear p0 p1 hb2
  go_wp2_with fail
  refine (R1.out _ _ _ hWA).mono ?_
  rintro e w3 ⟨A3, c3, rfl, hc3, hA3, hb3⟩
  have HA3 := Lib.hid hA3
  have V3 := Lib.hid (V2.out.next hb3)
  have B3 := Lib.hid (B2.out.trans (hb3.mono B2.out.size))
  have HA4 := Lib.hid (HA2.out.kept hb3)
  clear hb3 hWA hA3
  obtain ⟨p0, p1, _, _⟩ := V3.out.b.pair
  obtain ⟨t0, t1, _, _⟩ := V3.out.t.pair
  have HE := Lib.hid (equal_int_n A A3 c' c3 n _ w3 hlen1.out HA4.out HA3.out (by omega))
  go_wp2_with fail
  refine HE.out.mono ?_
  rintro e w4 ⟨rfl, q2, rfl⟩
  go_wp2_with fail
  refine (ssame_any W c (a + kn) a kn zs (w3.drewN q2) (HR.out.kept (below_drewN B3.out q2)) hm (by omega) (by have := n1.out; omega) (by have := n1.out; omega)).mono ?_
  rintro e w5 ⟨rfl, hb5⟩
  have V5 := Lib.hid (TW.next (X := w3.drewN q2) ⟨V3.out.b.draw q2, V3.out.t.draw q2⟩ hb5)
  have B5 := Lib.hid ((below_drewN B3.out q2).trans (hb5.mono (below_drewN B3.out q2).size))
  clear HE HA3 HA4 HA2 HAh
  clear hb5 p0 p1 t0 t1 V3 B3 V2 B2 VH BVh P R1
  have VH := V5
  have BVh := B5
  clear V5 B5
  obtain ⟨p0, p1, _, _⟩ := VH.out.b.pair
  go_wp2_with fail
  refine (LA.out _ (HR.out.kept BVh.out)).mono ?_
  rintro e w2 ⟨A2, c2, rfl, hWA, hb2⟩
  have V2 := Lib.hid (VH.out.next hb2)
  have B2 := Lib.hid (BVh.out.trans (hb2.mono BVh.out.size))
  clear p0 p1 hb2
  go_wp2_with fail
  refine (R2.out _ _ _ hWA).mono ?_
  rintro e w3 ⟨A3, c3, rfl, hc3, hA3, hb3⟩
  have HA3 := Lib.hid hA3
  have V3 := Lib.hid (V2.out.next hb3)
  have B3 := Lib.hid (B2.out.trans (hb3.mono B2.out.size))
  clear hb3 hWA hA3
  obtain ⟨p0, p1, _, _⟩ := V3.out.b.pair
  obtain ⟨t0, t1, _, _⟩ := V3.out.t.pair
  clear t0 t1
  go_wp2_with fail
  refine (OFC.out _ (HR.out.kept B3.out) (HT.out.kept B3.out)).mono ?_
  rintro e w6 ⟨AX, cx, rfl, hX, hb6⟩
  have BXn := V3.out.b.next hb6
  have BV : Below w.heap.size w w6 := B3.out.trans (hb6.mono B3.out.size)
  have V0 : TW w (w6.alloc (.cells #[.slice W zs.length c, .int .i64 (a + (kq : Int))] 64)) w6.heap.size W zs.length c a (a + (kq : Int)) := ⟨BXn.alloc _, Blk.new _ _ _⟩
  have BV2 := BV.alloc BV.size (.cells #[.slice W zs.length c, .int .i64 (a + (kq : Int))] 64)
  obtain ⟨nb6, hnb⟩ : ∃ nb, w6.heap.size = nb := ⟨_, rfl⟩
  obtain ⟨V6, hV⟩ : ∃ V, w6.alloc (.cells #[.slice W zs.length c, .int .i64 (a + (kq : Int))] 64) = V := ⟨_, rfl⟩
  have HX := hX.kept ((Below.refl w6.heap.size w6).alloc (Nat.le_refl _) (.cells #[.slice W zs.length c, .int .i64 (a + (kq : Int))] 64))
  have HO := (HA3.out.kept hb6).kept ((Below.refl w6.heap.size w6).alloc (Nat.le_refl _) (.cells #[.slice W zs.length c, .int .i64 (a + (kq : Int))] 64))
  rw [hV] at V0 BV2 HX HO
  rw [hnb] at V0
  clear p0 p1
  obtain ⟨p0, p1, _, _⟩ := V0.b.pair
  obtain ⟨t0, t1, _, _⟩ := V0.t.pair
  have VH6 := Lib.hid V0
  have BV6 := Lib.hid BV2
  have HXh := Lib.hid HX
  have HOh := Lib.hid HO
  clear BXn V0 BV BV2 hb6 V3 B3 VH BVh hX HX HO HA3
  go_wp2_with fail
  refine (ssame_any W c (a + kq) a kq zs _ (HR.out.kept BV6.out) hm (by omega) (by have := q1.out; omega) (by have := q1.out; omega)).mono ?_
  rintro e w7 ⟨rfl, hb7⟩
  have B7 := Lib.hid (BV6.out.trans (hb7.mono BV6.out.size))
  have HX7 := Lib.hid (HXh.out.kept hb7)
  have HO7 := Lib.hid (HOh.out.kept hb7)
  have HT7 := Lib.hid (HT.out.kept B7.out)
  clear hb7 p0 p1 t0 t1 HXh HOh VH6 BV6 HT
  go_wp2_with fail
  go_loopg [19] q (fun g i wr => ∃ (j d : Nat), j ≤ q ∧ g = q - j ∧ i = .int .i64 j ∧ wr = w7.drewN d)
  case atStart => exact ⟨0, 0, by omega, by omega, rfl, rfl⟩
  case round =>
    obtain ⟨j, d, hj, rfl, rfl, rfl⟩ := hrel
    by_cases hjq : j < q
    · have hjI : (j : Int) < q := by omega
      obtain ⟨bo, oo, rfl, _, hco⟩ := rdI_row HO7.out (by rw [hlen2.out]; omega)
      have co := hco j (by rw [hlen2.out]; exact hjq)
      rw [rowL_at _ hjq] at co
      obtain ⟨o0, o1⟩ := OB.out j hjq
      have TE : thF (wsF zs a) q t j = t (ordF (wsF zs a) q kq j).toNat := by rw [← HKQ.out]; rfl
      obtain ⟨x, hx⟩ := Int.eq_ofNat_of_zero_le o0
      rw [hx] at co o1 TE
      rw [Int.toNat_natCast] at TE
      obtain ⟨bt, ot, rfl, _, hct⟩ := rdT_row HT7.out (by omega)
      have ct := hct x (by omega)
      obtain ⟨bX, oX, rfl, _, hcX⟩ := rdT_row HX7.out (by omega)
      have cX := hcX j hjq
      rw [TE] at cX
      obtain ⟨sx, hsx⟩ : ∃ s, t x = s := ⟨_, rfl⟩
      rw [hsx] at ct cX
      have sne : (sx.data.toList != sx.data.toList) = false := by simp
      clear hco hct hcX TE hx hsx o0
      go_wp2_with fail
      go_quiet (fail)
      go_wp2_with fail
      go_roundg (q - (j + 1))
      case measure => omega
      case rel => exact ⟨j + 1, _, by omega, rfl, by go_num, rfl⟩
    · obtain rfl : j = q := by omega
      go_wp2_with (go_at_call 38; refine (salive _).mono ?_; rintro e w8 ⟨rfl, hb8⟩)
      go_ret
      exact ⟨rfl, (below_drewN B7.out d).trans (hb8.mono (below_drewN B7.out d).size)⟩
set_option maxRecDepth 100000 in
set_option maxHeartbeats 8000000 in
theorem walk_ok_dry (n : Nat) (W : Option Addr) (c : Nat) (a : Int) (zs : List Int) (T : Option Addr) (q tc : Nat) (t : Nat → ByteArray) (L : Nat) (w : World) (hq : q ≤ 300) (hm : zs.length ≤ 1000) (hc : zs.length ≤ c) (hcm : c ≤ maxLen) (ha1 : -1099511627776 ≤ a) (ha2 : a ≤ 1099511627776) (hr : RdI w .u32 W zs) (hnil : W = none → c = 0) (hL : lf zs.length a = L) (hT : RdT w T q t) (hn : n ≤ 300) (h1 : n - 1 ≤ L) (h2 : L < q - 1) :
    Calls Try.prog 8 #[.int .i64 n, .agg #[.slice W zs.length c, .int .i64 a], .slice T q tc] w fun e w' => e = .returned (.bool true) ∧ Below w.heap.size w w' := by
  have hbox : Below w.heap.size w (w.alloc (.cells #[.slice W zs.length c, .int .i64 a] 64)) := (Below.refl _ _).alloc (Nat.le_refl _) _
  have BX := Lib.hid (Blk.new w #[(.slice W zs.length c : Value), .int .i64 a] 64)
  have LA := Lib.hid (fun X (h : RdI X .u32 W zs) => left_all W c a zs L X h hc hcm hL hnil)
  have HWd : Hid (WD (wsF zs a) L) := Lib.hid fun j hj => ws_bd hr (by rw [hL]; omega)
  have HL1000 : Hid (L ≤ 1000) := Lib.hid (by unfold lf at hL; split at hL <;> omega)
  have HR := Lib.hid hr
  have HT := Lib.hid hT
  have HBX := Lib.hid hbox
  have P := Lib.hid (fun X (h : RdI X .u32 W zs) => porder_loop (n - 1) n zs.length c a W (wsF zs a) X (by omega) (by omega) (by omega) hm (by omega) ha2 (fun j hj => ws_bd hr hj) (fun Y hb j hj => ws_cell h hb hj) (fun e w' => ∃ A c', e = .returned (.tuple #[.slice A n c', .agg #[.slice W zs.length c, .int .i64 (a + ((n - 1 : Nat) : Int))], .int .i64 0]) ∧ RdI w' .i64 A (rowL (ordF (wsF zs a) n (n - 1)) n) ∧ Below X.heap.size X w' ∧ n ≤ c' ∧ c' ≤ 300)
    (fun _ A w' hA hb c' h1 h2 => ⟨A, c', rfl, hA, hb, h1, h2⟩) (fun h => by rw [hL] at h; omega))
  have R1 := Lib.hid (fun X A c' (hA : WAt X A L (wsF zs a)) => rorder_loop (n - 1) n L c' A (wsF zs a) X (by omega) (by omega) (by omega) HL1000.out HWd.out hA (OrderR n (rowL (ordF (wsF zs a) n (n - 1)) n) (n - 1) X) (fun _ e w' h => h) (fun h => by omega))
  have R2 := Lib.hid (fun X A c' (hA : WAt X A L (wsF zs a)) => rorder_loop (q - 1) q L c' A (wsF zs a) X (by omega) (by omega) (by omega) HL1000.out HWd.out hA (fun e w' => e = .returned (.tuple #[.slice none 0 0, .int .i64 0, .bool false]) ∧ Below X.heap.size X w') (fun h => by omega) (fun _ e w' h => h))
  have OFC := Lib.hid (fun X (h : RdI X .u32 W zs) => psof_dry q zs.length c tc a W T (wsF zs a) t X hq hm (by omega) ha2 (fun j hj => ws_bd hr hj) (fun Y hb j hj => ws_cell h hb hj) (by rw [hL]; omega))
  have hlen1 := Lib.hid (rowL_len (ordF (wsF zs a) n (n - 1)) n)
  have hlen2 := Lib.hid (rowL_len (ordF (wsF zs a) q (q - 1)) q)
  have n1 : Hid (n - 1 ≤ 300) := Lib.hid (by omega)
  have q1 : Hid (q - 1 ≤ 300) := Lib.hid (by omega)
  obtain ⟨kn, hkn⟩ : ∃ k, n - 1 = k := ⟨_, rfl⟩
  obtain ⟨kq, hkq⟩ : ∃ k, q - 1 = k := ⟨_, rfl⟩
  simp only [hkn] at P R1 hlen1 n1
  simp only [hkq] at R2 OFC hlen2 q1
  have HKQ := Lib.hid hkq
  clear hr hL hnil hbox h1 h2 hkn hkq hT
  go_enter Try.func8, Try.ntmps8
  go_wp2_with fail
  refine (P.out _ (HR.out.kept HBX.out)).mono ?_
  rintro e w1 ⟨A, c', rfl, hA, hb1, hc1, hc2⟩
  have BXn := BX.out.next hb1
  have BV : Below w.heap.size w w1 := HBX.out.trans (hb1.mono HBX.out.size)
  have V0 : TW w (w1.alloc (.cells #[.slice W zs.length c, .int .i64 (a + (kn : Int))] 64)) w1.heap.size W zs.length c a (a + (kn : Int)) := ⟨BXn.alloc _, Blk.new _ _ _⟩
  have BV2 := BV.alloc BV.size (.cells #[.slice W zs.length c, .int .i64 (a + (kn : Int))] 64)
  obtain ⟨nb, hnb⟩ : ∃ nb, w1.heap.size = nb := ⟨_, rfl⟩
  obtain ⟨V, hV⟩ : ∃ V, w1.alloc (.cells #[.slice W zs.length c, .int .i64 (a + (kn : Int))] 64) = V := ⟨_, rfl⟩
  have HA := hA.kept ((Below.refl w1.heap.size w1).alloc (Nat.le_refl _) (.cells #[.slice W zs.length c, .int .i64 (a + (kn : Int))] 64))
  rw [hV] at V0 BV2 HA
  rw [hnb] at V0
  obtain ⟨p0, p1, _, _⟩ := V0.b.pair
  have VH := Lib.hid V0
  have BVh := Lib.hid BV2
  have HAh := Lib.hid HA
  clear BXn V0 BV BV2 hb1 hA HA
  go_wp2_with fail
  refine (LA.out _ (HR.out.kept BVh.out)).mono ?_
  rintro e w2 ⟨A2, c2, rfl, hWA, hb2⟩
  have V2 := Lib.hid (VH.out.next hb2)
  have B2 := Lib.hid (BVh.out.trans (hb2.mono BVh.out.size))
  have HA2 := Lib.hid (HAh.out.kept hb2)
  clear p0 p1 hb2
  go_wp2_with fail
  refine (R1.out _ _ _ hWA).mono ?_
  rintro e w3 ⟨A3, c3, rfl, hc3, hA3, hb3⟩
  have HA3 := Lib.hid hA3
  have V3 := Lib.hid (V2.out.next hb3)
  have B3 := Lib.hid (B2.out.trans (hb3.mono B2.out.size))
  have HA4 := Lib.hid (HA2.out.kept hb3)
  clear hb3 hWA hA3
  obtain ⟨p0, p1, _, _⟩ := V3.out.b.pair
  obtain ⟨t0, t1, _, _⟩ := V3.out.t.pair
  have HE := Lib.hid (equal_int_n A A3 c' c3 n _ w3 hlen1.out HA4.out HA3.out (by omega))
  go_wp2_with fail
  refine HE.out.mono ?_
  rintro e w4 ⟨rfl, q2, rfl⟩
  go_wp2_with fail
  refine (ssame_any W c (a + kn) a kn zs (w3.drewN q2) (HR.out.kept (below_drewN B3.out q2)) hm (by omega) (by have := n1.out; omega) (by have := n1.out; omega)).mono ?_
  rintro e w5 ⟨rfl, hb5⟩
  have V5 := Lib.hid (TW.next (X := w3.drewN q2) ⟨V3.out.b.draw q2, V3.out.t.draw q2⟩ hb5)
  have B5 := Lib.hid ((below_drewN B3.out q2).trans (hb5.mono (below_drewN B3.out q2).size))
  clear HE HA3 HA4 HA2 HAh
  clear hb5 p0 p1 t0 t1 V3 B3 V2 B2 VH BVh P R1
  have VH := V5
  have BVh := B5
  clear V5 B5
  obtain ⟨p0, p1, _, _⟩ := VH.out.b.pair
  go_wp2_with fail
  refine (LA.out _ (HR.out.kept BVh.out)).mono ?_
  rintro e w2 ⟨A2, c2, rfl, hWA, hb2⟩
  have V2 := Lib.hid (VH.out.next hb2)
  have B2 := Lib.hid (BVh.out.trans (hb2.mono BVh.out.size))
  clear p0 p1 hb2
  go_wp2_with fail
  refine (R2.out _ _ _ hWA).mono ?_
  rintro e w3 ⟨rfl, hb3⟩
  have V3 := Lib.hid (V2.out.next hb3)
  have B3 := Lib.hid (B2.out.trans (hb3.mono B2.out.size))
  clear hb3 hWA
  obtain ⟨p0, p1, _, _⟩ := V3.out.b.pair
  obtain ⟨t0, t1, _, _⟩ := V3.out.t.pair
  clear t0 t1
  go_wp2_with fail
  refine (OFC.out _ (HR.out.kept B3.out)).mono ?_
  rintro e w6 ⟨rfl, hb6⟩
  have BXn := V3.out.b.next hb6
  have BV : Below w.heap.size w w6 := B3.out.trans (hb6.mono B3.out.size)
  have V0 : TW w (w6.alloc (.cells #[.slice W zs.length c, .int .i64 a] 64)) w6.heap.size W zs.length c a a := ⟨BXn.alloc _, Blk.new _ _ _⟩
  have BV2 := BV.alloc BV.size (.cells #[.slice W zs.length c, .int .i64 a] 64)
  obtain ⟨nb6, hnb⟩ : ∃ nb, w6.heap.size = nb := ⟨_, rfl⟩
  obtain ⟨V6, hV⟩ : ∃ V, w6.alloc (.cells #[.slice W zs.length c, .int .i64 a] 64) = V := ⟨_, rfl⟩
  rw [hV] at V0 BV2
  rw [hnb] at V0
  clear p0 p1
  obtain ⟨p0, p1, _, _⟩ := V0.b.pair
  obtain ⟨t0, t1, _, _⟩ := V0.t.pair
  have VH6 := Lib.hid V0
  have BV6 := Lib.hid BV2
  clear BXn V0 BV BV2 hb6 V3 B3 VH BVh
  go_wp2_with fail
  refine (ssame_any W c a a 0 zs _ (HR.out.kept BV6.out) hm (by omega) (by omega) (by omega)).mono ?_
  rintro e w7 ⟨rfl, hb7⟩
  have B7 : Below w.heap.size w w7 := BV6.out.trans (hb7.mono BV6.out.size)
  go_wp2_with (go_at_call 38; refine (salive _).mono ?_; rintro e w8 ⟨rfl, hb8⟩)
  go_ret
  exact ⟨rfl, B7.trans (hb8.mono B7.size)⟩
set_option maxRecDepth 100000 in
set_option maxHeartbeats 8000000 in
theorem walk_dry_ok (n : Nat) (W : Option Addr) (c : Nat) (a : Int) (zs : List Int) (T : Option Addr) (q tc : Nat) (t : Nat → ByteArray) (L : Nat) (w : World) (hq : q ≤ 300) (hm : zs.length ≤ 1000) (hc : zs.length ≤ c) (hcm : c ≤ maxLen) (ha1 : -1099511627776 ≤ a) (ha2 : a ≤ 1099511627776) (hr : RdI w .u32 W zs) (hnil : W = none → c = 0) (hL : lf zs.length a = L) (hT : RdT w T q t) (hn : n ≤ 300) (h1 : L < n - 1) (h2 : q - 1 ≤ L) :
    Calls Try.prog 8 #[.int .i64 n, .agg #[.slice W zs.length c, .int .i64 a], .slice T q tc] w fun e w' => e = .returned (.bool true) ∧ Below w.heap.size w w' := by
  have hbox : Below w.heap.size w (w.alloc (.cells #[.slice W zs.length c, .int .i64 a] 64)) := (Below.refl _ _).alloc (Nat.le_refl _) _
  have BX := Lib.hid (Blk.new w #[(.slice W zs.length c : Value), .int .i64 a] 64)
  have LA := Lib.hid (fun X (h : RdI X .u32 W zs) => left_all W c a zs L X h hc hcm hL hnil)
  have HWd : Hid (WD (wsF zs a) L) := Lib.hid fun j hj => ws_bd hr (by rw [hL]; omega)
  have HL1000 : Hid (L ≤ 1000) := Lib.hid (by unfold lf at hL; split at hL <;> omega)
  have HR := Lib.hid hr
  have HT := Lib.hid hT
  have HBX := Lib.hid hbox
  have P := Lib.hid (fun X (h : RdI X .u32 W zs) => porder_loop (n - 1) n zs.length c a W (wsF zs a) X (by omega) (by omega) (by omega) hm (by omega) ha2 (fun j hj => ws_bd hr hj) (fun Y hb j hj => ws_cell h hb hj) (fun e w' => e = .returned (.tuple #[.slice none 0 0, .agg #[.slice W zs.length c, .int .i64 a], .int .i64 50]) ∧ Below X.heap.size X w')
    (fun h => by rw [hL] at h; omega) (fun _ w' hb => ⟨rfl, hb⟩))
  have R1 := Lib.hid (fun X A c' (hA : WAt X A L (wsF zs a)) => rorder_loop (n - 1) n L c' A (wsF zs a) X (by omega) (by omega) (by omega) HL1000.out HWd.out hA (fun e w' => e = .returned (.tuple #[.slice none 0 0, .int .i64 0, .bool false]) ∧ Below X.heap.size X w') (fun h => by omega) (fun _ e w' h => h))
  have R2 := Lib.hid (fun X A c' (hA : WAt X A L (wsF zs a)) => rorder_loop (q - 1) q L c' A (wsF zs a) X (by omega) (by omega) (by omega) HL1000.out HWd.out hA (OrderR q (rowL (ordF (wsF zs a) q (q - 1)) q) (q - 1) X) (fun _ e w' h => h) (fun h => by omega))
  have OFC := Lib.hid (fun X (h : RdI X .u32 W zs) (h3 : RdT X T q t) => psof_ok q zs.length c tc a W T (wsF zs a) t X hq hm (by omega) ha2 (fun j hj => ws_bd hr hj) (fun Y hb j hj => ws_cell h hb hj) h3 (by rw [hL]; omega))
  have OB := Lib.hid (fun i (hi : i < q) => ord_bd (ws := wsF zs a) (n := q) (q - 1) (fun j hj => ⟨by omega, HWd.out j (by omega)⟩) i hi)
  have hlen1 := Lib.hid (rowL_len (ordF (wsF zs a) n (n - 1)) n)
  have hlen2 := Lib.hid (rowL_len (ordF (wsF zs a) q (q - 1)) q)
  have n1 : Hid (n - 1 ≤ 300) := Lib.hid (by omega)
  have q1 : Hid (q - 1 ≤ 300) := Lib.hid (by omega)
  obtain ⟨kn, hkn⟩ : ∃ k, n - 1 = k := ⟨_, rfl⟩
  obtain ⟨kq, hkq⟩ : ∃ k, q - 1 = k := ⟨_, rfl⟩
  simp only [hkn] at P R1 hlen1 n1
  simp only [hkq] at R2 OFC hlen2 q1 OB
  have HKQ := Lib.hid hkq
  clear hr hL hnil hbox h1 h2 hkn hkq hT
  go_enter Try.func8, Try.ntmps8
  go_wp2_with fail
  refine (P.out _ (HR.out.kept HBX.out)).mono ?_
  rintro e w1 ⟨rfl, hb1⟩
  have BXn := BX.out.next hb1
  have BV : Below w.heap.size w w1 := HBX.out.trans (hb1.mono HBX.out.size)
  have V0 : TW w (w1.alloc (.cells #[.slice W zs.length c, .int .i64 a] 64)) w1.heap.size W zs.length c a a := ⟨BXn.alloc _, Blk.new _ _ _⟩
  have BV2 := BV.alloc BV.size (.cells #[.slice W zs.length c, .int .i64 a] 64)
  obtain ⟨nb, hnb⟩ : ∃ nb, w1.heap.size = nb := ⟨_, rfl⟩
  obtain ⟨V, hV⟩ : ∃ V, w1.alloc (.cells #[.slice W zs.length c, .int .i64 a] 64) = V := ⟨_, rfl⟩
  rw [hV] at V0 BV2
  rw [hnb] at V0
  obtain ⟨p0, p1, _, _⟩ := V0.b.pair
  have VH := Lib.hid V0
  have BVh := Lib.hid BV2
  clear BXn V0 BV BV2 hb1
  go_wp2_with fail
  refine (LA.out _ (HR.out.kept BVh.out)).mono ?_
  rintro e w2 ⟨A2, c2, rfl, hWA, hb2⟩
  have V2 := Lib.hid (VH.out.next hb2)
  have B2 := Lib.hid (BVh.out.trans (hb2.mono BVh.out.size))
  clear p0 p1 hb2
  go_wp2_with fail
  refine (R1.out _ _ _ hWA).mono ?_
  rintro e w3 ⟨rfl, hb3⟩
  have V3 := Lib.hid (V2.out.next hb3)
  have B3 := Lib.hid (B2.out.trans (hb3.mono B2.out.size))
  clear hb3 hWA
  obtain ⟨p0, p1, _, _⟩ := V3.out.b.pair
  obtain ⟨t0, t1, _, _⟩ := V3.out.t.pair
  go_wp2_with fail
  refine (ssame_any W c a a 0 zs _ (HR.out.kept B3.out) hm (by omega) (by omega) (by omega)).mono ?_
  rintro e w5 ⟨rfl, hb5⟩
  have V5 := Lib.hid (V3.out.next hb5)
  have B5 := Lib.hid (B3.out.trans (hb5.mono B3.out.size))
  clear hb5 p0 p1 t0 t1 V3 B3 V2 B2 VH BVh P R1
  have VH := V5
  have BVh := B5
  clear V5 B5
  obtain ⟨p0, p1, _, _⟩ := VH.out.b.pair
  go_wp2_with fail
  refine (LA.out _ (HR.out.kept BVh.out)).mono ?_
  rintro e w2 ⟨A2, c2, rfl, hWA, hb2⟩
  have V2 := Lib.hid (VH.out.next hb2)
  have B2 := Lib.hid (BVh.out.trans (hb2.mono BVh.out.size))
  clear p0 p1 hb2
  go_wp2_with fail
  refine (R2.out _ _ _ hWA).mono ?_
  rintro e w3 ⟨A3, c3, rfl, hc3, hA3, hb3⟩
  have HA3 := Lib.hid hA3
  have V3 := Lib.hid (V2.out.next hb3)
  have B3 := Lib.hid (B2.out.trans (hb3.mono B2.out.size))
  clear hb3 hWA hA3
  obtain ⟨p0, p1, _, _⟩ := V3.out.b.pair
  obtain ⟨t0, t1, _, _⟩ := V3.out.t.pair
  clear t0 t1
  go_wp2_with fail
  refine (OFC.out _ (HR.out.kept B3.out) (HT.out.kept B3.out)).mono ?_
  rintro e w6 ⟨AX, cx, rfl, hX, hb6⟩
  have BXn := V3.out.b.next hb6
  have BV : Below w.heap.size w w6 := B3.out.trans (hb6.mono B3.out.size)
  have V0 : TW w (w6.alloc (.cells #[.slice W zs.length c, .int .i64 (a + (kq : Int))] 64)) w6.heap.size W zs.length c a (a + (kq : Int)) := ⟨BXn.alloc _, Blk.new _ _ _⟩
  have BV2 := BV.alloc BV.size (.cells #[.slice W zs.length c, .int .i64 (a + (kq : Int))] 64)
  obtain ⟨nb6, hnb⟩ : ∃ nb, w6.heap.size = nb := ⟨_, rfl⟩
  obtain ⟨V6, hV⟩ : ∃ V, w6.alloc (.cells #[.slice W zs.length c, .int .i64 (a + (kq : Int))] 64) = V := ⟨_, rfl⟩
  have HX := hX.kept ((Below.refl w6.heap.size w6).alloc (Nat.le_refl _) (.cells #[.slice W zs.length c, .int .i64 (a + (kq : Int))] 64))
  have HO := (HA3.out.kept hb6).kept ((Below.refl w6.heap.size w6).alloc (Nat.le_refl _) (.cells #[.slice W zs.length c, .int .i64 (a + (kq : Int))] 64))
  rw [hV] at V0 BV2 HX HO
  rw [hnb] at V0
  clear p0 p1
  obtain ⟨p0, p1, _, _⟩ := V0.b.pair
  obtain ⟨t0, t1, _, _⟩ := V0.t.pair
  have VH6 := Lib.hid V0
  have BV6 := Lib.hid BV2
  have HXh := Lib.hid HX
  have HOh := Lib.hid HO
  clear BXn V0 BV BV2 hb6 V3 B3 VH BVh hX HX HO HA3
  go_wp2_with fail
  refine (ssame_any W c (a + kq) a kq zs _ (HR.out.kept BV6.out) hm (by omega) (by have := q1.out; omega) (by have := q1.out; omega)).mono ?_
  rintro e w7 ⟨rfl, hb7⟩
  have B7 := Lib.hid (BV6.out.trans (hb7.mono BV6.out.size))
  have HX7 := Lib.hid (HXh.out.kept hb7)
  have HO7 := Lib.hid (HOh.out.kept hb7)
  have HT7 := Lib.hid (HT.out.kept B7.out)
  clear hb7 p0 p1 t0 t1 HXh HOh VH6 BV6 HT
  go_wp2_with fail
  go_loopg [19] q (fun g i wr => ∃ (j d : Nat), j ≤ q ∧ g = q - j ∧ i = .int .i64 j ∧ wr = w7.drewN d)
  case atStart => exact ⟨0, 0, by omega, by omega, rfl, rfl⟩
  case round =>
    obtain ⟨j, d, hj, rfl, rfl, rfl⟩ := hrel
    by_cases hjq : j < q
    · have hjI : (j : Int) < q := by omega
      obtain ⟨bo, oo, rfl, _, hco⟩ := rdI_row HO7.out (by rw [hlen2.out]; omega)
      have co := hco j (by rw [hlen2.out]; exact hjq)
      rw [rowL_at _ hjq] at co
      obtain ⟨o0, o1⟩ := OB.out j hjq
      have TE : thF (wsF zs a) q t j = t (ordF (wsF zs a) q kq j).toNat := by rw [← HKQ.out]; rfl
      obtain ⟨x, hx⟩ := Int.eq_ofNat_of_zero_le o0
      rw [hx] at co o1 TE
      rw [Int.toNat_natCast] at TE
      obtain ⟨bt, ot, rfl, _, hct⟩ := rdT_row HT7.out (by omega)
      have ct := hct x (by omega)
      obtain ⟨bX, oX, rfl, _, hcX⟩ := rdT_row HX7.out (by omega)
      have cX := hcX j hjq
      rw [TE] at cX
      obtain ⟨sx, hsx⟩ : ∃ s, t x = s := ⟨_, rfl⟩
      rw [hsx] at ct cX
      have sne : (sx.data.toList != sx.data.toList) = false := by simp
      clear hco hct hcX TE hx hsx o0
      go_wp2_with fail
      go_quiet (fail)
      go_wp2_with fail
      go_roundg (q - (j + 1))
      case measure => omega
      case rel => exact ⟨j + 1, _, by omega, rfl, by go_num, rfl⟩
    · obtain rfl : j = q := by omega
      go_wp2_with (go_at_call 38; refine (salive _).mono ?_; rintro e w8 ⟨rfl, hb8⟩)
      go_ret
      exact ⟨rfl, (below_drewN B7.out d).trans (hb8.mono (below_drewN B7.out d).size)⟩
set_option maxRecDepth 100000 in
set_option maxHeartbeats 8000000 in
theorem walk_dry_dry (n : Nat) (W : Option Addr) (c : Nat) (a : Int) (zs : List Int) (T : Option Addr) (q tc : Nat) (t : Nat → ByteArray) (L : Nat) (w : World) (hq : q ≤ 300) (hm : zs.length ≤ 1000) (hc : zs.length ≤ c) (hcm : c ≤ maxLen) (ha1 : -1099511627776 ≤ a) (ha2 : a ≤ 1099511627776) (hr : RdI w .u32 W zs) (hnil : W = none → c = 0) (hL : lf zs.length a = L) (hT : RdT w T q t) (hn : n ≤ 300) (h1 : L < n - 1) (h2 : L < q - 1) :
    Calls Try.prog 8 #[.int .i64 n, .agg #[.slice W zs.length c, .int .i64 a], .slice T q tc] w fun e w' => e = .returned (.bool true) ∧ Below w.heap.size w w' := by
  have hbox : Below w.heap.size w (w.alloc (.cells #[.slice W zs.length c, .int .i64 a] 64)) := (Below.refl _ _).alloc (Nat.le_refl _) _
  have BX := Lib.hid (Blk.new w #[(.slice W zs.length c : Value), .int .i64 a] 64)
  have LA := Lib.hid (fun X (h : RdI X .u32 W zs) => left_all W c a zs L X h hc hcm hL hnil)
  have HWd : Hid (WD (wsF zs a) L) := Lib.hid fun j hj => ws_bd hr (by rw [hL]; omega)
  have HL1000 : Hid (L ≤ 1000) := Lib.hid (by unfold lf at hL; split at hL <;> omega)
  have HR := Lib.hid hr
  have HT := Lib.hid hT
  have HBX := Lib.hid hbox
  have P := Lib.hid (fun X (h : RdI X .u32 W zs) => porder_loop (n - 1) n zs.length c a W (wsF zs a) X (by omega) (by omega) (by omega) hm (by omega) ha2 (fun j hj => ws_bd hr hj) (fun Y hb j hj => ws_cell h hb hj) (fun e w' => e = .returned (.tuple #[.slice none 0 0, .agg #[.slice W zs.length c, .int .i64 a], .int .i64 50]) ∧ Below X.heap.size X w')
    (fun h => by rw [hL] at h; omega) (fun _ w' hb => ⟨rfl, hb⟩))
  have R1 := Lib.hid (fun X A c' (hA : WAt X A L (wsF zs a)) => rorder_loop (n - 1) n L c' A (wsF zs a) X (by omega) (by omega) (by omega) HL1000.out HWd.out hA (fun e w' => e = .returned (.tuple #[.slice none 0 0, .int .i64 0, .bool false]) ∧ Below X.heap.size X w') (fun h => by omega) (fun _ e w' h => h))
  have R2 := Lib.hid (fun X A c' (hA : WAt X A L (wsF zs a)) => rorder_loop (q - 1) q L c' A (wsF zs a) X (by omega) (by omega) (by omega) HL1000.out HWd.out hA (fun e w' => e = .returned (.tuple #[.slice none 0 0, .int .i64 0, .bool false]) ∧ Below X.heap.size X w') (fun h => by omega) (fun _ e w' h => h))
  have OFC := Lib.hid (fun X (h : RdI X .u32 W zs) => psof_dry q zs.length c tc a W T (wsF zs a) t X hq hm (by omega) ha2 (fun j hj => ws_bd hr hj) (fun Y hb j hj => ws_cell h hb hj) (by rw [hL]; omega))
  have hlen1 := Lib.hid (rowL_len (ordF (wsF zs a) n (n - 1)) n)
  have hlen2 := Lib.hid (rowL_len (ordF (wsF zs a) q (q - 1)) q)
  have n1 : Hid (n - 1 ≤ 300) := Lib.hid (by omega)
  have q1 : Hid (q - 1 ≤ 300) := Lib.hid (by omega)
  obtain ⟨kn, hkn⟩ : ∃ k, n - 1 = k := ⟨_, rfl⟩
  obtain ⟨kq, hkq⟩ : ∃ k, q - 1 = k := ⟨_, rfl⟩
  simp only [hkn] at P R1 hlen1 n1
  simp only [hkq] at R2 OFC hlen2 q1
  have HKQ := Lib.hid hkq
  clear hr hL hnil hbox h1 h2 hkn hkq hT
  go_enter Try.func8, Try.ntmps8
  go_wp2_with fail
  refine (P.out _ (HR.out.kept HBX.out)).mono ?_
  rintro e w1 ⟨rfl, hb1⟩
  have BXn := BX.out.next hb1
  have BV : Below w.heap.size w w1 := HBX.out.trans (hb1.mono HBX.out.size)
  have V0 : TW w (w1.alloc (.cells #[.slice W zs.length c, .int .i64 a] 64)) w1.heap.size W zs.length c a a := ⟨BXn.alloc _, Blk.new _ _ _⟩
  have BV2 := BV.alloc BV.size (.cells #[.slice W zs.length c, .int .i64 a] 64)
  obtain ⟨nb, hnb⟩ : ∃ nb, w1.heap.size = nb := ⟨_, rfl⟩
  obtain ⟨V, hV⟩ : ∃ V, w1.alloc (.cells #[.slice W zs.length c, .int .i64 a] 64) = V := ⟨_, rfl⟩
  rw [hV] at V0 BV2
  rw [hnb] at V0
  obtain ⟨p0, p1, _, _⟩ := V0.b.pair
  have VH := Lib.hid V0
  have BVh := Lib.hid BV2
  clear BXn V0 BV BV2 hb1
  go_wp2_with fail
  refine (LA.out _ (HR.out.kept BVh.out)).mono ?_
  rintro e w2 ⟨A2, c2, rfl, hWA, hb2⟩
  have V2 := Lib.hid (VH.out.next hb2)
  have B2 := Lib.hid (BVh.out.trans (hb2.mono BVh.out.size))
  clear p0 p1 hb2
  go_wp2_with fail
  refine (R1.out _ _ _ hWA).mono ?_
  rintro e w3 ⟨rfl, hb3⟩
  have V3 := Lib.hid (V2.out.next hb3)
  have B3 := Lib.hid (B2.out.trans (hb3.mono B2.out.size))
  clear hb3 hWA
  obtain ⟨p0, p1, _, _⟩ := V3.out.b.pair
  obtain ⟨t0, t1, _, _⟩ := V3.out.t.pair
  go_wp2_with fail
  refine (ssame_any W c a a 0 zs _ (HR.out.kept B3.out) hm (by omega) (by omega) (by omega)).mono ?_
  rintro e w5 ⟨rfl, hb5⟩
  have V5 := Lib.hid (V3.out.next hb5)
  have B5 := Lib.hid (B3.out.trans (hb5.mono B3.out.size))
  clear hb5 p0 p1 t0 t1 V3 B3 V2 B2 VH BVh P R1
  have VH := V5
  have BVh := B5
  clear V5 B5
  obtain ⟨p0, p1, _, _⟩ := VH.out.b.pair
  go_wp2_with fail
  refine (LA.out _ (HR.out.kept BVh.out)).mono ?_
  rintro e w2 ⟨A2, c2, rfl, hWA, hb2⟩
  have V2 := Lib.hid (VH.out.next hb2)
  have B2 := Lib.hid (BVh.out.trans (hb2.mono BVh.out.size))
  clear p0 p1 hb2
  go_wp2_with fail
  refine (R2.out _ _ _ hWA).mono ?_
  rintro e w3 ⟨rfl, hb3⟩
  have V3 := Lib.hid (V2.out.next hb3)
  have B3 := Lib.hid (B2.out.trans (hb3.mono B2.out.size))
  clear hb3 hWA
  obtain ⟨p0, p1, _, _⟩ := V3.out.b.pair
  obtain ⟨t0, t1, _, _⟩ := V3.out.t.pair
  clear t0 t1
  go_wp2_with fail
  refine (OFC.out _ (HR.out.kept B3.out)).mono ?_
  rintro e w6 ⟨rfl, hb6⟩
  have BXn := V3.out.b.next hb6
  have BV : Below w.heap.size w w6 := B3.out.trans (hb6.mono B3.out.size)
  have V0 : TW w (w6.alloc (.cells #[.slice W zs.length c, .int .i64 a] 64)) w6.heap.size W zs.length c a a := ⟨BXn.alloc _, Blk.new _ _ _⟩
  have BV2 := BV.alloc BV.size (.cells #[.slice W zs.length c, .int .i64 a] 64)
  obtain ⟨nb6, hnb⟩ : ∃ nb, w6.heap.size = nb := ⟨_, rfl⟩
  obtain ⟨V6, hV⟩ : ∃ V, w6.alloc (.cells #[.slice W zs.length c, .int .i64 a] 64) = V := ⟨_, rfl⟩
  rw [hV] at V0 BV2
  rw [hnb] at V0
  clear p0 p1
  obtain ⟨p0, p1, _, _⟩ := V0.b.pair
  obtain ⟨t0, t1, _, _⟩ := V0.t.pair
  have VH6 := Lib.hid V0
  have BV6 := Lib.hid BV2
  clear BXn V0 BV BV2 hb6 V3 B3 VH BVh
  go_wp2_with fail
  refine (ssame_any W c a a 0 zs _ (HR.out.kept BV6.out) hm (by omega) (by omega) (by omega)).mono ?_
  rintro e w7 ⟨rfl, hb7⟩
  have B7 : Below w.heap.size w w7 := BV6.out.trans (hb7.mono BV6.out.size)
  go_wp2_with (go_at_call 38; refine (salive _).mono ?_; rintro e w8 ⟨rfl, hb8⟩)
  go_ret
  exact ⟨rfl, B7.trans (hb8.mono B7.size)⟩
set_option maxRecDepth 100000 in
set_option maxHeartbeats 8000000 in
theorem walk_skip (n : Int) (W : Option Addr) (m c : Nat) (a : Int) (T : Option Addr) (q tc : Nat) (w : World) (h : 300 < n ∧ n ≤ 65536 ∨ 1000 < m ∨ 300 < q ∨ a < -1099511627776 ∨ 1099511627776 < a) (hm : m ≤ maxLen) (hq : q ≤ maxLen) (ha1 : -9223372036854775808 ≤ a) (ha2 : a ≤ 9223372036854775807) :
    Calls Try.prog 8 #[.int .i64 n, .agg #[.slice W m c, .int .i64 a], .slice T q tc] w fun e w' => e = .returned (.bool true) ∧ Below w.heap.size w w' := by
  have hbox : Below w.heap.size w (w.alloc (.cells #[.slice W m c, .int .i64 a] 64)) := (Below.refl _ _).alloc (Nat.le_refl _) _
  have BX := Blk.new w #[(.slice W m c : Value), .int .i64 a] 64
  obtain ⟨p0, p1, _, _⟩ := BX.pair
  have HBX := Lib.hid hbox
  clear hbox BX
  unfold maxLen at hm hq
  have d0 : (300 < n ∧ n ≤ 65536) ∨ ((n ≤ 300 ∨ (65536 < n ∧ 300 < n)) ∧ (1000 < m ∨ (m ≤ 1000 ∧ (300 < q ∨ (q ≤ 300 ∧ (a < -1099511627776 ∨ (-1099511627776 ≤ a ∧ 1099511627776 < a))))))) := by omega
  clear h
  rcases d0 with ⟨h1, h2⟩ | ⟨h1 | ⟨h1, h1'⟩, h2 | ⟨h2, h3 | ⟨h3, h4 | ⟨h4, h5⟩⟩⟩⟩
  all_goals (
    go_enter Try.func8, Try.ntmps8
    go_wp2_with fail
    go_ret
    exact ⟨rfl, HBX.out⟩)
set_option maxRecDepth 100000 in
set_option maxHeartbeats 8000000 in
theorem walk_arg (n : Int) (W : Option Addr) (c : Nat) (a : Int) (zs : List Int) (T : Option Addr) (q tc : Nat) (w : World) (h : n < 0 ∨ 65536 < n) (hq : q ≤ 300) (hm : zs.length ≤ 1000) (ha1 : -1099511627776 ≤ a) (ha2 : a ≤ 1099511627776) (hr : RdI w .u32 W zs) :
    Calls Try.prog 8 #[.int .i64 n, .agg #[.slice W zs.length c, .int .i64 a], .slice T q tc] w fun e w' => e = .returned (.bool true) ∧ Below w.heap.size w w' := by
  have hbox : Below w.heap.size w (w.alloc (.cells #[.slice W zs.length c, .int .i64 a] 64)) := (Below.refl _ _).alloc (Nat.le_refl _) _
  have BX := Lib.hid (Blk.new w #[(.slice W zs.length c : Value), .int .i64 a] 64)
  have HR := Lib.hid hr
  have HBX := Lib.hid hbox
  have P := Lib.hid (fun X => porder_arg n W zs.length c a X h)
  have d : (n ≤ 300 ∧ n < 0) ∨ (65536 < n ∧ 300 < n ∧ 0 ≤ n) := by omega
  clear hr hbox h
  rcases d with ⟨h1, h2⟩ | ⟨h1, h2, h3⟩
  all_goals (
    go_enter Try.func8, Try.ntmps8
    go_wp2_with fail
    refine (P.out _).mono ?_
    rintro e w1 ⟨rfl, hb1⟩
    have BX1 := BX.out.next hb1
    have V0 : TW w (w1.alloc (.cells #[.slice W zs.length c, .int .i64 a] 64)) w1.heap.size W zs.length c a a := ⟨BX1.alloc _, Blk.new _ _ _⟩
    have BV : Below w.heap.size w w1 := HBX.out.trans (hb1.mono HBX.out.size)
    have BV2 := BV.alloc BV.size (.cells #[.slice W zs.length c, .int .i64 a] 64)
    obtain ⟨nb, hnb⟩ : ∃ nb, w1.heap.size = nb := ⟨_, rfl⟩
    obtain ⟨V, hV⟩ : ∃ V, w1.alloc (.cells #[.slice W zs.length c, .int .i64 a] 64) = V := ⟨_, rfl⟩
    rw [hV] at V0 BV2
    rw [hnb] at V0
    obtain ⟨p0, p1, _, _⟩ := V0.b.pair
    obtain ⟨t0, t1, _, _⟩ := V0.t.pair
    have BVh := Lib.hid BV2
    clear BX1 V0 BV BV2 hb1
    go_wp2_with fail
    refine (ssame_any W c a a 0 zs _ (HR.out.kept BVh.out) hm (by omega) (by omega) (by omega)).mono ?_
    rintro e w5 ⟨rfl, hb5⟩
    have B5 : Below w.heap.size w w5 := BVh.out.trans (hb5.mono BVh.out.size)
    go_wp2_with (go_at_call 38; refine (salive _).mono ?_; rintro e w6 ⟨rfl, hb6⟩)
    go_ret
    exact ⟨rfl, B5.trans (hb6.mono B5.size)⟩)
theorem walk {w : World} {n : Int} {W : Option Addr} {c : Nat} {zs : List Int} {a : Int} {T : Option Addr} {tc q : Nat} {t : Nat → ByteArray} (w0 : (Lit.int .i64 n).wf = true) (hl : zs.length ≤ c) (hcm : c ≤ maxLen) (hr : RdI w .u32 W zs ∧ (W = none → c = 0)) (wa : (Lit.int .i64 a).wf = true) (hq : q ≤ tc) (htm : tc ≤ maxLen) (hT : RdT w T q t) (_ : T = none → tc = 0) :
    Calls Try.prog 8 #[.int .i64 n, .agg #[.slice W zs.length c, .int .i64 a], .slice T q tc] w fun e w' => e = .returned (.bool true) ∧ Below w.heap.size w w' := by
  obtain ⟨a1, a2⟩ := bounds_i64 wa
  obtain ⟨hr, hnil⟩ := hr
  by_cases g : 300 < n ∧ n ≤ 65536 ∨ 1000 < zs.length ∨ 300 < q ∨ a < -1099511627776 ∨ 1099511627776 < a
  · exact walk_skip n W zs.length c a T q tc w g (by omega) (by omega) a1 a2
  · by_cases g2 : n < 0 ∨ 65536 < n
    · exact walk_arg n W c a zs T q tc w g2 (by omega) (by omega) (by omega) (by omega) hr
    · obtain ⟨nn, rfl⟩ := Int.eq_ofNat_of_zero_le (show 0 ≤ n by omega)
      have hf : 0 ≤ lf zs.length a := by unfold lf; split <;> omega
      obtain ⟨L, hL⟩ := Int.eq_ofNat_of_zero_le hf
      rcases Nat.lt_or_ge L (nn - 1) with h | h <;> rcases Nat.lt_or_ge L (q - 1) with h2 | h2
      · exact walk_dry_dry nn W c a zs T q tc t L w (by omega) (by omega) hl hcm (by omega) (by omega) hr hnil hL hT (by omega) h h2
      · exact walk_dry_ok nn W c a zs T q tc t L w (by omega) (by omega) hl hcm (by omega) (by omega) hr hnil hL hT (by omega) h h2
      · exact walk_ok_dry nn W c a zs T q tc t L w (by omega) (by omega) hl hcm (by omega) (by omega) hr hnil hL hT (by omega) h h2
      · exact walk_ok_ok nn W c a zs T q tc t L w (by omega) (by omega) hl hcm (by omega) (by omega) hr hnil hL hT (by omega) h h2

end Go.Proofs.Yteebeiflipfbkaa.shuffleOrders
