/- The walk of ShuffleSome: it answers true for every input, and leaves all old blocks as they were. No condition. -/
import Derived.Test.YtmdjncknjbjmbaaRows
import Derived.Test.YtmdjncknjbjmbaaRowKit
import Derived.Test.YtmdjncknjbjmbaaSlicesEq
import Derived.Test.YtmdjncknjbjmbaaSlicesEqM
import Derived.Test.YtmdjncknjbjmbaaRowL
import Derived.Test.YtmdjncknjbjmbaaMakeI
import Derived.Test.YtmdjncknjbjmbaaBlocks
import Derived.Test.YtmdjncknjbjmbaaWordsA
import Derived.Test.YtmdjncknjbjmbaaShufMath
import Derived.Test.YtmdjncknjbjmbaaShufA
import Derived.Test.YtmdjncknjbjmbaaShufB
import Derived.Test.YtmdjncknjbjmbaaShufC
import Derived.Test.YtmdjncknjbjmbaaShufD
import Derived.Test.YtmdjncknjbjmbaaShufE
import Derived.Test.YtmdjncknjbjmbaaShufF
import Derived.Test.YtmdjncknjbjmbaaShufG
import Derived.Test.YtmdjncknjbjmbaaShufH
import Derived.Test.YtmdjncknjbjmbaaRowKit2
import Derived.WalkKit
import Derived.ProofKit
import Derived.OpenShut
import Derived.Deep.QuietTactic
import Derived.BigQuiet
import Derived.Lib.SmallJoins
import Derived.Lib.Hide
import Derived.WalkSpells
import Derived.WalkLawsBesides
import Derived.IntWalk
import Derived.OwnWalk
import Derived.Laws.CopyOwn
import Derived.Laws.MakeOwn
import Derived.Laws.OwnMore
import Derived.Deep.LoopGhost
namespace Go.Proofs.Ytmdjncknjbjmbaa.shuffleSome
open Go.ChangeShapes Go.WideShapes Go.ChangeAt Go.RowKit Go.Joins
set_option linter.unusedSimpArgs false
set_option linter.unusedVariables false

/-- the word so many places behind -/
def wsF (zs : List Int) (a : Int) (j : Nat) : Int := zat zs (a.toNat + j)
theorem ws_at {zs : List Int} {a : Int} {j : Nat} (h : (j : Int) < lf zs.length a) : 0 ≤ a ∧ a.toNat + j < zs.length ∧ a + j = ((a.toNat + j : Nat) : Int) := by
  unfold lf at h
  split at h <;> omega
theorem ws_bd {zs : List Int} {a : Int} {w : World} {W : Option Addr} (hr : RdI w .u32 W zs) {j : Nat} (h : (j : Int) < lf zs.length a) : 0 ≤ wsF zs a j ∧ wsF zs a j ≤ 4294967295 := by
  obtain ⟨_, _, _, _, hw⟩ := hr _ (ws_at h).2.1
  exact bounds_u32 hw
theorem ws_cell {zs : List Int} {a : Int} {w X : World} {W : Option Addr} (hr : RdI w .u32 W zs) (hb : Below w.heap.size w X) {j : Nat} (h : (j : Int) < lf zs.length a) : ∃ b o ka : Nat, W = some ⟨b, o, none⟩ ∧ a + j = (ka : Nat) ∧ ka < zs.length ∧ X.cell? ⟨b, o + ka, none⟩ = some (.int .u32 (wsF zs a j)) := by
  obtain ⟨h0, h1, h2⟩ := ws_at h
  obtain ⟨b, o, e, _, hc⟩ := rdI_row (hr.kept hb) (by omega)
  exact ⟨b, o, _, e, h2, h1, hc _ h1⟩
/-- the words that are left -/
def LeftR (L : Nat) (ws : Nat → Int) (w : World) (e : Ending) (w' : World) : Prop := ∃ A c, e = .returned (.slice A L c) ∧ WAt w' A L ws ∧ Below w.heap.size w w'
theorem left_all (W : Option Addr) (c : Nat) (a : Int) (zs : List Int) (L : Nat) (w : World) (hr : RdI w .u32 W zs) (hl : zs.length ≤ c) (hm : c ≤ maxLen) (hL : lf zs.length a = L) (hnil : W = none → c = 0) :
    Calls Try.prog 39 #[.agg #[.slice W zs.length c, .int .i64 a]] w (LeftR L (wsF zs a) w) := by
  by_cases h : 0 ≤ a ∧ a ≤ zs.length
  · rw [lf_in h] at hL
    obtain ⟨ka, rfl⟩ := Int.eq_ofNat_of_zero_le h.1
    cases W with
    | none =>
      have hc := hnil rfl
      have hz : zs.length = 0 := by omega
      have hka : ka = 0 := by omega
      subst hc; subst hka
      rw [hz]
      refine (sleft_nil w).mono fun e w' ⟨he, hb⟩ => ⟨none, 0, ?_, fun j hj => absurd hj (by omega), hb⟩
      rw [he, show L = 0 by omega]
    | some ad =>
      by_cases hz : zs.length = 0
      · have hka : ka = 0 := by omega
        subst hka
        rw [hz]
        refine (sleft_zero ad c w hm).mono fun e w' ⟨⟨A, c', he⟩, hb⟩ => ⟨A, c', ?_, fun j hj => absurd hj (by omega), hb⟩
        rw [he, show L = 0 by omega]
      · obtain ⟨b, o, e, hlt, hc⟩ := rdI_row hr (by omega)
        cases e
        refine (sleft_in b o zs.length c ka w (by omega) hl hm).mono fun e w' ⟨⟨A, he, hA⟩, hb⟩ => ⟨A, c - ka, by rw [he, show zs.length - ka = L by omega], fun j hj => ?_, hb⟩
        refine ⟨b, o + ka, hA (by omega), Nat.lt_of_lt_of_le hlt hb.size, ?_⟩
        have := (hb.cell (p := ⟨b, o + (ka + j), none⟩) hlt).trans (hc (ka + j) (by omega))
        rw [Nat.add_assoc]
        exact this
  · rw [lf_out h] at hL
    refine (sleft_out W _ c a w h).mono fun e w' ⟨he, hb⟩ => ⟨none, 0, by rw [he, show L = 0 by omega], fun j hj => absurd hj (by omega), hb⟩
/-- the two streams in memory -/
structure TW (w X : World) (nb : Nat) (W : Option Addr) (m c : Nat) (a a' : Int) : Prop where
  b : Blk X w.heap.size 54 #[.slice W m c, .int .i64 a]
  t : Blk X nb 54 #[.slice W m c, .int .i64 a']
theorem TW.next {w X Y : World} {nb : Nat} {W : Option Addr} {m c : Nat} {a a' : Int} (h : TW w X nb W m c a a') (hb : Below X.heap.size X Y) : TW w Y nb W m c a a' := ⟨h.b.next hb, h.t.next hb⟩
set_option maxRecDepth 100000 in
set_option maxHeartbeats 8000000 in
theorem walk_ok (k n : Nat) (W : Option Addr) (c : Nat) (a : Int) (zs : List Int) (L : Nat) (w : World) (hkn : k ≤ n) (hn : n ≤ 300) (hm : zs.length ≤ 1000) (hc : zs.length ≤ c) (hcm : c ≤ maxLen) (ha1 : -1099511627776 ≤ a) (ha2 : a ≤ 1099511627776) (hr : RdI w .u32 W zs) (hnil : W = none → c = 0) (hL : lf zs.length a = L) (hkL : k ≤ L) :
    Calls Try.prog 9 #[.int .i64 k, .int .i64 n, .agg #[.slice W zs.length c, .int .i64 a]] w fun e w' => e = .returned (.bool true) ∧ Below w.heap.size w w' := by
  have hbox : Below w.heap.size w (w.alloc (.cells #[.slice W zs.length c, .int .i64 a] 54)) := (Below.refl _ _).alloc (Nat.le_refl _) _
  have BX := Lib.hid (Blk.new w #[(.slice W zs.length c : Value), .int .i64 a] 54)
  have LA := Lib.hid (fun X (h : RdI X .u32 W zs) => left_all W c a zs L X h hc hcm hL hnil)
  have HWd : Hid (WD (wsF zs a) L) := Lib.hid fun j hj => ws_bd hr (by rw [hL]; omega)
  have HR := Lib.hid hr
  have HBX := Lib.hid hbox
  have P := Lib.hid (fun X (h : RdI X .u32 W zs) => psome_loop k n zs.length c a W (wsF zs a) X hkn hn hm (by omega) ha2 (fun j hj => ws_bd hr hj) (fun Y hb j hj => ws_cell h hb hj) (fun e w' => ∃ A c', e = .returned (.tuple #[.slice A k c', .agg #[.slice W zs.length c, .int .i64 (a + k)], .int .i64 0]) ∧ RdI w' .i64 A (rowL (someF (wsF zs a) n k) k) ∧ Below X.heap.size X w' ∧ k ≤ c' ∧ c' ≤ 300)
    (fun _ A w' hA hb c' h1 h2 => ⟨A, c', rfl, hA, hb, h1, h2⟩) (fun h => by rw [hL] at h; omega))
  have RS : Hid (∀ X A c', WAt X A L (wsF zs a) → Calls Try.prog 38 #[.int .i64 k, .int .i64 n, .slice A L c'] X (SomeR k (rowL (someF (wsF zs a) n k) k) X)) := Lib.hid fun X A c' hA => by
    rcases Nat.eq_zero_or_pos k with h0 | h0
    · subst h0
      exact rsome_zero n L c' A X hn _ (fun e w' h => h)
    · exact rsome_loop k n L c' A (wsF zs a) X h0 hkn hn (by unfold lf at hL; split at hL <;> omega) HWd.out hA _ (fun _ e w' h => h) (fun h => by omega)
  have INJ : Hid (∀ i j, i < k → j < i → someF (wsF zs a) n k j ≠ someF (wsF zs a) n k i) := Lib.hid fun i j hi hj e => by
    have := some_inj (ws := wsF zs a) (n := n) k (fun j' hj' => ⟨by omega, HWd.out j' (by omega)⟩) j i (by omega) (by omega) e
    omega
  have hlen := Lib.hid (rowL_len (someF (wsF zs a) n k) k)
  clear hr hL hnil hbox
  go_enter Try.func9, Try.ntmps9
  go_wp2_with fail
  refine (P.out _ (HR.out.kept HBX.out)).mono ?_
  rintro e w1 ⟨A, c', rfl, hA, hb1, hc1, hc2⟩
  have BX1 := BX.out.next hb1
  have V0 : TW w (w1.alloc (.cells #[.slice W zs.length c, .int .i64 (a + k)] 54)) w1.heap.size W zs.length c a (a + k) := ⟨BX1.alloc _, Blk.new _ _ _⟩
  have BV : Below w.heap.size w w1 := HBX.out.trans (hb1.mono HBX.out.size)
  have BV2 := BV.alloc BV.size (.cells #[.slice W zs.length c, .int .i64 (a + k)] 54)
  obtain ⟨nb, hnb⟩ : ∃ nb, w1.heap.size = nb := ⟨_, rfl⟩
  obtain ⟨V, hV⟩ : ∃ V, w1.alloc (.cells #[.slice W zs.length c, .int .i64 (a + k)] 54) = V := ⟨_, rfl⟩
  have HA := hA.kept ((Below.refl w1.heap.size w1).alloc (Nat.le_refl _) (.cells #[.slice W zs.length c, .int .i64 (a + k)] 54))
  rw [hV] at V0 BV2 HA
  rw [hnb] at V0
  obtain ⟨p0, p1, _, _⟩ := V0.b.pair
  have VH := Lib.hid V0
  have HAh := Lib.hid HA
  have BVh := Lib.hid BV2
  clear BX1 V0 BV BV2 hA hb1 HA
  go_wp2_with fail
  refine (LA.out _ (HR.out.kept BVh.out)).mono ?_
  rintro e w2 ⟨A2, c2, rfl, hWA, hb2⟩
  have V2 := Lib.hid (VH.out.next hb2)
  have HA2 := Lib.hid (HAh.out.kept hb2)
  have B2 := Lib.hid (BVh.out.trans (hb2.mono BVh.out.size))
  clear p0 p1 hb2
  go_wp2_with fail
  refine (RS.out _ _ _ hWA).mono ?_
  rintro e w3 ⟨A3, c3, rfl, hA3, hb3⟩
  have V3 := Lib.hid (V2.out.next hb3)
  have HA4 := Lib.hid (HA2.out.kept hb3)
  have HA3 := Lib.hid hA3
  have B3 := Lib.hid (B2.out.trans (hb3.mono B2.out.size))
  clear hA3 hb3 hWA
  go_wp2_with fail
  go_loopg [12] k (fun g i wr => ∃ (j q : Nat), j ≤ k ∧ g = k - j ∧ i = .int .i64 j ∧ wr = w3.drewN q)
  case atStart => exact ⟨0, 0, by omega, by omega, rfl, rfl⟩
  case round =>
    obtain ⟨j, q, hj, rfl, rfl, rfl⟩ := hrel
    by_cases hjk : j < k
    · obtain ⟨b, off, rfl, hlt, hcl⟩ := rdI_row HA4.out (by rw [hlen.out]; omega)
      have cj := hcl j (by rw [hlen.out]; exact hjk)
      rw [rowL_at _ hjk] at cj
      have K := Lib.hid (fun X (hX : X.heap = w3.heap) => contains_no (some ⟨b, off, none⟩) c' j (someF (wsF zs a) n k) (someF (wsF zs a) n k j) X (fun i hi => ⟨b, off, rfl, by
        rw [World.cell?_of_block (w := w3) (by rw [hX])]
        have := hcl i (by rw [hlen.out]; omega)
        rwa [rowL_at _ (by omega)] at this⟩) (by omega) (fun i hi => INJ.out j i hjk hi))
      obtain ⟨x, hx⟩ : ∃ x, someF (wsF zs a) n k j = x := ⟨_, rfl⟩
      rw [hx] at cj K
      have jc : j ≤ c' := by omega
      have jcI : (j : Int) ≤ c' := by omega
      have jkI : (j : Int) < k := by omega
      clear hcl hx
      go_wp2_with fail
      go_quiet ((go_at_call 33; exact (K.out _ (by rfl)).mono fun _ _ h => ⟨h.1, _, h.2.symm⟩))
      go_wp2_with fail
      go_roundg (k - (j + 1))
      case measure => omega
      case rel => exact ⟨j + 1, _, by omega, rfl, by go_num, rfl⟩
    · obtain rfl : j = k := by omega
      have HE := Lib.hid (equal_int_n A A3 c' c3 j _ (w3.drewN q) (rowL_len _ _) HA4.out HA3.out (by omega))
      obtain ⟨p0, p1, _, _⟩ := V3.out.b.pair
      obtain ⟨t0, t1, _, _⟩ := V3.out.t.pair
      go_wp2_with fail
      refine HE.out.mono ?_
      rintro e w4 ⟨rfl, q2, rfl⟩
      go_wp2_with fail
      refine (ssame_any W c (a + j) a j zs (w3.drewN (q + q2)) (HR.out.kept (below_drewN B3.out (q + q2))) hm (by omega) (by omega) (by omega)).mono ?_
      rintro e w5 ⟨rfl, hb5⟩
      have B5 : Below w.heap.size w w5 := (below_drewN B3.out (q + q2)).trans (hb5.mono B3.out.size)
      go_wp2_with (go_at_call 35; refine (salive _).mono ?_; rintro e w6 ⟨rfl, hb6⟩)
      go_ret
      exact ⟨rfl, B5.trans (hb6.mono B5.size)⟩
set_option maxRecDepth 100000 in
set_option maxHeartbeats 8000000 in
theorem walk_dry (k n : Nat) (W : Option Addr) (c : Nat) (a : Int) (zs : List Int) (L : Nat) (w : World) (hkn : k ≤ n) (hn : n ≤ 300) (hm : zs.length ≤ 1000) (hc : zs.length ≤ c) (hcm : c ≤ maxLen) (ha1 : -1099511627776 ≤ a) (ha2 : a ≤ 1099511627776) (hr : RdI w .u32 W zs) (hnil : W = none → c = 0) (hL : lf zs.length a = L) (hkL : L < k) :
    Calls Try.prog 9 #[.int .i64 k, .int .i64 n, .agg #[.slice W zs.length c, .int .i64 a]] w fun e w' => e = .returned (.bool true) ∧ Below w.heap.size w w' := by
  have hbox : Below w.heap.size w (w.alloc (.cells #[.slice W zs.length c, .int .i64 a] 54)) := (Below.refl _ _).alloc (Nat.le_refl _) _
  have BX := Lib.hid (Blk.new w #[(.slice W zs.length c : Value), .int .i64 a] 54)
  have LA := Lib.hid (fun X (h : RdI X .u32 W zs) => left_all W c a zs L X h hc hcm hL hnil)
  have HWd : Hid (WD (wsF zs a) L) := Lib.hid fun j hj => ws_bd hr (by rw [hL]; omega)
  have HR := Lib.hid hr
  have HBX := Lib.hid hbox
  have P := Lib.hid (fun X (h : RdI X .u32 W zs) => psome_loop k n zs.length c a W (wsF zs a) X hkn hn hm (by omega) ha2 (fun j hj => ws_bd hr hj) (fun Y hb j hj => ws_cell h hb hj) (fun e w' => e = .returned (.tuple #[.slice none 0 0, .agg #[.slice W zs.length c, .int .i64 a], .int .i64 50]) ∧ Below X.heap.size X w')
    (fun h => by rw [hL] at h; omega) (fun _ w' hb => ⟨rfl, hb⟩))
  have RS : Hid (∀ X A c', WAt X A L (wsF zs a) → Calls Try.prog 38 #[.int .i64 k, .int .i64 n, .slice A L c'] X fun e w' => e = .returned (.tuple #[.slice none 0 0, .bool false]) ∧ Below X.heap.size X w') := Lib.hid fun X A c' hA =>
    rsome_loop k n L c' A (wsF zs a) X (by omega) hkn hn (by unfold lf at hL; split at hL <;> omega) HWd.out hA _ (fun h => by omega) (fun _ e w' h => h)
  clear hr hL hnil hbox
  go_enter Try.func9, Try.ntmps9
  go_wp2_with fail
  refine (P.out _ (HR.out.kept HBX.out)).mono ?_
  rintro e w1 ⟨rfl, hb1⟩
  have BX1 := BX.out.next hb1
  have V0 : TW w (w1.alloc (.cells #[.slice W zs.length c, .int .i64 a] 54)) w1.heap.size W zs.length c a a := ⟨BX1.alloc _, Blk.new _ _ _⟩
  have BV : Below w.heap.size w w1 := HBX.out.trans (hb1.mono HBX.out.size)
  have BV2 := BV.alloc BV.size (.cells #[.slice W zs.length c, .int .i64 a] 54)
  obtain ⟨nb, hnb⟩ : ∃ nb, w1.heap.size = nb := ⟨_, rfl⟩
  obtain ⟨V, hV⟩ : ∃ V, w1.alloc (.cells #[.slice W zs.length c, .int .i64 a] 54) = V := ⟨_, rfl⟩
  rw [hV] at V0 BV2
  rw [hnb] at V0
  obtain ⟨p0, p1, _, _⟩ := V0.b.pair
  have VH := Lib.hid V0
  have BVh := Lib.hid BV2
  clear BX1 V0 BV BV2 hb1
  go_wp2_with fail
  refine (LA.out _ (HR.out.kept BVh.out)).mono ?_
  rintro e w2 ⟨A2, c2, rfl, hWA, hb2⟩
  have V2 := Lib.hid (VH.out.next hb2)
  have B2 := Lib.hid (BVh.out.trans (hb2.mono BVh.out.size))
  clear p0 p1 hb2
  go_wp2_with fail
  refine (RS.out _ _ _ hWA).mono ?_
  rintro e w3 ⟨rfl, hb3⟩
  have V3 := V2.out.next hb3
  obtain ⟨p0, p1, _, _⟩ := V3.b.pair
  obtain ⟨t0, t1, _, _⟩ := V3.t.pair
  have B3 := Lib.hid (B2.out.trans (hb3.mono B2.out.size))
  clear V3 hb3 hWA
  go_wp2_with fail
  refine (ssame_any W c a a 0 zs _ (HR.out.kept B3.out) hm (by omega) (by omega) (by omega)).mono ?_
  rintro e w5 ⟨rfl, hb5⟩
  have B5 : Below w.heap.size w w5 := B3.out.trans (hb5.mono B3.out.size)
  go_wp2_with (go_at_call 35; refine (salive _).mono ?_; rintro e w6 ⟨rfl, hb6⟩)
  go_ret
  exact ⟨rfl, B5.trans (hb6.mono B5.size)⟩
set_option maxRecDepth 100000 in
set_option maxHeartbeats 8000000 in
theorem walk_skip (k n : Int) (W : Option Addr) (m c : Nat) (a : Int) (w : World) (h : 300 < n ∧ n ≤ 65536 ∨ 1000 < m ∨ a < -1099511627776 ∨ 1099511627776 < a) (hm : m ≤ maxLen) (ha1 : -9223372036854775808 ≤ a) (ha2 : a ≤ 9223372036854775807) :
    Calls Try.prog 9 #[.int .i64 k, .int .i64 n, .agg #[.slice W m c, .int .i64 a]] w fun e w' => e = .returned (.bool true) ∧ Below w.heap.size w w' := by
  have hbox : Below w.heap.size w (w.alloc (.cells #[.slice W m c, .int .i64 a] 54)) := (Below.refl _ _).alloc (Nat.le_refl _) _
  have BX := Blk.new w #[(.slice W m c : Value), .int .i64 a] 54
  obtain ⟨p0, p1, _, _⟩ := BX.pair
  have HBX := Lib.hid hbox
  clear hbox BX
  have d : (300 < n ∧ n ≤ 65536) ∨ (n ≤ 300 ∧ 1000 < m) ∨ (65536 < n ∧ 300 < n ∧ 1000 < m) ∨ (n ≤ 300 ∧ m ≤ 1000 ∧ a < -1099511627776) ∨ (65536 < n ∧ 300 < n ∧ m ≤ 1000 ∧ a < -1099511627776) ∨ (n ≤ 300 ∧ m ≤ 1000 ∧ 1099511627776 < a) ∨ (65536 < n ∧ 300 < n ∧ m ≤ 1000 ∧ 1099511627776 < a) := by omega
  clear h
  rcases d with ⟨h1, h2⟩ | ⟨h1, h2⟩ | ⟨h1, h2, h3⟩ | ⟨h1, h2, h3⟩ | ⟨h1, h2, h3, h4⟩ | ⟨h1, h2, h3⟩ | ⟨h1, h2, h3, h4⟩
  all_goals (
    go_enter Try.func9, Try.ntmps9
    go_wp2_with fail
    go_ret
    exact ⟨rfl, HBX.out⟩)
set_option maxRecDepth 100000 in
set_option maxHeartbeats 8000000 in
theorem walk_arg (k n : Int) (W : Option Addr) (c : Nat) (a : Int) (zs : List Int) (w : World) (h : k < 0 ∨ n < k ∨ 65536 < n) (hn : n ≤ 300 ∨ 65536 < n) (hm : zs.length ≤ 1000) (ha1 : -1099511627776 ≤ a) (ha2 : a ≤ 1099511627776) (hr : RdI w .u32 W zs) :
    Calls Try.prog 9 #[.int .i64 k, .int .i64 n, .agg #[.slice W zs.length c, .int .i64 a]] w fun e w' => e = .returned (.bool true) ∧ Below w.heap.size w w' := by
  have hbox : Below w.heap.size w (w.alloc (.cells #[.slice W zs.length c, .int .i64 a] 54)) := (Below.refl _ _).alloc (Nat.le_refl _) _
  have BX := Lib.hid (Blk.new w #[(.slice W zs.length c : Value), .int .i64 a] 54)
  have HR := Lib.hid hr
  have HBX := Lib.hid hbox
  have P := Lib.hid (fun X => psome_arg k n W zs.length c a X h)
  have d : (n ≤ 300 ∧ k < 0) ∨ (65536 < n ∧ 300 < n ∧ k < 0) ∨ (n ≤ 300 ∧ n < k ∧ 0 ≤ k) ∨ (65536 < n ∧ 300 < n ∧ n < k ∧ 0 ≤ k) ∨ (65536 < n ∧ 300 < n ∧ k ≤ n ∧ 0 ≤ k) := by omega
  clear hr hbox h hn
  rcases d with ⟨h1, h2⟩ | ⟨h1, h2, h3⟩ | ⟨h1, h2, h3⟩ | ⟨h1, h2, h3, h4⟩ | ⟨h1, h2, h3, h4⟩
  all_goals (
    go_enter Try.func9, Try.ntmps9
    go_wp2_with fail
    refine (P.out _).mono ?_
    rintro e w1 ⟨rfl, hb1⟩
    have BX1 := BX.out.next hb1
    have V0 : TW w (w1.alloc (.cells #[.slice W zs.length c, .int .i64 a] 54)) w1.heap.size W zs.length c a a := ⟨BX1.alloc _, Blk.new _ _ _⟩
    have BV : Below w.heap.size w w1 := HBX.out.trans (hb1.mono HBX.out.size)
    have BV2 := BV.alloc BV.size (.cells #[.slice W zs.length c, .int .i64 a] 54)
    obtain ⟨nb, hnb⟩ : ∃ nb, w1.heap.size = nb := ⟨_, rfl⟩
    obtain ⟨V, hV⟩ : ∃ V, w1.alloc (.cells #[.slice W zs.length c, .int .i64 a] 54) = V := ⟨_, rfl⟩
    rw [hV] at V0 BV2
    rw [hnb] at V0
    obtain ⟨p0, p1, _, _⟩ := V0.b.pair
    obtain ⟨t0, t1, _, _⟩ := V0.t.pair
    have BVh := Lib.hid BV2
    clear BX1 V0 BV BV2 hb1
    go_wp2_with fail
    refine (ssame_any W c a a 0 zs _ (HR.out.kept BVh.out) hm (by omega) (by omega) (by omega)).mono ?_
    rintro e w5 ⟨rfl, hb5⟩
    have B5 : Below w.heap.size w w5 := BVh.out.trans (hb5.mono BVh.out.size)
    go_wp2_with (go_at_call 35; refine (salive _).mono ?_; rintro e w6 ⟨rfl, hb6⟩)
    go_ret
    exact ⟨rfl, B5.trans (hb6.mono B5.size)⟩)
theorem walk {w : World} {k n : Int} {W : Option Addr} {c : Nat} {zs : List Int} {a : Int} (w0 : (Lit.int .i64 k).wf = true) (w1 : (Lit.int .i64 n).wf = true) (hl : zs.length ≤ c) (hcm : c ≤ maxLen) (hr : RdI w .u32 W zs ∧ (W = none → c = 0)) (wa : (Lit.int .i64 a).wf = true) :
    Calls Try.prog 9 #[.int .i64 k, .int .i64 n, .agg #[.slice W zs.length c, .int .i64 a]] w fun e w' => e = .returned (.bool true) ∧ Below w.heap.size w w' := by
  obtain ⟨a1, a2⟩ := bounds_i64 wa
  obtain ⟨hr, hnil⟩ := hr
  by_cases g : 300 < n ∧ n ≤ 65536 ∨ 1000 < zs.length ∨ a < -1099511627776 ∨ 1099511627776 < a
  · exact walk_skip k n W zs.length c a w g (by omega) a1 a2
  · by_cases g2 : k < 0 ∨ n < k ∨ 65536 < n
    · exact walk_arg k n W c a zs w g2 (by omega) (by omega) (by omega) (by omega) hr
    · obtain ⟨kn, rfl⟩ := Int.eq_ofNat_of_zero_le (show 0 ≤ k by omega)
      obtain ⟨nn, rfl⟩ := Int.eq_ofNat_of_zero_le (show 0 ≤ n by omega)
      have hf : 0 ≤ lf zs.length a := by unfold lf; split <;> omega
      obtain ⟨L, hL⟩ := Int.eq_ofNat_of_zero_le hf
      rcases Nat.lt_or_ge L kn with h | h
      · exact walk_dry kn nn W c a zs L w (by omega) (by omega) (by omega) hl hcm (by omega) (by omega) hr hnil hL h
      · exact walk_ok kn nn W c a zs L w (by omega) (by omega) (by omega) hl hcm (by omega) (by omega) hr hnil hL h

end Go.Proofs.Ytmdjncknjbjmbaa.shuffleSome
