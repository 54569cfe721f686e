/- Contract of windows.Sum. -/
import Derived.Test.YtffcmfpadaebdabRows
import Derived.Test.YtffcmfpadaebdabRowKit
import Derived.Test.YtffcmfpadaebdabRowS
import Derived.Test.YtffcmfpadaebdabRowZ
import Derived.Test.YtffcmfpadaebdabSlicesEq
import Derived.Test.YtffcmfpadaebdabRowL
import Derived.Test.YtffcmfpadaebdabRowM
import Derived.Test.YtffcmfpadaebdabBlocks
import Derived.Test.YtffcmfpadaebdabWinMath
import Derived.Test.YtffcmfpadaebdabWindowsA
import Derived.Test.YtffcmfpadaebdabWindowsB
import Derived.WalkKit
import Derived.IntWalk
import Derived.Lib.Hide
import Derived.Lib.SmallJoins
import Derived.WalkSpells
import Derived.WalkLawsBesides
import Derived.Laws.CopyOwn
import Derived.Laws.MakeOwn
import Derived.Laws.OwnMore
import Derived.OwnWalk
import Derived.Deep.QuietTactic
import Derived.Deep.RegionHeld3
import Derived.Deep.LoopGhost
import Derived.BigQuiet
import Derived.BigRegion
namespace Go.Proofs.Ytffcmfpadaebdab
open Go.RowKit
set_option linter.unusedSimpArgs false
set_option linter.unusedVariables false
theorem kp3 {w : World} {b o : Nat} {v : Value} {o1 o2 o3 : Obj} (h : w.cell? ⟨b, o, none⟩ = some v) (hb : b < w.heap.size) : (((w.alloc o1).alloc o2).alloc o3).drew.cell? ⟨b, o, none⟩ = some v := by
  show (((w.alloc o1).alloc o2).alloc o3).cell? ⟨b, o, none⟩ = some v
  rw [World.cell?_alloc_lt _ _ _ (by simp; omega), World.cell?_alloc_lt _ _ _ (by simp; omega), World.cell?_alloc_lt _ _ _ hb]
  exact h
theorem col_bd' {M : Int} {y : Nat → Nat → Int} {j : Nat} : ∀ k : Nat, (∀ i, i < k → -M ≤ y i j ∧ y i j ≤ M) → -((k : Int) * M) ≤ colV y j k ∧ colV y j k ≤ k * M
  | 0, _ => by show -(0 * M) ≤ (0 : Int) ∧ (0 : Int) ≤ 0 * M; omega
  | k + 1, h => by
    have i := col_bd' k (fun i hi => h i (by omega))
    have b := h k (by omega)
    show _ ≤ colV y j k + y k j ∧ colV y j k + y k j ≤ _
    rw [show ((k + 1 : Nat) : Int) * M = k * M + M by rw [Int.natCast_add, Int.add_mul]; omega]
    omega
theorem sum_nil (A : Option Addr) (c : Nat) (w : World) :
    Calls Try.prog 16 #[.slice A 0 c] w fun e w' => e = .returned (.tuple #[.agg #[.int .i64 0, .int .i64 0, .int .i64 0, .int .i64 0, .int .i64 0, .int .i64 0, .int .i64 0], .bool false]) ∧ Below w.heap.size w w' := by
  go_enter Try.func16, Try.ntmps16
  go_wp2_with fail
  refine bodyPost_ret (v := .tuple #[.agg #[.int .i64 0, .int .i64 0, .int .i64 0, .int .i64 0, .int .i64 0, .int .i64 0, .int .i64 0], .bool false]) (by simp [results, Try.results16, go_sem]) rfl ⟨rfl, ?_⟩
  exact (Below.refl _ _).alloc (Nat.le_refl _) _
set_option maxRecDepth 100000 in
set_option maxHeartbeats 8000000 in
theorem sum_any (A : Option Addr) (c l n : Nat) (y : Nat → Nat → Int) (w : World) (hr : RdZ w 7 A n y) (hl : (n : Int) - 1 = l) (hn : n ≤ 65536) (hb : ∀ i j, i < n → 2 ≤ j → j < 6 → -1099511627776 ≤ y i j ∧ y i j ≤ 1099511627776) :
    Calls Try.prog 16 #[.slice A n c] w fun e w' => e = .returned (.tuple #[.agg #[.int .i64 (y 0 0), .int .i64 (y l 1), .int .i64 (colV y 2 n), .int .i64 (colV y 3 n), .int .i64 (colV y 4 n), .int .i64 (colV y 5 n), .int .i64 (y l 6)], .bool true]) ∧ Below w.heap.size w w' := by
  have HR := Lib.hid hr
  have HB := Lib.hid hb
  obtain ⟨b, off, rfl, hlt, hc⟩ := rdZ_row hr (by omega) (by omega)
  have hnI : (0 : Int) < n := by omega
  have hz : ((n : Int) == 0) = false := by rw [beq_eq_false_iff_ne]; omega
  have r0 : w.cell? ⟨b, off, none⟩ = some (.int .i64 (y 0 0)) := by have := hc 0 0 (by omega) (by omega); simpa using this
  have r1 : w.cell? ⟨b, off + 1, none⟩ = some (.int .i64 (y 0 1)) := by have := hc 0 1 (by omega) (by omega); simpa using this
  have r2 : w.cell? ⟨b, off + 2, none⟩ = some (.int .i64 (y 0 2)) := by have := hc 0 2 (by omega) (by omega); simpa using this
  have r3 : w.cell? ⟨b, off + 3, none⟩ = some (.int .i64 (y 0 3)) := by have := hc 0 3 (by omega) (by omega); simpa using this
  have r4 : w.cell? ⟨b, off + 4, none⟩ = some (.int .i64 (y 0 4)) := by have := hc 0 4 (by omega) (by omega); simpa using this
  have r5 : w.cell? ⟨b, off + 5, none⟩ = some (.int .i64 (y 0 5)) := by have := hc 0 5 (by omega) (by omega); simpa using this
  have r6 : w.cell? ⟨b, off + 6, none⟩ = some (.int .i64 (y 0 6)) := by have := hc 0 6 (by omega) (by omega); simpa using this
  have s0 : w.cell? ⟨b, off + l * 7, none⟩ = _ := hc l 0 (by omega) (by omega)
  have s1 := hc l 1 (by omega) (by omega)
  have s2 := hc l 2 (by omega) (by omega)
  have s3 := hc l 3 (by omega) (by omega)
  have s4 := hc l 4 (by omega) (by omega)
  have s5 := hc l 5 (by omega) (by omega)
  have s6 := hc l 6 (by omega) (by omega)
  have l0 : (0 : Int) ≤ l := by omega
  have l1 : (l : Int) < n := by omega
  have ln : l < n := by omega
  have n0 : 0 < n := by omega
  have hw : IntKind.i64.wrap ((n : Int) - 1) = l := by rw [hl]; exact IntWalk.i64_in _ (by omega)
  have h0 : b ≠ w.heap.size := by omega
  have h1 : b ≠ w.heap.size + 1 := by omega
  have h2 : b ≠ w.heap.size + 1 + 1 := by omega
  have h3 : b < w.heap.size + 1 := by omega
  have h4 : b < w.heap.size + 1 + 1 := by omega
  have h5 : b < w.heap.size + 1 + 1 + 1 := by omega
  clear hr hb hc hl
  go_enter Try.func16, Try.ntmps16
  go_wp2_with fail
  go_region_held3 (fun W => W.cell? ⟨b, off, none⟩ = some (.int .i64 (y 0 0)) ∧ W.cell? ⟨b, off + 1, none⟩ = some (.int .i64 (y 0 1)) ∧ W.cell? ⟨b, off + 2, none⟩ = some (.int .i64 (y 0 2)) ∧ W.cell? ⟨b, off + 3, none⟩ = some (.int .i64 (y 0 3)) ∧ W.cell? ⟨b, off + 4, none⟩ = some (.int .i64 (y 0 4)) ∧ W.cell? ⟨b, off + 5, none⟩ = some (.int .i64 (y 0 5)) ∧ W.cell? ⟨b, off + 6, none⟩ = some (.int .i64 (y 0 6)) ∧ W.cell? ⟨b, off + l * 7, none⟩ = some (.int .i64 (y l 0)) ∧ W.cell? ⟨b, off + l * 7 + 1, none⟩ = some (.int .i64 (y l 1)) ∧ W.cell? ⟨b, off + l * 7 + 2, none⟩ = some (.int .i64 (y l 2)) ∧ W.cell? ⟨b, off + l * 7 + 3, none⟩ = some (.int .i64 (y l 3)) ∧ W.cell? ⟨b, off + l * 7 + 4, none⟩ = some (.int .i64 (y l 4)) ∧ W.cell? ⟨b, off + l * 7 + 5, none⟩ = some (.int .i64 (y l 5)) ∧ W.cell? ⟨b, off + l * 7 + 6, none⟩ = some (.int .i64 (y l 6)))
    (first | exact ⟨kp3 r0 hlt, kp3 r1 hlt, kp3 r2 hlt, kp3 r3 hlt, kp3 r4 hlt, kp3 r5 hlt, kp3 r6 hlt, kp3 s0 hlt, kp3 s1 hlt, kp3 s2 hlt, kp3 s3 hlt, kp3 s4 hlt, kp3 s5 hlt, kp3 s6 hlt⟩ | go_keep)
    (fail)
  · skip
    have BR0 : Blk (((w.alloc (.cells #[.int .i64 0, .int .i64 0, .int .i64 0, .int .i64 0, .int .i64 0, .int .i64 0, .int .i64 0] 28)).alloc (.cells #[(.int .i64 (y 0 0) : Value), .int .i64 (y 0 1), .int .i64 (y 0 2), .int .i64 (y 0 3), .int .i64 (y 0 4), .int .i64 (y 0 5), .int .i64 (y 0 6)] 28)).alloc (.cells #[(.int .i64 (y l 0) : Value), .int .i64 (y l 1), .int .i64 (y l 2), .int .i64 (y l 3), .int .i64 (y l 4), .int .i64 (y l 5), .int .i64 (y l 6)] 28)).drew w.heap.size 28 #[.int .i64 0, .int .i64 0, .int .i64 0, .int .i64 0, .int .i64 0, .int .i64 0, .int .i64 0] := Blk.alloc (Blk.alloc (Blk.new w _ _) _) _
    have BF0 : Blk (((w.alloc (.cells #[.int .i64 0, .int .i64 0, .int .i64 0, .int .i64 0, .int .i64 0, .int .i64 0, .int .i64 0] 28)).alloc (.cells #[(.int .i64 (y 0 0) : Value), .int .i64 (y 0 1), .int .i64 (y 0 2), .int .i64 (y 0 3), .int .i64 (y 0 4), .int .i64 (y 0 5), .int .i64 (y 0 6)] 28)).alloc (.cells #[(.int .i64 (y l 0) : Value), .int .i64 (y l 1), .int .i64 (y l 2), .int .i64 (y l 3), .int .i64 (y l 4), .int .i64 (y l 5), .int .i64 (y l 6)] 28)).drew (w.heap.size + 1) 28 #[(.int .i64 (y 0 0) : Value), .int .i64 (y 0 1), .int .i64 (y 0 2), .int .i64 (y 0 3), .int .i64 (y 0 4), .int .i64 (y 0 5), .int .i64 (y 0 6)] := by
      have h := (Blk.new (w.alloc (.cells #[.int .i64 0, .int .i64 0, .int .i64 0, .int .i64 0, .int .i64 0, .int .i64 0, .int .i64 0] 28)) #[(.int .i64 (y 0 0) : Value), .int .i64 (y 0 1), .int .i64 (y 0 2), .int .i64 (y 0 3), .int .i64 (y 0 4), .int .i64 (y 0 5), .int .i64 (y 0 6)] 28).alloc (.cells #[(.int .i64 (y l 0) : Value), .int .i64 (y l 1), .int .i64 (y l 2), .int .i64 (y l 3), .int .i64 (y l 4), .int .i64 (y l 5), .int .i64 (y l 6)] 28)
      rw [World.size_alloc] at h
      exact h
    have BL0 : Blk (((w.alloc (.cells #[.int .i64 0, .int .i64 0, .int .i64 0, .int .i64 0, .int .i64 0, .int .i64 0, .int .i64 0] 28)).alloc (.cells #[(.int .i64 (y 0 0) : Value), .int .i64 (y 0 1), .int .i64 (y 0 2), .int .i64 (y 0 3), .int .i64 (y 0 4), .int .i64 (y 0 5), .int .i64 (y 0 6)] 28)).alloc (.cells #[(.int .i64 (y l 0) : Value), .int .i64 (y l 1), .int .i64 (y l 2), .int .i64 (y l 3), .int .i64 (y l 4), .int .i64 (y l 5), .int .i64 (y l 6)] 28)).drew (w.heap.size + 1 + 1) 28 #[(.int .i64 (y l 0) : Value), .int .i64 (y l 1), .int .i64 (y l 2), .int .i64 (y l 3), .int .i64 (y l 4), .int .i64 (y l 5), .int .i64 (y l 6)] := by
      have h := Blk.new ((w.alloc (.cells #[.int .i64 0, .int .i64 0, .int .i64 0, .int .i64 0, .int .i64 0, .int .i64 0, .int .i64 0] 28)).alloc (.cells #[(.int .i64 (y 0 0) : Value), .int .i64 (y 0 1), .int .i64 (y 0 2), .int .i64 (y 0 3), .int .i64 (y 0 4), .int .i64 (y 0 5), .int .i64 (y 0 6)] 28)) #[(.int .i64 (y l 0) : Value), .int .i64 (y l 1), .int .i64 (y l 2), .int .i64 (y l 3), .int .i64 (y l 4), .int .i64 (y l 5), .int .i64 (y l 6)] 28
      rw [World.size_alloc, World.size_alloc] at h
      exact h
    have EV0 : Below w.heap.size w (((w.alloc (.cells #[.int .i64 0, .int .i64 0, .int .i64 0, .int .i64 0, .int .i64 0, .int .i64 0, .int .i64 0] 28)).alloc (.cells #[(.int .i64 (y 0 0) : Value), .int .i64 (y 0 1), .int .i64 (y 0 2), .int .i64 (y 0 3), .int .i64 (y 0 4), .int .i64 (y 0 5), .int .i64 (y 0 6)] 28)).alloc (.cells #[(.int .i64 (y l 0) : Value), .int .i64 (y l 1), .int .i64 (y l 2), .int .i64 (y l 3), .int .i64 (y l 4), .int .i64 (y l 5), .int .i64 (y l 6)] 28)).drew := ((((Below.refl _ _).alloc (Nat.le_refl _) _).alloc (by simp) _).alloc (by simp; omega) _).drew
    obtain ⟨V, hV⟩ : ∃ V, (((w.alloc (.cells #[.int .i64 0, .int .i64 0, .int .i64 0, .int .i64 0, .int .i64 0, .int .i64 0, .int .i64 0] 28)).alloc (.cells #[(.int .i64 (y 0 0) : Value), .int .i64 (y 0 1), .int .i64 (y 0 2), .int .i64 (y 0 3), .int .i64 (y 0 4), .int .i64 (y 0 5), .int .i64 (y 0 6)] 28)).alloc (.cells #[(.int .i64 (y l 0) : Value), .int .i64 (y l 1), .int .i64 (y l 2), .int .i64 (y l 3), .int .i64 (y l 4), .int .i64 (y l 5), .int .i64 (y l 6)] 28)).drew = V := ⟨_, rfl⟩
    rw [hV] at BR0 BF0 BL0 EV0 ⊢
    obtain ⟨gb, hg4⟩ : ∃ g, w.heap.size + 1 + 1 = g := ⟨_, rfl⟩
    obtain ⟨ga, hg5⟩ : ∃ g, w.heap.size + 1 = g := ⟨_, rfl⟩
    rw [hg4] at BL0 ⊢
    rw [hg5] at BF0 ⊢
    have BRh := Lib.hid BR0
    have EVh := Lib.hid EV0
    have p0 := BF0.cell 0
    have q1 := BL0.cell 1
    have q6 := BL0.cell 6
    clear BR0 BF0 BL0 EV0 hV hg4 hg5 r0 s0 r1 s1 r2 s2 r3 s3 r4 s4 r5 s5 r6 s6
    have BS0 := Lib.hid (Blk.new V #[.int .i64 (y 0 0), .int .i64 (y l 1), .int .i64 0, .int .i64 0, .int .i64 0, .int .i64 0, .int .i64 (y l 6)] 28)
    have BR1 := Lib.hid (BRh.out.alloc (.cells #[.int .i64 (y 0 0), .int .i64 (y l 1), .int .i64 0, .int .i64 0, .int .i64 0, .int .i64 0, .int .i64 (y l 6)] 28))
    have EV1 := Lib.hid (EVh.out.alloc EVh.out.size (.cells #[.int .i64 (y 0 0), .int .i64 (y l 1), .int .i64 0, .int .i64 0, .int .i64 0, .int .i64 0, .int .i64 (y l 6)] 28))
    have hwg := Lib.hid BRh.out.lt
    go_wp2_with fail
    go_loopg [34] n (fun gh i wr => ∃ k : Nat, k ≤ n ∧ gh = n - k ∧ i = .int .i64 k ∧ Hid (Blk wr V.heap.size 28 #[.int .i64 (y 0 0), .int .i64 (y l 1), .int .i64 (colV y 2 k), .int .i64 (colV y 3 k), .int .i64 (colV y 4 k), .int .i64 (colV y 5 k), .int .i64 (y l 6)]) ∧ Hid (Blk wr w.heap.size 28 #[.int .i64 0, .int .i64 0, .int .i64 0, .int .i64 0, .int .i64 0, .int .i64 0, .int .i64 0]) ∧ Hid (Below w.heap.size w wr))
    case atStart => exact ⟨0, by omega, rfl, rfl, BS0, BR1, EV1⟩
    case round =>
      clear BS0 BR1 EV1 BRh EVh p0 q1 q6
      obtain ⟨k, hk, rfl, rfl, BS, BR, HE⟩ := hrel
      by_cases h : k < n
      · obtain ⟨b', off', e', hlt', hc⟩ := rdZ_row (HR.out.kept HE.out) (by omega) (by omega)
        cases e'
        have c0 : wr.cell? ⟨b, off + k * 7, none⟩ = _ := hc k 0 h (by omega)
        have c1 := hc k 1 h (by omega)
        have c2 := hc k 2 h (by omega)
        have c3 := hc k 3 h (by omega)
        have c4 := hc k 4 h (by omega)
        have c5 := hc k 5 h (by omega)
        have c6 := hc k 6 h (by omega)
        have k2 := BS.out.cell 2
        have k3 := BS.out.cell 3
        have k4 := BS.out.cell 4
        have k5 := BS.out.cell 5
        have u2 := BS.out.frozen 2
        have u3 := BS.out.frozen 3
        have u4 := BS.out.frozen 4
        have u5 := BS.out.frozen 5
        have gl := BS.out.lt
        have n1 : V.heap.size ≠ wr.heap.size := by omega
        have n2 : wr.heap.size ≠ V.heap.size := by omega
        have m2 := col_bd' (M := 1099511627776) (y := y) (j := 2) k (fun i hi => HB.out i 2 (by omega) (by omega) (by omega))
        have m3 := col_bd' (M := 1099511627776) (y := y) (j := 3) k (fun i hi => HB.out i 3 (by omega) (by omega) (by omega))
        have m4 := col_bd' (M := 1099511627776) (y := y) (j := 4) k (fun i hi => HB.out i 4 (by omega) (by omega) (by omega))
        have m5 := col_bd' (M := 1099511627776) (y := y) (j := 5) k (fun i hi => HB.out i 5 (by omega) (by omega) (by omega))
        have o2 := HB.out k 2 h (by omega) (by omega)
        have o3 := HB.out k 3 h (by omega) (by omega)
        have o4 := HB.out k 4 h (by omega) (by omega)
        have o5 := HB.out k 5 h (by omega) (by omega)
        have BS2 := Lib.hid (show Blk (((((wr.setCell ⟨V.heap.size, 2, none⟩ (.int .i64 (colV y 2 k + y k 2))).setCell ⟨V.heap.size, 3, none⟩ (.int .i64 (colV y 3 k + y k 3))).setCell ⟨V.heap.size, 4, none⟩ (.int .i64 (colV y 4 k + y k 4))).setCell ⟨V.heap.size, 5, none⟩ (.int .i64 (colV y 5 k + y k 5))).alloc (.cells #[.int .i64 (y k 0), .int .i64 (y k 1), .int .i64 (y k 2), .int .i64 (y k 3), .int .i64 (y k 4), .int .i64 (y k 5), .int .i64 (y k 6)] 28)) V.heap.size 28 #[.int .i64 (y 0 0), .int .i64 (y l 1), .int .i64 (colV y 2 (k + 1)), .int .i64 (colV y 3 (k + 1)), .int .i64 (colV y 4 (k + 1)), .int .i64 (colV y 5 (k + 1)), .int .i64 (y l 6)] from
          (((((BS.out.set 2 _).set 3 _).set 4 _).set 5 _).alloc _))
        have BR2 := Lib.hid (show Blk (((((wr.setCell ⟨V.heap.size, 2, none⟩ (.int .i64 (colV y 2 k + y k 2))).setCell ⟨V.heap.size, 3, none⟩ (.int .i64 (colV y 3 k + y k 3))).setCell ⟨V.heap.size, 4, none⟩ (.int .i64 (colV y 4 k + y k 4))).setCell ⟨V.heap.size, 5, none⟩ (.int .i64 (colV y 5 k + y k 5))).alloc (.cells #[.int .i64 (y k 0), .int .i64 (y k 1), .int .i64 (y k 2), .int .i64 (y k 3), .int .i64 (y k 4), .int .i64 (y k 5), .int .i64 (y k 6)] 28)) w.heap.size 28 #[.int .i64 0, .int .i64 0, .int .i64 0, .int .i64 0, .int .i64 0, .int .i64 0, .int .i64 0] from
          (((((BR.out.far (Nat.ne_of_lt hwg.out) _).far (Nat.ne_of_lt hwg.out) _).far (Nat.ne_of_lt hwg.out) _).far (Nat.ne_of_lt hwg.out) _).alloc _))
        have HE2 := Lib.hid (show Below w.heap.size w (((((wr.setCell ⟨V.heap.size, 2, none⟩ (.int .i64 (colV y 2 k + y k 2))).setCell ⟨V.heap.size, 3, none⟩ (.int .i64 (colV y 3 k + y k 3))).setCell ⟨V.heap.size, 4, none⟩ (.int .i64 (colV y 4 k + y k 4))).setCell ⟨V.heap.size, 5, none⟩ (.int .i64 (colV y 5 k + y k 5))).alloc (.cells #[.int .i64 (y k 0), .int .i64 (y k 1), .int .i64 (y k 2), .int .i64 (y k 3), .int .i64 (y k 4), .int .i64 (y k 5), .int .i64 (y k 6)] 28)) from
          (((((HE.out.setCell (Nat.le_of_lt hwg.out) _).setCell (Nat.le_of_lt hwg.out) _).setCell (Nat.le_of_lt hwg.out) _).setCell (Nat.le_of_lt hwg.out) _).alloc (by simpa [World.setCell] using HE.out.size) _))
        clear hc BS BR HE
        go_wp2_with fail
        go_roundg (n - (k + 1))
        case measure => omega
        case rel => exact ⟨k + 1, by omega, rfl, by go_num, BS2, BR2, HE2⟩
      · obtain rfl : k = n := by omega
        have k0 := BS.out.cell 0
        have k1 := BS.out.cell 1
        have k2 := BS.out.cell 2
        have k3 := BS.out.cell 3
        have k4 := BS.out.cell 4
        have k5 := BS.out.cell 5
        have k6 := BS.out.cell 6
        have t0 := BR.out.cell 0
        have v0 := BR.out.frozen 0
        have t1 := BR.out.cell 1
        have v1 := BR.out.frozen 1
        have t2 := BR.out.cell 2
        have v2 := BR.out.frozen 2
        have t3 := BR.out.cell 3
        have v3 := BR.out.frozen 3
        have t4 := BR.out.cell 4
        have v4 := BR.out.frozen 4
        have t5 := BR.out.cell 5
        have v5 := BR.out.frozen 5
        have t6 := BR.out.cell 6
        have v6 := BR.out.frozen 6
        have n1 := Nat.ne_of_lt hwg.out
        go_wp2_with fail
        refine bodyPost_ret (v := .tuple #[.agg #[.int .i64 (y 0 0), .int .i64 (y l 1), .int .i64 (colV y 2 k), .int .i64 (colV y 3 k), .int .i64 (colV y 4 k), .int .i64 (colV y 5 k), .int .i64 (y l 6)], .bool true]) (by simp [results, Try.results16, go_sem, *]) rfl ⟨rfl, ?_⟩
        exact (((((((HE.out.setCell (Nat.le_refl _) _).setCell (Nat.le_refl _) _).setCell (Nat.le_refl _) _).setCell (Nat.le_refl _) _).setCell (Nat.le_refl _) _).setCell (Nat.le_refl _) _).setCell (Nat.le_refl _) _)
  · skip
    have BR0 : Blk (((w.alloc (.cells #[.int .i64 0, .int .i64 0, .int .i64 0, .int .i64 0, .int .i64 0, .int .i64 0, .int .i64 0] 28)).alloc (.cells #[(.int .i64 (y l 0) : Value), .int .i64 (y l 1), .int .i64 (y l 2), .int .i64 (y l 3), .int .i64 (y l 4), .int .i64 (y l 5), .int .i64 (y l 6)] 28)).alloc (.cells #[(.int .i64 (y 0 0) : Value), .int .i64 (y 0 1), .int .i64 (y 0 2), .int .i64 (y 0 3), .int .i64 (y 0 4), .int .i64 (y 0 5), .int .i64 (y 0 6)] 28)).drew w.heap.size 28 #[.int .i64 0, .int .i64 0, .int .i64 0, .int .i64 0, .int .i64 0, .int .i64 0, .int .i64 0] := Blk.alloc (Blk.alloc (Blk.new w _ _) _) _
    have BF0 : Blk (((w.alloc (.cells #[.int .i64 0, .int .i64 0, .int .i64 0, .int .i64 0, .int .i64 0, .int .i64 0, .int .i64 0] 28)).alloc (.cells #[(.int .i64 (y l 0) : Value), .int .i64 (y l 1), .int .i64 (y l 2), .int .i64 (y l 3), .int .i64 (y l 4), .int .i64 (y l 5), .int .i64 (y l 6)] 28)).alloc (.cells #[(.int .i64 (y 0 0) : Value), .int .i64 (y 0 1), .int .i64 (y 0 2), .int .i64 (y 0 3), .int .i64 (y 0 4), .int .i64 (y 0 5), .int .i64 (y 0 6)] 28)).drew (w.heap.size + 1) 28 #[(.int .i64 (y l 0) : Value), .int .i64 (y l 1), .int .i64 (y l 2), .int .i64 (y l 3), .int .i64 (y l 4), .int .i64 (y l 5), .int .i64 (y l 6)] := by
      have h := (Blk.new (w.alloc (.cells #[.int .i64 0, .int .i64 0, .int .i64 0, .int .i64 0, .int .i64 0, .int .i64 0, .int .i64 0] 28)) #[(.int .i64 (y l 0) : Value), .int .i64 (y l 1), .int .i64 (y l 2), .int .i64 (y l 3), .int .i64 (y l 4), .int .i64 (y l 5), .int .i64 (y l 6)] 28).alloc (.cells #[(.int .i64 (y 0 0) : Value), .int .i64 (y 0 1), .int .i64 (y 0 2), .int .i64 (y 0 3), .int .i64 (y 0 4), .int .i64 (y 0 5), .int .i64 (y 0 6)] 28)
      rw [World.size_alloc] at h
      exact h
    have BL0 : Blk (((w.alloc (.cells #[.int .i64 0, .int .i64 0, .int .i64 0, .int .i64 0, .int .i64 0, .int .i64 0, .int .i64 0] 28)).alloc (.cells #[(.int .i64 (y l 0) : Value), .int .i64 (y l 1), .int .i64 (y l 2), .int .i64 (y l 3), .int .i64 (y l 4), .int .i64 (y l 5), .int .i64 (y l 6)] 28)).alloc (.cells #[(.int .i64 (y 0 0) : Value), .int .i64 (y 0 1), .int .i64 (y 0 2), .int .i64 (y 0 3), .int .i64 (y 0 4), .int .i64 (y 0 5), .int .i64 (y 0 6)] 28)).drew (w.heap.size + 1 + 1) 28 #[(.int .i64 (y 0 0) : Value), .int .i64 (y 0 1), .int .i64 (y 0 2), .int .i64 (y 0 3), .int .i64 (y 0 4), .int .i64 (y 0 5), .int .i64 (y 0 6)] := by
      have h := Blk.new ((w.alloc (.cells #[.int .i64 0, .int .i64 0, .int .i64 0, .int .i64 0, .int .i64 0, .int .i64 0, .int .i64 0] 28)).alloc (.cells #[(.int .i64 (y l 0) : Value), .int .i64 (y l 1), .int .i64 (y l 2), .int .i64 (y l 3), .int .i64 (y l 4), .int .i64 (y l 5), .int .i64 (y l 6)] 28)) #[(.int .i64 (y 0 0) : Value), .int .i64 (y 0 1), .int .i64 (y 0 2), .int .i64 (y 0 3), .int .i64 (y 0 4), .int .i64 (y 0 5), .int .i64 (y 0 6)] 28
      rw [World.size_alloc, World.size_alloc] at h
      exact h
    have EV0 : Below w.heap.size w (((w.alloc (.cells #[.int .i64 0, .int .i64 0, .int .i64 0, .int .i64 0, .int .i64 0, .int .i64 0, .int .i64 0] 28)).alloc (.cells #[(.int .i64 (y l 0) : Value), .int .i64 (y l 1), .int .i64 (y l 2), .int .i64 (y l 3), .int .i64 (y l 4), .int .i64 (y l 5), .int .i64 (y l 6)] 28)).alloc (.cells #[(.int .i64 (y 0 0) : Value), .int .i64 (y 0 1), .int .i64 (y 0 2), .int .i64 (y 0 3), .int .i64 (y 0 4), .int .i64 (y 0 5), .int .i64 (y 0 6)] 28)).drew := ((((Below.refl _ _).alloc (Nat.le_refl _) _).alloc (by simp) _).alloc (by simp; omega) _).drew
    obtain ⟨V, hV⟩ : ∃ V, (((w.alloc (.cells #[.int .i64 0, .int .i64 0, .int .i64 0, .int .i64 0, .int .i64 0, .int .i64 0, .int .i64 0] 28)).alloc (.cells #[(.int .i64 (y l 0) : Value), .int .i64 (y l 1), .int .i64 (y l 2), .int .i64 (y l 3), .int .i64 (y l 4), .int .i64 (y l 5), .int .i64 (y l 6)] 28)).alloc (.cells #[(.int .i64 (y 0 0) : Value), .int .i64 (y 0 1), .int .i64 (y 0 2), .int .i64 (y 0 3), .int .i64 (y 0 4), .int .i64 (y 0 5), .int .i64 (y 0 6)] 28)).drew = V := ⟨_, rfl⟩
    rw [hV] at BR0 BF0 BL0 EV0 ⊢
    obtain ⟨ga, hg4⟩ : ∃ g, w.heap.size + 1 + 1 = g := ⟨_, rfl⟩
    obtain ⟨gb, hg5⟩ : ∃ g, w.heap.size + 1 = g := ⟨_, rfl⟩
    rw [hg4] at BL0 ⊢
    rw [hg5] at BF0 ⊢
    have BRh := Lib.hid BR0
    have EVh := Lib.hid EV0
    have p0 := BL0.cell 0
    have q1 := BF0.cell 1
    have q6 := BF0.cell 6
    clear BR0 BF0 BL0 EV0 hV hg4 hg5 r0 s0 r1 s1 r2 s2 r3 s3 r4 s4 r5 s5 r6 s6
    have BS0 := Lib.hid (Blk.new V #[.int .i64 (y 0 0), .int .i64 (y l 1), .int .i64 0, .int .i64 0, .int .i64 0, .int .i64 0, .int .i64 (y l 6)] 28)
    have BR1 := Lib.hid (BRh.out.alloc (.cells #[.int .i64 (y 0 0), .int .i64 (y l 1), .int .i64 0, .int .i64 0, .int .i64 0, .int .i64 0, .int .i64 (y l 6)] 28))
    have EV1 := Lib.hid (EVh.out.alloc EVh.out.size (.cells #[.int .i64 (y 0 0), .int .i64 (y l 1), .int .i64 0, .int .i64 0, .int .i64 0, .int .i64 0, .int .i64 (y l 6)] 28))
    have hwg := Lib.hid BRh.out.lt
    go_wp2_with fail
    go_loopg [34] n (fun gh i wr => ∃ k : Nat, k ≤ n ∧ gh = n - k ∧ i = .int .i64 k ∧ Hid (Blk wr V.heap.size 28 #[.int .i64 (y 0 0), .int .i64 (y l 1), .int .i64 (colV y 2 k), .int .i64 (colV y 3 k), .int .i64 (colV y 4 k), .int .i64 (colV y 5 k), .int .i64 (y l 6)]) ∧ Hid (Blk wr w.heap.size 28 #[.int .i64 0, .int .i64 0, .int .i64 0, .int .i64 0, .int .i64 0, .int .i64 0, .int .i64 0]) ∧ Hid (Below w.heap.size w wr))
    case atStart => exact ⟨0, by omega, rfl, rfl, BS0, BR1, EV1⟩
    case round =>
      clear BS0 BR1 EV1 BRh EVh p0 q1 q6
      obtain ⟨k, hk, rfl, rfl, BS, BR, HE⟩ := hrel
      by_cases h : k < n
      · obtain ⟨b', off', e', hlt', hc⟩ := rdZ_row (HR.out.kept HE.out) (by omega) (by omega)
        cases e'
        have c0 : wr.cell? ⟨b, off + k * 7, none⟩ = _ := hc k 0 h (by omega)
        have c1 := hc k 1 h (by omega)
        have c2 := hc k 2 h (by omega)
        have c3 := hc k 3 h (by omega)
        have c4 := hc k 4 h (by omega)
        have c5 := hc k 5 h (by omega)
        have c6 := hc k 6 h (by omega)
        have k2 := BS.out.cell 2
        have k3 := BS.out.cell 3
        have k4 := BS.out.cell 4
        have k5 := BS.out.cell 5
        have u2 := BS.out.frozen 2
        have u3 := BS.out.frozen 3
        have u4 := BS.out.frozen 4
        have u5 := BS.out.frozen 5
        have gl := BS.out.lt
        have n1 : V.heap.size ≠ wr.heap.size := by omega
        have n2 : wr.heap.size ≠ V.heap.size := by omega
        have m2 := col_bd' (M := 1099511627776) (y := y) (j := 2) k (fun i hi => HB.out i 2 (by omega) (by omega) (by omega))
        have m3 := col_bd' (M := 1099511627776) (y := y) (j := 3) k (fun i hi => HB.out i 3 (by omega) (by omega) (by omega))
        have m4 := col_bd' (M := 1099511627776) (y := y) (j := 4) k (fun i hi => HB.out i 4 (by omega) (by omega) (by omega))
        have m5 := col_bd' (M := 1099511627776) (y := y) (j := 5) k (fun i hi => HB.out i 5 (by omega) (by omega) (by omega))
        have o2 := HB.out k 2 h (by omega) (by omega)
        have o3 := HB.out k 3 h (by omega) (by omega)
        have o4 := HB.out k 4 h (by omega) (by omega)
        have o5 := HB.out k 5 h (by omega) (by omega)
        have BS2 := Lib.hid (show Blk (((((wr.setCell ⟨V.heap.size, 2, none⟩ (.int .i64 (colV y 2 k + y k 2))).setCell ⟨V.heap.size, 3, none⟩ (.int .i64 (colV y 3 k + y k 3))).setCell ⟨V.heap.size, 4, none⟩ (.int .i64 (colV y 4 k + y k 4))).setCell ⟨V.heap.size, 5, none⟩ (.int .i64 (colV y 5 k + y k 5))).alloc (.cells #[.int .i64 (y k 0), .int .i64 (y k 1), .int .i64 (y k 2), .int .i64 (y k 3), .int .i64 (y k 4), .int .i64 (y k 5), .int .i64 (y k 6)] 28)) V.heap.size 28 #[.int .i64 (y 0 0), .int .i64 (y l 1), .int .i64 (colV y 2 (k + 1)), .int .i64 (colV y 3 (k + 1)), .int .i64 (colV y 4 (k + 1)), .int .i64 (colV y 5 (k + 1)), .int .i64 (y l 6)] from
          (((((BS.out.set 2 _).set 3 _).set 4 _).set 5 _).alloc _))
        have BR2 := Lib.hid (show Blk (((((wr.setCell ⟨V.heap.size, 2, none⟩ (.int .i64 (colV y 2 k + y k 2))).setCell ⟨V.heap.size, 3, none⟩ (.int .i64 (colV y 3 k + y k 3))).setCell ⟨V.heap.size, 4, none⟩ (.int .i64 (colV y 4 k + y k 4))).setCell ⟨V.heap.size, 5, none⟩ (.int .i64 (colV y 5 k + y k 5))).alloc (.cells #[.int .i64 (y k 0), .int .i64 (y k 1), .int .i64 (y k 2), .int .i64 (y k 3), .int .i64 (y k 4), .int .i64 (y k 5), .int .i64 (y k 6)] 28)) w.heap.size 28 #[.int .i64 0, .int .i64 0, .int .i64 0, .int .i64 0, .int .i64 0, .int .i64 0, .int .i64 0] from
          (((((BR.out.far (Nat.ne_of_lt hwg.out) _).far (Nat.ne_of_lt hwg.out) _).far (Nat.ne_of_lt hwg.out) _).far (Nat.ne_of_lt hwg.out) _).alloc _))
        have HE2 := Lib.hid (show Below w.heap.size w (((((wr.setCell ⟨V.heap.size, 2, none⟩ (.int .i64 (colV y 2 k + y k 2))).setCell ⟨V.heap.size, 3, none⟩ (.int .i64 (colV y 3 k + y k 3))).setCell ⟨V.heap.size, 4, none⟩ (.int .i64 (colV y 4 k + y k 4))).setCell ⟨V.heap.size, 5, none⟩ (.int .i64 (colV y 5 k + y k 5))).alloc (.cells #[.int .i64 (y k 0), .int .i64 (y k 1), .int .i64 (y k 2), .int .i64 (y k 3), .int .i64 (y k 4), .int .i64 (y k 5), .int .i64 (y k 6)] 28)) from
          (((((HE.out.setCell (Nat.le_of_lt hwg.out) _).setCell (Nat.le_of_lt hwg.out) _).setCell (Nat.le_of_lt hwg.out) _).setCell (Nat.le_of_lt hwg.out) _).alloc (by simpa [World.setCell] using HE.out.size) _))
        clear hc BS BR HE
        go_wp2_with fail
        go_roundg (n - (k + 1))
        case measure => omega
        case rel => exact ⟨k + 1, by omega, rfl, by go_num, BS2, BR2, HE2⟩
      · obtain rfl : k = n := by omega
        have k0 := BS.out.cell 0
        have k1 := BS.out.cell 1
        have k2 := BS.out.cell 2
        have k3 := BS.out.cell 3
        have k4 := BS.out.cell 4
        have k5 := BS.out.cell 5
        have k6 := BS.out.cell 6
        have t0 := BR.out.cell 0
        have v0 := BR.out.frozen 0
        have t1 := BR.out.cell 1
        have v1 := BR.out.frozen 1
        have t2 := BR.out.cell 2
        have v2 := BR.out.frozen 2
        have t3 := BR.out.cell 3
        have v3 := BR.out.frozen 3
        have t4 := BR.out.cell 4
        have v4 := BR.out.frozen 4
        have t5 := BR.out.cell 5
        have v5 := BR.out.frozen 5
        have t6 := BR.out.cell 6
        have v6 := BR.out.frozen 6
        have n1 := Nat.ne_of_lt hwg.out
        go_wp2_with fail
        refine bodyPost_ret (v := .tuple #[.agg #[.int .i64 (y 0 0), .int .i64 (y l 1), .int .i64 (colV y 2 k), .int .i64 (colV y 3 k), .int .i64 (colV y 4 k), .int .i64 (colV y 5 k), .int .i64 (y l 6)], .bool true]) (by simp [results, Try.results16, go_sem, *]) rfl ⟨rfl, ?_⟩
        exact (((((((HE.out.setCell (Nat.le_refl _) _).setCell (Nat.le_refl _) _).setCell (Nat.le_refl _) _).setCell (Nat.le_refl _) _).setCell (Nat.le_refl _) _).setCell (Nat.le_refl _) _).setCell (Nat.le_refl _) _)
end Go.Proofs.Ytffcmfpadaebdab
