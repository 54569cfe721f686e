/- Contracts of the document's Bounds, In and Check of layer 20. -/
import Derived.Test.YtmnildjcnpfddaaDoorRows
import Derived.Test.YtmnildjcnpfddaaDoorRowKit
import Derived.Test.YtmnildjcnpfddaaDoorRowS
import Derived.Test.YtmnildjcnpfddaaDoorRowZ
import Derived.Test.YtmnildjcnpfddaaDoorBlocks
import Derived.WalkKit
import Derived.IntWalk
import Derived.Lib.Hide
import Derived.Lib.SmallJoins
import Derived.WalkSpells
import Derived.WalkLawsBesides
import Derived.Deep.QuietTactic
import Derived.Deep.RegionHeld3
import Derived.BigQuiet
import Derived.Below
import Derived.Lib.Strings
namespace Go.Proofs.YtmnildjcnpfddaaDoor
open Go.RowKit
set_option linter.unusedSimpArgs false
set_option linter.unusedVariables false
theorem keepv {w w1 : World} (hb : Below w.heap.size w w1) {b o : Nat} {v : Value} (h : w.cell? ⟨b, o, none⟩ = some v) : w1.cell? ⟨b, o, none⟩ = some v :=
  (hb.cell (p := ⟨b, o, none⟩) (lt_of_cell h)).trans h
theorem vretB {a b : Bool} (h : a = b) : Ending.returned (.bool a) = .returned (.bool b) := by rw [h]
theorem vretI {k : IntKind} {a b : Int} (h : a = b) : Ending.returned (.int k a) = .returned (.int k b) := by rw [h]
/-- the names of numbers, in the document's order; their bounds -/
def nm : Nat → ByteArray
  | 0 => ⟨#[102, 108, 111, 111, 114, 115]⟩
  | 1 => ⟨#[103, 97, 112]⟩
  | 2 => ⟨#[99, 97, 114, 115]⟩
  | 3 => ⟨#[99, 97, 112, 97, 99, 105, 116, 121]⟩
  | 4 => ⟨#[111, 112, 101, 110]⟩
  | 5 => ⟨#[100, 119, 101, 108, 108]⟩
  | 6 => ⟨#[99, 108, 111, 115, 101]⟩
  | 7 => ⟨#[116, 114, 97, 110, 115, 102, 101, 114]⟩
  | 8 => ⟨#[116, 105, 99, 107, 115]⟩
  | 9 => ⟨#[104, 111, 114, 105, 122, 111, 110]⟩
  | 10 => ⟨#[114, 97, 116, 101]⟩
  | 11 => ⟨#[98, 105, 110, 115]⟩
  | 12 => ⟨#[119, 105, 100, 116, 104]⟩
  | _ => ⟨#[]⟩
def loB : Nat → Int
  | 0 => 2
  | 1 => 1
  | 2 => 1
  | 3 => 1
  | 4 => 1
  | 5 => 1
  | 6 => 1
  | 7 => 1
  | 8 => 1
  | 9 => 1
  | 10 => 0
  | 11 => 1
  | 12 => 1
  | _ => 0
def hiB : Nat → Int
  | 0 => 128
  | 1 => 16
  | 2 => 16
  | 3 => 64
  | 4 => 64
  | 5 => 64
  | 6 => 64
  | 7 => 64
  | 8 => 1048576
  | 9 => 1048576
  | 10 => 4000
  | 11 => 64
  | 12 => 4096
  | _ => 0
theorem nm_ne : ∀ m, m < 13 → ∀ j, j < m → nm j ≠ nm m := by decide
def BT (w : World) (g : Nat) : Prop := (∀ j, j < 13 → w.cell? ⟨g, j, none⟩ = some (.string (nm j))) ∧ (∀ j, j < 13 → w.cell? ⟨g + 1, j, none⟩ = some (.int .i64 (loB j))) ∧ (∀ j, j < 13 → w.cell? ⟨g + 2, j, none⟩ = some (.int .i64 (hiB j)))
theorem bt_start (w : World) (T U V : TypeId) : BT (((w.alloc (.cells #[.string ⟨#[102, 108, 111, 111, 114, 115]⟩, .string ⟨#[103, 97, 112]⟩, .string ⟨#[99, 97, 114, 115]⟩, .string ⟨#[99, 97, 112, 97, 99, 105, 116, 121]⟩, .string ⟨#[111, 112, 101, 110]⟩, .string ⟨#[100, 119, 101, 108, 108]⟩, .string ⟨#[99, 108, 111, 115, 101]⟩, .string ⟨#[116, 114, 97, 110, 115, 102, 101, 114]⟩, .string ⟨#[116, 105, 99, 107, 115]⟩, .string ⟨#[104, 111, 114, 105, 122, 111, 110]⟩, .string ⟨#[114, 97, 116, 101]⟩, .string ⟨#[98, 105, 110, 115]⟩, .string ⟨#[119, 105, 100, 116, 104]⟩] T)).alloc (.cells #[.int .i64 2, .int .i64 1, .int .i64 1, .int .i64 1, .int .i64 1, .int .i64 1, .int .i64 1, .int .i64 1, .int .i64 1, .int .i64 1, .int .i64 0, .int .i64 1, .int .i64 1] U)).alloc (.cells #[.int .i64 128, .int .i64 16, .int .i64 16, .int .i64 64, .int .i64 64, .int .i64 64, .int .i64 64, .int .i64 64, .int .i64 1048576, .int .i64 1048576, .int .i64 4000, .int .i64 64, .int .i64 4096] V)) w.heap.size := by
  refine ⟨fun j hj => ?_, fun j hj => ?_, fun j hj => ?_⟩
  · rw [(((Blk.new w _ T).alloc _).alloc _).cell j]
    match j, hj with
    | 0, _ => rfl
    | 1, _ => rfl
    | 2, _ => rfl
    | 3, _ => rfl
    | 4, _ => rfl
    | 5, _ => rfl
    | 6, _ => rfl
    | 7, _ => rfl
    | 8, _ => rfl
    | 9, _ => rfl
    | 10, _ => rfl
    | 11, _ => rfl
    | 12, _ => rfl
  · have h := (Blk.new (w.alloc (.cells #[.string ⟨#[102, 108, 111, 111, 114, 115]⟩, .string ⟨#[103, 97, 112]⟩, .string ⟨#[99, 97, 114, 115]⟩, .string ⟨#[99, 97, 112, 97, 99, 105, 116, 121]⟩, .string ⟨#[111, 112, 101, 110]⟩, .string ⟨#[100, 119, 101, 108, 108]⟩, .string ⟨#[99, 108, 111, 115, 101]⟩, .string ⟨#[116, 114, 97, 110, 115, 102, 101, 114]⟩, .string ⟨#[116, 105, 99, 107, 115]⟩, .string ⟨#[104, 111, 114, 105, 122, 111, 110]⟩, .string ⟨#[114, 97, 116, 101]⟩, .string ⟨#[98, 105, 110, 115]⟩, .string ⟨#[119, 105, 100, 116, 104]⟩] T)) #[.int .i64 2, .int .i64 1, .int .i64 1, .int .i64 1, .int .i64 1, .int .i64 1, .int .i64 1, .int .i64 1, .int .i64 1, .int .i64 1, .int .i64 0, .int .i64 1, .int .i64 1] U).alloc (.cells #[.int .i64 128, .int .i64 16, .int .i64 16, .int .i64 64, .int .i64 64, .int .i64 64, .int .i64 64, .int .i64 64, .int .i64 1048576, .int .i64 1048576, .int .i64 4000, .int .i64 64, .int .i64 4096] V)
    rw [World.size_alloc] at h
    rw [h.cell j]
    match j, hj with
    | 0, _ => rfl
    | 1, _ => rfl
    | 2, _ => rfl
    | 3, _ => rfl
    | 4, _ => rfl
    | 5, _ => rfl
    | 6, _ => rfl
    | 7, _ => rfl
    | 8, _ => rfl
    | 9, _ => rfl
    | 10, _ => rfl
    | 11, _ => rfl
    | 12, _ => rfl
  · have h := Blk.new ((w.alloc (.cells #[.string ⟨#[102, 108, 111, 111, 114, 115]⟩, .string ⟨#[103, 97, 112]⟩, .string ⟨#[99, 97, 114, 115]⟩, .string ⟨#[99, 97, 112, 97, 99, 105, 116, 121]⟩, .string ⟨#[111, 112, 101, 110]⟩, .string ⟨#[100, 119, 101, 108, 108]⟩, .string ⟨#[99, 108, 111, 115, 101]⟩, .string ⟨#[116, 114, 97, 110, 115, 102, 101, 114]⟩, .string ⟨#[116, 105, 99, 107, 115]⟩, .string ⟨#[104, 111, 114, 105, 122, 111, 110]⟩, .string ⟨#[114, 97, 116, 101]⟩, .string ⟨#[98, 105, 110, 115]⟩, .string ⟨#[119, 105, 100, 116, 104]⟩] T)).alloc (.cells #[.int .i64 2, .int .i64 1, .int .i64 1, .int .i64 1, .int .i64 1, .int .i64 1, .int .i64 1, .int .i64 1, .int .i64 1, .int .i64 1, .int .i64 0, .int .i64 1, .int .i64 1] U)) #[.int .i64 128, .int .i64 16, .int .i64 16, .int .i64 64, .int .i64 64, .int .i64 64, .int .i64 64, .int .i64 64, .int .i64 1048576, .int .i64 1048576, .int .i64 4000, .int .i64 64, .int .i64 4096] V
    rw [World.size_alloc, World.size_alloc] at h
    rw [h.cell j]
    match j, hj with
    | 0, _ => rfl
    | 1, _ => rfl
    | 2, _ => rfl
    | 3, _ => rfl
    | 4, _ => rfl
    | 5, _ => rfl
    | 6, _ => rfl
    | 7, _ => rfl
    | 8, _ => rfl
    | 9, _ => rfl
    | 10, _ => rfl
    | 11, _ => rfl
    | 12, _ => rfl
set_option maxHeartbeats 1000000 in
theorem rbounds_at (s : ByteArray) (m : Nat) (w : World) (hm : m ≤ 13) (h1 : ∀ j, j < m → nm j ≠ s) (h2 : m < 13 → nm m = s) :
    Calls Tryd.prog 30 #[.string s] w fun e w' => e = .returned (.tuple #[.int .i64 (loB m), .int .i64 (hiB m), .bool (decide (m < 13))]) ∧ Below w.heap.size w w' := by
  have H1 := Lib.hid h1
  have H2 := Lib.hid h2
  clear h1 h2
  have ST := Lib.hid (bt_start w)
  go_enter Tryd.func30, Tryd.ntmps30
  go_wp2_with fail
  go_loopw [8] (fun i wr => ∃ k : Nat, k ≤ m ∧ i = .int .i64 k ∧ Hid (BT wr w.heap.size) ∧ Below w.heap.size w wr) (fun i _ => 13 - (intOf i).toNat)
  case atStart => exact ⟨0, by omega, rfl, ST.out _ _ _, ((Joins.below_alloc3 w _ _ _))⟩
  case round =>
    obtain ⟨k, hk, rfl, HB, hb⟩ := hrel
    by_cases h : k < m
    · have c := HB.out.1 k (by omega)
      have q := H1.out k h
      have q2 : ((nm k).toList == s.toList) = false := by rw [beq_eq_false_iff_ne, Lib.toList_data, Lib.toList_data]; exact fun e => q (Go.WideShapes.bytes_inj e)
      obtain ⟨x, hx⟩ : ∃ x, nm k = x := ⟨_, rfl⟩
      rw [hx] at c q2
      clear q hx
      have k13 : k < 13 := by omega
      go_wp2_with fail
      go_roundw
      case rel => exact ⟨k + 1, by omega, by go_num, HB, hb⟩
      case measure => simp [intOf]; omega
    · obtain rfl : k = m := by omega
      by_cases h13 : k < 13
      · have c := HB.out.1 k h13
        have d := HB.out.2.1 k h13
        have e := HB.out.2.2 k h13
        rw [H2.out h13] at c
        have HD := Lib.hid (decide_eq_true h13)
        obtain ⟨lv, hl⟩ : ∃ x, loB k = x := ⟨_, rfl⟩
        obtain ⟨hv, hh⟩ : ∃ x, hiB k = x := ⟨_, rfl⟩
        rw [hl] at d
        rw [hh] at e
        have HL := Lib.hid hl
        have HH := Lib.hid hh
        have k0 : (0 : Int) ≤ (k : Int) := Int.natCast_nonneg _
        have k1 : (k : Int) < 13 := by omega
        clear hl hh
        go_wp2_with fail
        go_quiet (fail)
        go_wp2_with fail
        go_ret3
        exact ⟨by rw [HL.out, HH.out, HD.out]; rfl, below_drewN hb _⟩
      · obtain rfl : k = 13 := by omega
        go_wp2_with fail
        go_ret3
        exact ⟨rfl, hb⟩
def inV (j : Nat) (x : Int) : Bool := decide (loB j ≤ x ∧ x ≤ hiB j)
set_option maxHeartbeats 1000000 in
theorem rin_at (j : Nat) (x : Int) (w : World) (hj : j < 13) :
    Calls Tryd.prog 23 #[.string (nm j), .int .i64 x] w fun e w' => e = .returned (.bool (inV j x)) ∧ Below w.heap.size w w' := by
  have C := fun w => rbounds_at (nm j) j w (by omega) (nm_ne j hj) (fun _ => rfl)
  rw [decide_eq_true hj] at C
  obtain ⟨s, hs⟩ : ∃ s, nm j = s := ⟨_, rfl⟩
  obtain ⟨a, ha⟩ : ∃ a, loB j = a := ⟨_, rfl⟩
  obtain ⟨b, hb⟩ : ∃ b, hiB j = b := ⟨_, rfl⟩
  rw [hs, ha, hb] at C
  have E : inV j x = decide (a ≤ x ∧ x ≤ b) := by unfold inV; rw [ha, hb]
  rw [hs, E]
  have HC := Lib.hid C
  clear C hs ha hb E
  by_cases h1 : a ≤ x
  · by_cases h2 : x ≤ b
    · have D := Lib.hid (decide_eq_true (And.intro h1 h2))
      go_enter Tryd.func23, Tryd.ntmps23
      go_wp2_with (go_at_call 30; refine (HC.out _).mono ?_; rintro e w1 ⟨rfl, hb1⟩)
      go_ret
      exact ⟨vretB (by rw [D.out]), hb1⟩
    · have D := Lib.hid (decide_eq_false (show ¬ (a ≤ x ∧ x ≤ b) by omega))
      have h3 : decide (x ≤ b) = false := decide_eq_false h2
      go_enter Tryd.func23, Tryd.ntmps23
      go_wp2_with (go_at_call 30; refine (HC.out _).mono ?_; rintro e w1 ⟨rfl, hb1⟩)
      go_ret
      exact ⟨vretB (by rw [D.out]), hb1⟩
  · have D := Lib.hid (decide_eq_false (show ¬ (a ≤ x ∧ x ≤ b) by omega))
    go_enter Tryd.func23, Tryd.ntmps23
    go_wp2_with (go_at_call 30; refine (HC.out _).mono ?_; rintro e w1 ⟨rfl, hb1⟩)
    go_ret
    exact ⟨vretB (by first | rw [D.out] | (rw [show decide (a ≤ x) = false from decide_eq_false (by omega)]; rfl)), hb1⟩
end Go.Proofs.YtmnildjcnpfddaaDoor
