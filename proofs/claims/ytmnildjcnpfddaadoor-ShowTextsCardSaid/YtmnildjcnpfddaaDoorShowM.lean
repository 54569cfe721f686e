/- Scenarios as texts: what they are. -/
import Derived.Test.YtmnildjcnpfddaaDoorRows
import Derived.Test.YtmnildjcnpfddaaDoorRowKit
import Derived.Test.YtmnildjcnpfddaaDoorShelf
import Derived.Test.YtmnildjcnpfddaaDoorRowS
import Derived.Test.YtmnildjcnpfddaaDoorRowZ
import Derived.Test.YtmnildjcnpfddaaDoorRowL
import Derived.Test.YtmnildjcnpfddaaDoorRowM
import Derived.Test.YtmnildjcnpfddaaDoorBlocks
import Derived.Test.YtmnildjcnpfddaaDoorBL
import Derived.Test.YtmnildjcnpfddaaDoorTab
import Derived.Test.YtmnildjcnpfddaaDoorDigB
import Derived.Lib.ItoaLen
import Derived.Lib.Join
import Derived.Test.YtmnildjcnpfddaaDoorAtKit
import Derived.Test.YtmnildjcnpfddaaDoorShowA
import Derived.Test.YtmnildjcnpfddaaDoorShowB
import Derived.Test.YtmnildjcnpfddaaDoorVetA
import Derived.Test.YtmnildjcnpfddaaDoorVetB
import Derived.Deep.RegionHeld3
import Derived.WalkKit
import Derived.IntWalk
import Derived.Lib.Hide
import Derived.WalkSpells
import Derived.WalkLawsBesides
import Derived.Laws.IdiomStrings
import Derived.Laws.OwnMore
import Derived.Laws.MakeOwn
import Derived.OwnWalk
import Derived.Deep.QuietTactic
import Derived.BigQuiet
import Derived.BigRegion
import Derived.Deep.LoopGhost
namespace Go.Proofs.YtmnildjcnpfddaaDoor
open Go.RowKit Go.Sort
set_option linter.unusedSimpArgs false
set_option linter.unusedVariables false
/-- the text ahead of the traffic -/
def hdT (s0 s1 s2 s3 s4 s5 s6 s7 : Int) : List UInt8 := lnS [98, 117, 105, 108, 100, 105, 110, 103] (fun i : Nat => [s0, s1].getD i 0) 2 ++ lnS [99, 97, 114, 115] (fun i : Nat => [s2, s3].getD i 0) 2 ++ lnS [100, 111, 111, 114, 115] (fun i : Nat => [s4, s5, s6, s7].getD i 0) 4
def sgT (z : Nat → Nat → Int) : Nat → List UInt8
  | 0 => []
  | k + 1 => sgT z k ++ lnS ([116, 114, 97, 102, 102, 105, 99, 32] ++ tmW (z k 0)) (fun i : Nat => [z k 1, z k 2].getD i 0) 2
def dpT (s9 : Int) : List UInt8 := lnS ([100, 105, 115, 112, 97, 116, 99, 104, 101, 114, 32] ++ dsW s9) (fun _ => 0) 0
def tlT (s10 s11 s12 : Int) : List UInt8 := lnS [104, 111, 114, 105, 122, 111, 110] (fun i : Nat => [s10].getD i 0) 1 ++ lnS [98, 105, 110, 115] (fun i : Nat => [s11, s12].getD i 0) 2
def txT (s0 s1 s2 s3 s4 s5 s6 s7 s9 s10 s11 s12 : Int) (n : Nat) (z : Nat → Nat → Int) : List UInt8 := hdT s0 s1 s2 s3 s4 s5 s6 s7 ++ sgT z n ++ (dpT s9 ++ tlT s10 s11 s12)
theorem lnS_len (b : List UInt8) (z : Nat → Int) (k : Nat) (h : WfZ z k) : (lnS b z k).length ≤ b.length + 22 * k + 1 := by
  have := nmsL_len z k h
  unfold lnS
  simp only [List.length_append, List.length_singleton]; omega
theorem tmW_len (t : Int) : (tmW t).length ≤ 10 := by
  unfold tmW
  repeat' split
  all_goals simp
theorem dsW_len (t : Int) : (dsW t).length ≤ 11 := by
  unfold dsW
  repeat' split
  all_goals simp
theorem wf1 {a : Int} (h : I64 a) : WfZ (fun i : Nat => [a].getD i 0) 1 := fun i hi => by
  obtain rfl : i = 0 := by omega
  exact h
theorem wf2 {a b : Int} (h : I64 a) (h2 : I64 b) : WfZ (fun i : Nat => [a, b].getD i 0) 2 := fun i hi => by
  rcases i with _ | _ | i
  · exact h
  · exact h2
  · omega
theorem wf4 {a b c d : Int} (h : I64 a) (h2 : I64 b) (h3 : I64 c) (h4 : I64 d) : WfZ (fun i : Nat => [a, b, c, d].getD i 0) 4 := fun i hi => by
  rcases i with _ | _ | _ | _ | i
  · exact h
  · exact h2
  · exact h3
  · exact h4
  · omega
def sgB2 (z : Nat → Nat → Int) (n : Nat) : Prop := ∀ k, k < n → I64 (z k 0) ∧ I64 (z k 1) ∧ I64 (z k 2)
theorem sgT_len (z : Nat → Nat → Int) : ∀ k, sgB2 z k → (sgT z k).length ≤ 100 * k
  | 0, _ => by simp [sgT]
  | k + 1, h => by
    have ih := sgT_len z k (fun i hi => h i (by omega))
    have h1 := lnS_len ([116, 114, 97, 102, 102, 105, 99, 32] ++ tmW (z k 0)) (fun i : Nat => [z k 1, z k 2].getD i 0) 2 (wf2 (h k (by omega)).2.1 (h k (by omega)).2.2)
    have h2 := tmW_len (z k 0)
    show (sgT z k ++ _).length ≤ _
    rw [List.length_append]
    rw [List.length_append] at h1
    simp only [List.length_cons, List.length_nil] at h1
    omega
/-- the scenario's numbers are ints -/
def SOk (s0 s1 s2 s3 s4 s5 s6 s7 s9 s10 s11 s12 : Int) : Prop := (I64 s0 ∧ I64 s1 ∧ I64 s2 ∧ I64 s3) ∧ (I64 s4 ∧ I64 s5 ∧ I64 s6 ∧ I64 s7) ∧ I64 s9 ∧ I64 s10 ∧ I64 s11 ∧ I64 s12
def TxR (s0 s1 s2 s3 s4 s5 s6 s7 s9 s10 s11 s12 : Int) (n : Nat) (z : Nat → Nat → Int) (w : World) (e : Ending) (w' : World) : Prop := Below w.heap.size w w' ∧ ((ckA (numV s0 s1 s2 s3 s4 s5 s6 s7 s10 s11 s12) s9 n z = 0 ∧ e = .returned (.tuple #[.string (bL (txT s0 s1 s2 s3 s4 s5 s6 s7 s9 s10 s11 s12 n z)), .int .i64 0])) ∨ (ckA (numV s0 s1 s2 s3 s4 s5 s6 s7 s10 s11 s12) s9 n z ≠ 0 ∧ e = .returned (.tuple #[.string (bL []), .int .i64 (ckA (numV s0 s1 s2 s3 s4 s5 s6 s7 s10 s11 s12) s9 n z)])))
end Go.Proofs.YtmnildjcnpfddaaDoor
