/- Columns: the document's blanks. -/
import Derived.Test.YtkonghjmipclmaaDoorRows
import Derived.Test.YtkonghjmipclmaaDoorRowKit
import Derived.Test.YtkonghjmipclmaaDoorShelf
import Derived.Test.YtkonghjmipclmaaDoorBlocks
import Derived.Test.YtkonghjmipclmaaDoorSlicesEq
import Derived.Test.YtkonghjmipclmaaDoorRowT
import Derived.Test.YtkonghjmipclmaaDoorDigE
import Derived.Test.YtkonghjmipclmaaDoorBuA
import Derived.Test.YtkonghjmipclmaaDoorColM
import Derived.Test.YtkonghjmipclmaaDoorColA
import Derived.WalkKit
import Derived.IntWalk
import Derived.Lib.Hide
import Derived.WalkSpells
import Derived.WalkLawsBesides
import Derived.Laws.IdiomStrings
import Derived.Laws.OwnMore
import Derived.OwnWalk
import Derived.Deep.QuietTactic
import Derived.BigQuiet
import Derived.BigRegion
import Derived.Deep.LoopGhost
namespace Go.Proofs.YtkonghjmipclmaaDoor
open Go.RowKit Go.Sort
set_option linter.unusedSimpArgs false
set_option linter.unusedVariables false
def blC (k : Nat) : ByteArray := bL (List.replicate k 32)
theorem blC_size (k : Nat) : (blC k).size = k := by unfold blC; rw [bL_size, List.length_replicate]
theorem blC_succ (k : Nat) : blC k ++ ByteArray.mk #[32] = blC (k + 1) := by
  apply ByteArray.ext
  apply Array.ext'
  unfold blC bL
  simp [List.replicate_succ']
set_option maxRecDepth 100000 in
set_option maxHeartbeats 4000000 in
theorem blanks_any (n : Int) (w : World) (h0 : -100000 ≤ n) (h1 : n ≤ 100000) :
    Calls Tryd.prog 36 #[.int .i64 n] w fun e w' => e = .returned (.string (blC n.toNat)) ∧ w' = w := by
  obtain ⟨d, hd⟩ : ∃ d, n.toNat = d := ⟨_, rfl⟩
  rw [hd]
  have HD := Lib.hid hd
  have hd1 : d ≤ 100000 := by omega
  clear hd
  go_enter Tryd.func36, Tryd.ntmps36
  go_wp2_with fail
  go_loopg [3, 4] d (fun gh sv iv wr => ∃ (k : Nat) (t : ByteArray), k ≤ d ∧ gh = d - k ∧ sv = .string t ∧ iv = .int .i64 k ∧ Hid (t = blC k) ∧ w = wr)
  case atStart => exact ⟨0, ByteArray.mk #[], Nat.zero_le _, rfl, rfl, rfl, Lib.hid rfl, rfl⟩
  case round =>
    obtain ⟨k, t, hk, rfl, rfl, rfl, HT, rfl⟩ := hrel
    have hts : t.size = k := by rw [HT.out]; exact blC_size k
    by_cases hkd : k < d
    · have hki : (k : Int) < n := by have := HD.out; omega
      have hmax : ¬ 9223372036854775807 < t.size + 1 := by omega
      have hmax2 : ¬ 9223372036854775807 < (t.size : Int) + 1 := by omega
      have hc : t ++ ByteArray.mk #[32] = blC (k + 1) := by rw [HT.out]; exact blC_succ k
      obtain ⟨u, hu⟩ : ∃ u, blC (k + 1) = u := ⟨_, rfl⟩
      rw [hu] at hc
      have HU := Lib.hid hu.symm
      clear hu hts
      go_wp2_with fail
      try rw [hc]
      go_roundg (d - (k + 1))
      case measure => omega
      case rel => first | exact ⟨k + 1, u, by omega, rfl, rfl, by go_num, HU, rfl⟩ | exact ⟨k + 1, u, by omega, rfl, by rw [← hc]; rfl, by go_num, HU, rfl⟩
    · have hki : ¬ (k : Int) < n := by have := HD.out; omega
      have hkd' : k = d := by omega
      have ht : t = blC d := by rw [HT.out, hkd']
      have HTT := Lib.hid ht
      clear hts ht
      go_wp2_with fail
      go_ret
      exact ⟨congrArg (fun z => Ending.returned (.string z)) HTT.out, rfl⟩
end Go.Proofs.YtkonghjmipclmaaDoor
