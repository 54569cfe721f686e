/- Contracts of digits.Text, digits.Of and of the document's: a number's decimal digits. -/
import Derived.Test.YtmnildjcnpfddaaDoorRows
import Derived.Test.YtmnildjcnpfddaaDoorRowKit
import Derived.Test.YtmnildjcnpfddaaDoorShelf
import Derived.WalkKit
import Derived.Lib.Hide
import Derived.WalkSpells
import Derived.WalkLawsBesides
import Derived.Deep.QuietTactic
import Derived.BigQuiet
import Derived.Laws.IdiomStrings
import Derived.Lib.ItoaNum
import Derived.Lib.ItoaLen
import Derived.Lib.ItoaMem
import Derived.Deep.RegionHeld3
namespace Go.Proofs.YtmnildjcnpfddaaDoor
open Go.RowKit Go.Sort
set_option linter.unusedSimpArgs false
set_option linter.unusedVariables false
/-- a digit's letter -/
def dgt (d : Nat) : UInt8 := UInt8.ofNat (48 + d)
theorem dgt_nat {d : Nat} (h : d < 10) : (dgt d).toNat = 48 + d := by
  unfold dgt; show (48 + d) % 256 = _; omega
theorem conv_cell {W : World} {a : Addr} {d : Nat} {v : Int} (hv : v = 48 + (d : Int)) (hd : d < 10) (hc : W.cell? a = some (.int .u8 v)) :
    (convert 62 9 (.slice (some a) 1 1)).run Tryd.prog W = .ok (.string ⟨#[dgt d]⟩) W := by
  subst hv
  refine run_convert_bytes_back W 62 9 5 a 1 [dgt d] Tryd.underlying62 Tryd.underlying5 Tryd.underlying9 (fun j hj => ?_)
  obtain rfl : j = 0 := by simpa using hj
  have e := dgt_nat hd
  simp only [List.getElem_cons_zero, e]
  rw [show a.add 0 = a from by simp [Addr.add]] 
  exact hc
theorem conv_one (W : World) {g d : Nat} {v : Int} (hg : g = W.heap.size) (hv : v = 48 + (d : Int)) (hd : d < 10) :
    (convert 62 9 (.slice (some ⟨g, 0, none⟩) 1 1)).run Tryd.prog (W.alloc (.cells #[.int .u8 v] 5)) = .ok (.string ⟨#[dgt d]⟩) (W.alloc (.cells #[.int .u8 v] 5)) := by
  refine conv_cell hv hd ?_
  subst hg
  exact (World.cell?_alloc_mark W _ _ _ 0).trans rfl
theorem conv_drew (W : World) {g d : Nat} {v : Int} (hg : g = W.heap.size) (hv : v = 48 + (d : Int)) (hd : d < 10) :
    (convert 62 9 (.slice (some ⟨g, 0, none⟩) 1 1)).run Tryd.prog (W.alloc (.cells #[.int .u8 v] 5)).drew = .ok (.string ⟨#[dgt d]⟩) (W.alloc (.cells #[.int .u8 v] 5)).drew := by
  refine conv_cell hv hd ?_
  subst hg
  exact (World.cell?_alloc_mark W _ _ _ 0).trans rfl
theorem conv_in {X W : World} {g d : Nat} {v : Int} (hb : Below (X.alloc (.cells #[.int .u8 v] 5)).heap.size (X.alloc (.cells #[.int .u8 v] 5)) W) (hg : g = X.heap.size) (hv : v = 48 + (d : Int)) (hd : d < 10) :
    (convert 62 9 (.slice (some ⟨g, 0, none⟩) 1 1)).run Tryd.prog W = .ok (.string ⟨#[dgt d]⟩) W := by
  refine conv_cell hv hd ?_
  subst hg
  rw [hb.cell (p := ⟨X.heap.size, 0, none⟩) (by simp)]
  exact (World.cell?_alloc_mark X _ _ _ 0).trans rfl
theorem cell_in {X W : World} {v : Value} (hb : Below (X.alloc (.cells #[v] 5)).heap.size (X.alloc (.cells #[v] 5)) W) : W.cell? ⟨X.heap.size, 0, none⟩ = some v := by
  rw [hb.cell (p := ⟨X.heap.size, 0, none⟩) (by simp)]
  exact (World.cell?_alloc_mark X _ _ _ 0).trans rfl
theorem cell_in_drew {X W : World} {v : Value} (hb : Below (X.alloc (.cells #[v] 5)).drew.heap.size (X.alloc (.cells #[v] 5)).drew W) : W.cell? ⟨X.heap.size, 0, none⟩ = some v := by
  rw [hb.cell (p := ⟨X.heap.size, 0, none⟩) (by simp [World.drew])]
  exact (World.cell?_alloc_mark X _ _ _ 0).trans rfl
theorem str_join (L : List UInt8) (u : UInt8) : (ByteArray.mk L.toArray) ++ (ByteArray.mk #[u]) = ByteArray.mk (L ++ [u]).toArray := by
  simp [ByteArray.mk_append_mk]
theorem dec_more {n : Nat} (h : ¬ n < 10) : Lib.decDigits n = Lib.decDigits (n / 10) ++ [dgt (n % 10)] := by
  rw [Lib.decDigits, dif_neg h]; rfl
set_option maxHeartbeats 400000 in
theorem plain_any : ∀ (n : Nat) (w : World), n < 18446744073709551616 →
    Calls Tryd.prog 32 #[.int .u64 n] w fun e w' => e = .returned (.string ⟨(Lib.decDigits n).toArray⟩) ∧ Below w.heap.size w w' := by
  intro n
  induction n using Nat.strongRecOn with
  | ind n ih =>
    intro w hn
    by_cases h : n < 10
    · have h' : (n : Int) < 10 := by omega
      have kc := fun (W : World) => conv_one W (g := W.heap.size) (v := 48 + (n : Int)) rfl rfl h
      clear ih
      go_enter Tryd.func32, Tryd.ntmps32
      go_wp2_with fail
      go_ret
      refine ⟨by rw [Lib.decDigits_one h]; rfl, (Below.refl _ _).alloc (Nat.le_refl _) _⟩
    · have h' : ¬ (n : Int) < 10 := by omega
      have ih' := fun w => ih (n / 10) (by omega) w (by omega)
      have hdm := dec_more h
      have hd := Nat.mod_lt n (show 0 < 10 by decide)
      have e10 : IntKind.u64.wrap ((n : Int) / 10) = ((n / 10 : Nat) : Int) := by rw [IntKind.wrap_u64]; omega
      have et : (n : Int).tmod 10 = ((n % 10 : Nat) : Int) := rfl
      have hm : n / 10 < 18446744073709551616 := by omega
      generalize n / 10 = m at ih' hdm e10 hm
      generalize n % 10 = d at hdm hd et
      have ew : IntKind.u64.wrap (48 + (d : Int)) = 48 + (d : Int) := by rw [IntKind.wrap_u64]; omega
      have ew8 : IntKind.u8.wrap (48 + (d : Int)) = 48 + (d : Int) := by rw [IntKind.wrap_u8]; omega
      have kc := fun (W : World) => conv_one W (g := W.heap.size) (v := 48 + (d : Int)) rfl rfl hd
      have hL : (Lib.decDigits m).length ≤ 20 := by rw [Lib.decDigits_length]; exact Lib.nDigits_le20 m hm
      generalize Lib.decDigits m = L at ih' hdm hL
      have x1 : ¬ 9223372036854775807 ≤ L.length := by omega
      have x2 : ¬ 9223372036854775807 < L.length + 1 := by omega
      have x3 : L.length < 9223372036854775807 := by omega
      have kd := fun (W : World) => conv_drew W (g := W.heap.size) (v := 48 + (d : Int)) rfl rfl hd
      have HD := Lib.hid hdm
      have IH := Lib.hid ih'
      clear ih' hdm hm hL
      clear ih
      go_enter Tryd.func32, Tryd.ntmps32
      go_wp2_with fail
      go_region_with
        (first
          | (go_simp; go_at_call 32; refine (IH.out _).mono ?_; rintro e w2 ⟨rfl, hb⟩; (try (have kc3 := (by with_reducible first | exact cell_in hb | exact cell_in_drew hb); have kc2 : (convert 62 9 (.slice (some ⟨w.heap.size, 0, none⟩) 1 1)).run Tryd.prog w2 = .ok (.string ⟨#[dgt d]⟩) w2 := conv_cell rfl hd kc3))))
      all_goals go_wp2_with fail
      all_goals
        go_ret
        refine ⟨by rw [HD.out, ← str_join]; rfl, ?_⟩
        first
          | exact (((Below.refl w.heap.size w).drew).trans hb).alloc (by have := hb.size; simpa using this) _
          | exact (((Below.refl w.heap.size w).alloc (Nat.le_refl _) _).drew).trans (hb.mono (by simp [World.drew]))
end Go.Proofs.YtmnildjcnpfddaaDoor
