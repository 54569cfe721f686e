/- The law's row of a span. -/
import Derived.Test.YtffcmfpadaebdabRows
import Derived.Test.YtffcmfpadaebdabRowKit
import Derived.Test.YtffcmfpadaebdabRowS
import Derived.Test.YtffcmfpadaebdabRowZ
import Derived.Test.YtffcmfpadaebdabSlicesEq
import Derived.Test.YtffcmfpadaebdabRowL
import Derived.Test.YtffcmfpadaebdabRowM
import Derived.Test.YtffcmfpadaebdabBlocks
import Derived.Test.YtffcmfpadaebdabWinMath
import Derived.Test.YtffcmfpadaebdabEnergyMin
import Derived.Test.YtffcmfpadaebdabSlicesEqM
import Derived.Test.YtffcmfpadaebdabMakeI
import Derived.Test.YtffcmfpadaebdabPulseMath
import Derived.Test.YtffcmfpadaebdabPulseA
import Derived.Test.YtffcmfpadaebdabWindowsA
import Derived.Test.YtffcmfpadaebdabWindowsB
import Derived.Test.YtffcmfpadaebdabWindowsD
import Derived.Test.YtffcmfpadaebdabWindowsR
import Derived.WalkKit
import Derived.IntWalk
import Derived.Lib.Hide
import Derived.Lib.SmallJoins
import Derived.WalkSpells
import Derived.WalkLawsBesides
import Derived.Laws.CopyOwn
import Derived.Laws.MakeOwn
import Derived.Laws.OwnMore
import Derived.OwnWalk
import Derived.Deep.QuietTactic
import Derived.Deep.RegionHeld3
import Derived.Deep.LoopGhost
import Derived.BigQuiet
import Derived.BigRegion
import Derived.Maps.AppendAt
namespace Go.Proofs.Ytffcmfpadaebdab
open Go.RowKit
set_option linter.unusedSimpArgs false
set_option linter.unusedVariables false
def ApartL (u v : Value) : Prop := ∀ g, u.ownBlock = some g → v.ownBlock ≠ some g
theorem ApartL.symm {u v : Value} (h : ApartL u v) : ApartL v u := fun g hv hu => h g hu hv
theorem apartL_step {wr : World} {base : Nat} {e : TypeId} {size n : Nat} {a b v' : Value} {xs : List Value} (hb : wr.ownsRow base e size b n xs) (hap : ApartL a b) (hat : v'.ownBlock = a.ownBlock ∨ v'.ownBlock = some wr.heap.size) : ApartL v' b := by
  intro g h1 h2
  rcases hat with h | h
  · exact hap g (h ▸ h1) h2
  · rw [h] at h1
    cases h1
    have := (hb.lt _ h2).2
    omega
theorem keptL_step {wr w1 : World} {base : Nat} {e : TypeId} {size n : Nat} {a b : Value} {xs : List Value} (hb : wr.ownsRow base e size b n xs) (hap : ApartL a b) (hg : wr.grownBy w1 a.ownBlock) : w1.ownsRow base e size b n xs :=
  hb.kept hg (by
    cases h : b.ownBlock with
    | none => exact .inl rfl
    | some g => exact .inr fun e => hap g e.symm h)
theorem apartL_nil (v : Value) : ApartL v (.slice none 0 0) := fun g _ h => by cases h
/-- three rows of ints, the span, the result -/
structure LR (w X : World) (a b c : Value) (xa xb xc : List Int) (p q : Int) : Prop where
  ra : X.ownsRow (w.heap.size + 1 + 1) 3 1 a xa.length (xa.map (Value.int .i64))
  rb : X.ownsRow (w.heap.size + 1 + 1) 3 1 b xb.length (xb.map (Value.int .i64))
  rc : X.ownsRow (w.heap.size + 1 + 1) 3 1 c xc.length (xc.map (Value.int .i64))
  ab : ApartL a b
  ac : ApartL a c
  bc : ApartL b c
  s : Blk X w.heap.size 24 #[.int .i64 p, .int .i64 q]
  o : Blk X (w.heap.size + 1) 28 #[.int .i64 0, .int .i64 0, .int .i64 0, .int .i64 0, .int .i64 0, .int .i64 0, .int .i64 0]
  e : Below w.heap.size w X
theorem LR.alloc {w X : World} {a b c : Value} {xa xb xc : List Int} {p q : Int} (h : LR w X a b c xa xb xc p q) (o : Obj) : LR w (X.alloc o) a b c xa xb xc p q :=
  ⟨h.ra.alloc _, h.rb.alloc _, h.rc.alloc _, h.ab, h.ac, h.bc, h.s.alloc _, h.o.alloc _, h.e.alloc h.e.size _⟩
theorem LR.next {w X Y : World} {a b c : Value} {xa xb xc : List Int} {p q : Int} (h : LR w X a b c xa xb xc p q) (hb : Below X.heap.size X Y) : LR w Y a b c xa xb xc p q :=
  ⟨mkOwn_below h.ra hb, mkOwn_below h.rb hb, mkOwn_below h.rc hb, h.ab, h.ac, h.bc, h.s.next hb, h.o.next hb, h.e.trans (hb.mono h.e.size)⟩
theorem lr_a {w X w1 : World} {a b c v' : Value} {xa xb xc : List Int} {p q y : Int} (h : LR w X a b c xa xb xc p q) (hn : w1.ownsRow (w.heap.size + 1 + 1) 3 1 v' (xa.length + 1) (xa.map (Value.int .i64) ++ [.int .i64 y])) (hg : X.grownBy w1 a.ownBlock) (hat : v'.ownBlock = a.ownBlock ∨ v'.ownBlock = some X.heap.size) : LR w w1 v' b c (xa ++ [y]) xb xc p q :=
  ⟨(by simpa using hn), keptL_step h.rb (h.ab) hg, keptL_step h.rc (h.ac) hg, apartL_step h.rb (h.ab) hat, apartL_step h.rc (h.ac) hat, h.bc, h.s.grownR hg (fun g e => by have := (h.ra.lt g e).1; omega), h.o.grownR hg (fun g e => by have := (h.ra.lt g e).1; omega), h.e.grown hg h.e.size (fun g e => by have := (h.ra.lt g e).1; omega)⟩
theorem lr_b {w X w1 : World} {a b c v' : Value} {xa xb xc : List Int} {p q y : Int} (h : LR w X a b c xa xb xc p q) (hn : w1.ownsRow (w.heap.size + 1 + 1) 3 1 v' (xb.length + 1) (xb.map (Value.int .i64) ++ [.int .i64 y])) (hg : X.grownBy w1 b.ownBlock) (hat : v'.ownBlock = b.ownBlock ∨ v'.ownBlock = some X.heap.size) : LR w w1 a v' c xa (xb ++ [y]) xc p q :=
  ⟨keptL_step h.ra (h.ab.symm) hg, (by simpa using hn), keptL_step h.rc (h.bc) hg, (apartL_step h.ra (h.ab.symm) hat).symm, h.ac, apartL_step h.rc (h.bc) hat, h.s.grownR hg (fun g e => by have := (h.rb.lt g e).1; omega), h.o.grownR hg (fun g e => by have := (h.rb.lt g e).1; omega), h.e.grown hg h.e.size (fun g e => by have := (h.rb.lt g e).1; omega)⟩
theorem lr_c {w X w1 : World} {a b c v' : Value} {xa xb xc : List Int} {p q y : Int} (h : LR w X a b c xa xb xc p q) (hn : w1.ownsRow (w.heap.size + 1 + 1) 3 1 v' (xc.length + 1) (xc.map (Value.int .i64) ++ [.int .i64 y])) (hg : X.grownBy w1 c.ownBlock) (hat : v'.ownBlock = c.ownBlock ∨ v'.ownBlock = some X.heap.size) : LR w w1 a b v' xa xb (xc ++ [y]) p q :=
  ⟨keptL_step h.ra (h.ac.symm) hg, keptL_step h.rb (h.bc.symm) hg, (by simpa using hn), h.ab, (apartL_step h.ra (h.ac.symm) hat).symm, (apartL_step h.rb (h.bc.symm) hat).symm, h.s.grownR hg (fun g e => by have := (h.rc.lt g e).1; omega), h.o.grownR hg (fun g e => by have := (h.rc.lt g e).1; omega), h.e.grown hg h.e.size (fun g e => by have := (h.rc.lt g e).1; omega)⟩
theorem lr_start (w : World) (p q : Int) : LR w ((w.alloc (.cells #[.int .i64 p, .int .i64 q] 24)).alloc (.cells #[.int .i64 0, .int .i64 0, .int .i64 0, .int .i64 0, .int .i64 0, .int .i64 0, .int .i64 0] 28)) (.slice none 0 0) (.slice none 0 0) (.slice none 0 0) [] [] [] p q := by
  refine ⟨World.ownsRow_nil _ _ _ _, World.ownsRow_nil _ _ _ _, World.ownsRow_nil _ _ _ _, apartL_nil _, apartL_nil _, apartL_nil _, (Blk.new w _ _).alloc _, ?_, ((Below.refl _ _).alloc (Nat.le_refl _) _).alloc (by simp) _⟩
  have h := Blk.new (w.alloc (.cells #[.int .i64 p, .int .i64 q] 24)) #[.int .i64 0, .int .i64 0, .int .i64 0, .int .i64 0, .int .i64 0, .int .i64 0, .int .i64 0] 28
  rw [World.size_alloc] at h
  exact h
/-- the ticks of the arrivals; a field's ticks that are ticks -/
def arrL (z : Nat → Nat → Int) : Nat → List Int
  | 0 => []
  | k + 1 => arrL z k ++ [z k 1]
def tickL (j : Nat) (z : Nat → Nat → Int) : Nat → List Int
  | 0 => []
  | k + 1 => if 0 ≤ z k j then tickL j z k ++ [z k j] else tickL j z k
theorem tickL_yes {j k : Nat} {z : Nat → Nat → Int} (h : 0 ≤ z k j) : tickL j z (k + 1) = tickL j z k ++ [z k j] := by show (if _ then _ else _) = _; rw [if_pos h]
theorem tickL_no {j k : Nat} {z : Nat → Nat → Int} (h : ¬ 0 ≤ z k j) : tickL j z (k + 1) = tickL j z k := by show (if _ then _ else _) = _; rw [if_neg h]
theorem arrL_len (z : Nat → Nat → Int) : ∀ k, (arrL z k).length = k
  | 0 => rfl
  | k + 1 => by show (arrL z k ++ [z k 1]).length = k + 1; rw [List.length_append, arrL_len z k]; rfl
theorem tickL_len (j : Nat) (z : Nat → Nat → Int) : ∀ k, (tickL j z k).length ≤ k
  | 0 => Nat.le_refl 0
  | k + 1 => by
    have i := tickL_len j z k
    by_cases h : 0 ≤ z k j
    · rw [tickL_yes h, List.length_append]; simp; omega
    · rw [tickL_no h]; omega
theorem zat_app {a : List Int} {x : Int} {i : Nat} (h : i < a.length) : zat (a ++ [x]) i = zat a i := by
  unfold zat
  rw [List.getD_eq_getElem?_getD, List.getD_eq_getElem?_getD, List.getElem?_append_left h]
theorem zat_last {a : List Int} {x : Int} : zat (a ++ [x]) a.length = x := by
  unfold zat
  simp
theorem inS_app {p q x : Int} {a : List Int} : ∀ k, k ≤ a.length → inS p q (a ++ [x]) k = inS p q a k
  | 0, _ => rfl
  | k + 1, h => by rw [inS_succ, inS_succ, inS_app k (by omega), zat_app (by omega)]
theorem inS_snoc {p q x : Int} {a : List Int} : inS p q (a ++ [x]) (a ++ [x]).length = inS p q a a.length + if p ≤ x ∧ x < q then 1 else 0 := by
  rw [show (a ++ [x]).length = a.length + 1 by simp, inS_succ, inS_app _ (Nat.le_refl _), zat_last]
theorem arr_C (p q : Int) (z : Nat → Nat → Int) : ∀ k, ((inS p q (arrL z k) (arrL z k).length : Nat) : Int) = ofC p q z k
  | 0 => rfl
  | k + 1 => by
    show ((inS p q (arrL z k ++ [z k 1]) (arrL z k ++ [z k 1]).length : Nat) : Int) = ofC p q z k + _
    rw [inS_snoc, ← arr_C p q z k]
    split <;> simp
theorem tick_I (p q : Int) (z : Nat → Nat → Int) : ∀ k, ((inS p q (tickL 5 z k) (tickL 5 z k).length : Nat) : Int) = ofI p q z k
  | 0 => rfl
  | k + 1 => by
    show _ = ofI p q z k + _
    by_cases h : 0 ≤ z k 5
    · rw [tickL_yes h, inS_snoc, ← tick_I p q z k]
      by_cases c : p ≤ z k 5 ∧ z k 5 < q
      · rw [if_pos c, if_pos ⟨h, c⟩]; simp
      · rw [if_neg c, if_neg (fun d => c d.2)]; simp
    · rw [tickL_no h, tick_I p q z k, if_neg (fun d => h d.1)]; simp
theorem tick_O (p q : Int) (z : Nat → Nat → Int) : ∀ k, ((inS p q (tickL 6 z k) (tickL 6 z k).length : Nat) : Int) = ofO p q z k
  | 0 => rfl
  | k + 1 => by
    show _ = ofO p q z k + _
    by_cases h : 0 ≤ z k 6
    · rw [tickL_yes h, inS_snoc, ← tick_O p q z k]
      by_cases c : p ≤ z k 6 ∧ z k 6 < q
      · rw [if_pos c, if_pos ⟨h, c⟩]; simp
      · rw [if_neg c, if_neg (fun d => c d.2)]; simp
    · rw [tickL_no h, tick_O p q z k, if_neg (fun d => h d.1)]; simp
end Go.Proofs.Ytffcmfpadaebdab
