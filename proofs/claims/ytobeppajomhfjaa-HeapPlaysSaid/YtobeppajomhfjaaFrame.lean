/- Frames: which blocks a call may change. -/
import Derived.Test.YtobeppajomhfjaaRows
import Derived.Test.YtobeppajomhfjaaRowKit
import Derived.Test.YtobeppajomhfjaaRowS
import Derived.Test.YtobeppajomhfjaaRowZ
import Derived.Test.YtobeppajomhfjaaRowM
import Derived.Test.YtobeppajomhfjaaBlocks
import Derived.Test.YtobeppajomhfjaaAtKit
import Derived.Laws.CopyOwn
import Derived.Laws.OwnMore
namespace Go.Proofs.Ytobeppajomhfjaa
open Go.RowKit
set_option linter.unusedVariables false
/-- behind it all blocks are as they were, but such as S has, and new ones -/
structure Fr (S : Nat → Prop) (w w' : World) : Prop where
  os : w'.os = w.os
  tape : w'.tape = w.tape
  output : w'.output = w.output
  size : w.heap.size ≤ w'.heap.size
  block : ∀ k, k < w.heap.size → ¬ S k → w'.heap[k]? = w.heap[k]?
theorem Fr.refl (S : Nat → Prop) (w : World) : Fr S w w := ⟨rfl, rfl, rfl, Nat.le_refl _, fun _ _ _ => rfl⟩
theorem Fr.trans {S T : Nat → Prop} {a b c : World} (h : Fr S a b) (k : Fr T b c) (hT : ∀ i, i < a.heap.size → T i → S i) : Fr S a c :=
  ⟨k.os.trans h.os, k.tape.trans h.tape, k.output.trans h.output, Nat.le_trans h.size k.size, fun i hi hs => (k.block i (Nat.lt_of_lt_of_le hi h.size) (fun ht => hs (hT i hi ht))).trans (h.block i hi hs)⟩
theorem Fr.mono {S T : Nat → Prop} {a b : World} (h : Fr S a b) (hT : ∀ i, i < a.heap.size → S i → T i) : Fr T a b :=
  ⟨h.os, h.tape, h.output, h.size, fun i hi hs => h.block i hi (fun q => hs (hT i hi q))⟩
theorem Fr.drew {S : Nat → Prop} {a b : World} (h : Fr S a b) : Fr S a b.drew := ⟨h.os, h.tape, h.output, h.size, h.block⟩
theorem Fr.drewN {S : Nat → Prop} {a b : World} (h : Fr S a b) (n : Nat) : Fr S a (b.drewN n) := ⟨h.os, h.tape, h.output, h.size, h.block⟩
theorem Fr.alloc {S : Nat → Prop} {a b : World} (h : Fr S a b) (o : Obj) : Fr S a (b.alloc o) :=
  ⟨h.os, h.tape, h.output, Nat.le_trans h.size (by simp), fun k hk hs => (Below.heap_alloc b o k (Nat.lt_of_lt_of_le hk h.size)).trans (h.block k hk hs)⟩
theorem Fr.setCell {S : Nat → Prop} {a b : World} (h : Fr S a b) {p : Addr} (hp : a.heap.size ≤ p.block ∨ S p.block) (u : Value) : Fr S a (b.setCell p u) :=
  ⟨h.os, h.tape, h.output, by have := h.size; simp [World.setCell]; omega, fun k hk hs => (Below.heap_setCell b p u k (fun e => hp.elim (fun h => absurd h (by rw [← e]; omega)) (fun h => hs (e ▸ h)))).trans (h.block k hk hs)⟩
theorem Fr.of_below {B : Nat} {a b : World} (h : Below B a b) : Fr (fun i => B ≤ i) a b := ⟨h.os, h.tape, h.output, h.size, fun k _ hs => h.block k (by omega)⟩
/-- a call that changes nothing that there was -/
theorem Fr.below {S : Nat → Prop} {a b c : World} (h : Fr S a b) (k : Below b.heap.size b c) : Fr S a c :=
  h.trans (Fr.of_below k) (fun i hi hb => absurd hi (by have := h.size; omega))
theorem Fr.grown {S : Nat → Prop} {a b c : World} {row : Option Nat} (h : Fr S a b) (hg : b.grownBy c row) (hr : ∀ k, row = some k → a.heap.size ≤ k ∨ S k) : Fr S a c :=
  ⟨hg.os.trans h.os, hg.tape.trans h.tape, hg.output.trans h.output, Nat.le_trans h.size hg.size, fun k hk hs => (hg.block k (Nat.lt_of_lt_of_le hk h.size) (fun e => (hr k e.symm).elim (fun h => absurd h (by omega)) (fun h => hs h))).trans (h.block k hk hs)⟩
theorem Fr.to_below {S : Nat → Prop} {B : Nat} {a b : World} (h : Fr S a b) (hS : ∀ i, S i → B ≤ i) (hB : B ≤ a.heap.size) : Below B a b :=
  ⟨h.os, h.tape, h.output, h.size, fun k hk => h.block k (by omega) (fun q => by have := hS k q; omega)⟩
theorem Blk.fr {S : Nat → Prop} {w w' : World} {g : Nat} {t : TypeId} {cs : Array Value} (h : Blk w g t cs) (hf : Fr S w w') (hs : ¬ S g) : Blk w' g t cs := (hf.block g h.lt hs).trans h
theorem Fr.cell {S : Nat → Prop} {w w' : World} (hf : Fr S w w') {p : Addr} (hp : p.block < w.heap.size) (hs : ¬ S p.block) : w'.cell? p = w.cell? p := World.cell?_of_block (w := w) (hf.block p.block hp hs)
theorem Fr.frozen {S : Nat → Prop} {w w' : World} (hf : Fr S w w') {p : Addr} (hp : p.block < w.heap.size) (hs : ¬ S p.block) : w'.frozen? p = w.frozen? p := World.frozen?_of_block (w := w) (hf.block p.block hp hs)
/-- the block of a slice -/
def rowBlk : Value → Option Nat
  | .slice (some a) _ _ => some a.block
  | _ => none
theorem rdZ_fr {S : Nat → Prop} {w w' : World} {m n : Nat} {A : Option Addr} {z : Nat → Nat → Int} (h : RdZ w m A n z) (hf : Fr S w w') (hs : ∀ a, A = some a → 0 < n → ¬ S a.block) : RdZ w' m A n z := by
  intro i hi
  obtain ⟨a, e, hlt, hc⟩ := h i hi
  have hn := hs a e (by omega)
  refine ⟨a, e, Nat.lt_of_lt_of_le hlt hf.size, fun j hj => ⟨?_, (hc j hj).2⟩⟩
  have hb : (a.add (i * m + j)).block = a.block := by unfold Addr.add; split <;> rfl
  rw [hf.cell (by rw [hb]; exact hlt) (by rw [hb]; exact hn)]
  exact (hc j hj).1
end Go.Proofs.Ytobeppajomhfjaa
