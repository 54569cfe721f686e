/- The walk of PeopleTurns: it answers true for every input, and leaves all old blocks as they were. No condition. -/
import Derived.Test.YteebeiflipfbkaaRows
import Derived.Test.YteebeiflipfbkaaRowKit
import Derived.Test.YteebeiflipfbkaaRowS
import Derived.Test.YteebeiflipfbkaaRowZ
import Derived.Test.YteebeiflipfbkaaSlicesEq
import Derived.Test.YteebeiflipfbkaaRowL
import Derived.Test.YteebeiflipfbkaaRowM
import Derived.Test.YteebeiflipfbkaaPeopleMath
import Derived.Test.YteebeiflipfbkaaBlocks
import Derived.Test.YteebeiflipfbkaaEnergyMin
import Derived.Test.YteebeiflipfbkaaPeopleA
import Derived.Test.YteebeiflipfbkaaPeopleB
import Derived.WalkKit
import Derived.ProofKit
import Derived.OpenShut
import Derived.Deep.QuietTactic
import Derived.BigQuiet
import Derived.Lib.SmallJoins
import Derived.Lib.Hide
import Derived.WalkSpells
import Derived.WalkLawsBesides
import Derived.Deep.LoopGhost
import Derived.Maps.AppendAt
import Derived.Laws.OwnMore
import Derived.Laws.MakeOwn
import Derived.Laws.CopyOwn
import Derived.OwnWalk
import Derived.IntWalk
namespace Go.Proofs.Yteebeiflipfbkaa.peopleTurns
open Go.ChangeShapes Go.WideShapes Go.ChangeAt Go.RowKit Go.Joins
set_option linter.unusedSimpArgs false
set_option linter.unusedVariables false

/-- two rows don't share a block -/
def Apart (u v : Value) : Prop := ∀ g, u.ownBlock = some g → v.ownBlock ≠ some g
theorem Apart.symm {u v : Value} (h : Apart u v) : Apart v u := fun g hv hu => h g hu hv
theorem apart_step {wr : World} {base : Nat} {e : TypeId} {size n : Nat} {a b v' : Value} {xs : List Value} (hb : wr.ownsRow base e size b n xs) (hap : Apart a b) (hat : v'.ownBlock = a.ownBlock ∨ v'.ownBlock = some wr.heap.size) : Apart v' b := by
  intro g h1 h2
  rcases hat with h | h
  · exact hap g (h ▸ h1) h2
  · rw [h] at h1
    cases h1
    have := (hb.lt _ h2).2
    omega
theorem kept_step {wr w1 : World} {base : Nat} {e : TypeId} {size n : Nat} {a b : Value} {xs : List Value} (hb : wr.ownsRow base e size b n xs) (hap : Apart a b) (hg : wr.grownBy w1 a.ownBlock) : w1.ownsRow base e size b n xs :=
  hb.kept hg (by
    cases h : b.ownBlock with
    | none => exact .inl rfl
    | some g => exact .inr fun e => hap g e.symm h)
theorem apart_nil (v : Value) : Apart v (.slice none 0 0) := fun g _ h => by cases h
/-- four rows that the call made -/
structure Four (B : Nat) (w wr : World) (a b c d : Value) (na nb nc nd : Nat) (xa xb xc xd : List Value) : Prop where
  ra : wr.ownsRow B 35 4 a na xa
  rb : wr.ownsRow B 35 4 b nb xb
  rc : wr.ownsRow B 35 4 c nc xc
  rd : wr.ownsRow B 35 4 d nd xd
  ab : Apart a b
  ac : Apart a c
  ad : Apart a d
  bc : Apart b c
  bd : Apart b d
  cd : Apart c d
  bl : Below w.heap.size w wr
theorem Four.alloc {B : Nat} {w wr : World} {a b c d : Value} {na nb nc nd : Nat} {xa xb xc xd : List Value} (h : Four B w wr a b c d na nb nc nd xa xb xc xd) (o : Obj) : Four B w (wr.alloc o) a b c d na nb nc nd xa xb xc xd :=
  ⟨h.ra.alloc _, h.rb.alloc _, h.rc.alloc _, h.rd.alloc _, h.ab, h.ac, h.ad, h.bc, h.bd, h.cd, h.bl.alloc h.bl.size _⟩
theorem four_a {B : Nat} {w wr w1 : World} {a b c d v' : Value} {na nb nc nd m : Nat} {xa xb xc xd ys : List Value} (h : Four B w wr a b c d na nb nc nd xa xb xc xd) (hB : w.heap.size ≤ B) (hn : w1.ownsRow B 35 4 v' m ys) (hg : wr.grownBy w1 a.ownBlock) (hat : v'.ownBlock = a.ownBlock ∨ v'.ownBlock = some wr.heap.size) :
    Four B w w1 v' b c d m nb nc nd ys xb xc xd :=
  ⟨hn, kept_step h.rb (h.ab) hg, kept_step h.rc (h.ac) hg, kept_step h.rd (h.ad) hg, apart_step h.rb (h.ab) hat, apart_step h.rc (h.ac) hat, apart_step h.rd (h.ad) hat, h.bc, h.bd, h.cd, h.bl.grown hg h.bl.size (fun g e => Nat.le_trans hB (h.ra.lt g e).1)⟩
theorem four_b {B : Nat} {w wr w1 : World} {a b c d v' : Value} {na nb nc nd m : Nat} {xa xb xc xd ys : List Value} (h : Four B w wr a b c d na nb nc nd xa xb xc xd) (hB : w.heap.size ≤ B) (hn : w1.ownsRow B 35 4 v' m ys) (hg : wr.grownBy w1 b.ownBlock) (hat : v'.ownBlock = b.ownBlock ∨ v'.ownBlock = some wr.heap.size) :
    Four B w w1 a v' c d na m nc nd xa ys xc xd :=
  ⟨kept_step h.ra (h.ab.symm) hg, hn, kept_step h.rc (h.bc) hg, kept_step h.rd (h.bd) hg, (apart_step h.ra (h.ab.symm) hat).symm, h.ac, h.ad, apart_step h.rc (h.bc) hat, apart_step h.rd (h.bd) hat, h.cd, h.bl.grown hg h.bl.size (fun g e => Nat.le_trans hB (h.rb.lt g e).1)⟩
theorem four_c {B : Nat} {w wr w1 : World} {a b c d v' : Value} {na nb nc nd m : Nat} {xa xb xc xd ys : List Value} (h : Four B w wr a b c d na nb nc nd xa xb xc xd) (hB : w.heap.size ≤ B) (hn : w1.ownsRow B 35 4 v' m ys) (hg : wr.grownBy w1 c.ownBlock) (hat : v'.ownBlock = c.ownBlock ∨ v'.ownBlock = some wr.heap.size) :
    Four B w w1 a b v' d na nb m nd xa xb ys xd :=
  ⟨kept_step h.ra (h.ac.symm) hg, kept_step h.rb (h.bc.symm) hg, hn, kept_step h.rd (h.cd) hg, h.ab, (apart_step h.ra (h.ac.symm) hat).symm, h.ad, (apart_step h.rb (h.bc.symm) hat).symm, h.bd, apart_step h.rd (h.cd) hat, h.bl.grown hg h.bl.size (fun g e => Nat.le_trans hB (h.rc.lt g e).1)⟩
theorem four_d {B : Nat} {w wr w1 : World} {a b c d v' : Value} {na nb nc nd m : Nat} {xa xb xc xd ys : List Value} (h : Four B w wr a b c d na nb nc nd xa xb xc xd) (hB : w.heap.size ≤ B) (hn : w1.ownsRow B 35 4 v' m ys) (hg : wr.grownBy w1 d.ownBlock) (hat : v'.ownBlock = d.ownBlock ∨ v'.ownBlock = some wr.heap.size) :
    Four B w w1 a b c v' na nb nc m xa xb xc ys :=
  ⟨kept_step h.ra (h.ad.symm) hg, kept_step h.rb (h.bd.symm) hg, kept_step h.rc (h.cd.symm) hg, hn, h.ab, h.ac, (apart_step h.ra (h.ad.symm) hat).symm, h.bc, (apart_step h.rb (h.bd.symm) hat).symm, (apart_step h.rc (h.cd.symm) hat).symm, h.bl.grown hg h.bl.size (fun g e => Nat.le_trans hB (h.rd.lt g e).1)⟩
set_option maxRecDepth 100000 in
set_option maxHeartbeats 8000000 in
theorem walk_in {A : Option Addr} {c n : Nat} {z : Nat → Nat → Int} {t p q : Int} {w : World} (hc : n ≤ c) (hm : c ≤ maxLen) (hr : RdZ w 4 A n z) (ht1 : -1099511627776 ≤ t) (ht2 : t ≤ 1099511627776) :
    Calls Try.prog 4 #[.slice A n c, .int .i64 t, .agg #[.int .i64 p, .int .i64 q]] w fun e w' => e = .returned (.bool true) ∧ Below w.heap.size w w' := by
  obtain ⟨i0, hi, hz0, hz1, hz2⟩ := info_parts pasInfo
  unfold maxLen at hm
  have HR := Lib.hid hr
  have HB0 := Lib.hid (show Below w.heap.size w (w.alloc (.cells #[.int .i64 p, .int .i64 q] 32)) from (Below.refl _ _).alloc (Nat.le_refl _) _)
  have HBX := Lib.hid (Blk.new w #[(.int .i64 p : Value), .int .i64 q] 32)
  have G := Lib.hid (great_any A c n z _ (hr.kept HB0.out) (by omega))
  clear hr
  go_enter Try.func4, Try.ntmps4
  go_wp2_with fail
  refine G.out.mono ?_
  rintro e w1 ⟨g, rfl, hS, hb1⟩
  have HB1 := Lib.hid (HB0.out.trans (hb1.mono HB0.out.size))
  have HX1 := Lib.hid (HBX.out.next hb1)
  clear hb1 HBX HB0 G
  cases g
  case true =>
    go_wp2_with fail
    go_ret
    exact ⟨rfl, HB1.out⟩
  obtain ⟨hn, hbd⟩ := hS rfl
  have HBD := Lib.hid hbd
  clear hS hbd
  go_wp2_with fail
  go_loopg [7, 8, 9, 10, 11, 12] n (fun gh va vb vc vd u i wr => ∃ k : Nat, k ≤ n ∧ gh = n - k ∧ i = .int .i64 k ∧ u = .int .i64 (upP z k : Nat) ∧ Hid (Four (w.heap.size + 1) w wr va vb vc vd k k k (selP (spP z p q) k).length (rowM 4 (laterP z t) k) (rowM 4 (mirrorP z t) k) (rowM 4 (backP z) k) (rowM 4 (numP (pickP z (selP (spP z p q) k))) (selP (spP z p q) k).length)) ∧ Hid (Blk wr w.heap.size 32 #[.int .i64 p, .int .i64 q]))
  case atStart => exact ⟨0, by omega, rfl, rfl, rfl, Lib.hid ⟨by rw [rowM_zero]; exact World.ownsRow_nil _ _ _ _, by rw [rowM_zero]; exact World.ownsRow_nil _ _ _ _, by rw [rowM_zero]; exact World.ownsRow_nil _ _ _ _, by rw [show (selP (spP z p q) 0).length = 0 from rfl, rowM_zero]; exact World.ownsRow_nil _ _ _ _, apart_nil _, apart_nil _, apart_nil _, apart_nil _, apart_nil _, apart_nil _, HB1.out⟩, HX1⟩
  case round =>
    clear HB1 HX1
    obtain ⟨k, hk, rfl, rfl, rfl, HF, HX⟩ := hrel
    have ul := upP_le z k
    have hl := selP_len (spP z p q) k
    obtain ⟨aA, ac, hv⟩ := ownM_slice HF.out.ra
    subst hv
    obtain ⟨bA, bc, hv⟩ := ownM_slice HF.out.rb
    subst hv
    obtain ⟨cA, cc, hv⟩ := ownM_slice HF.out.rc
    subst hv
    obtain ⟨dA, dc, hv⟩ := ownM_slice HF.out.rd
    subst hv
    by_cases h : k < n
    · obtain ⟨b, off, rfl, hlt, hc'⟩ := rdZ_row (HR.out.kept HF.out.bl) (by omega) (by omega)
      have c0 : wr.cell? ⟨b, off + k * 4, none⟩ = _ := hc' k 0 h (by omega)
      have c1 := hc' k 1 h (by omega)
      have c2 := hc' k 2 h (by omega)
      have c3 := hc' k 3 h (by omega)
      have d1 := HBD.out k 1 h (by omega)
      have d2 := HBD.out k 2 h (by omega)
      have d3 := HBD.out k 3 h (by omega)
      have HSZ := Lib.hid HX.out.lt
      have BX0 := Lib.hid (show Blk (wr.alloc (.cells #[.int .i64 (z k 0), .int .i64 (z k 1), .int .i64 (z k 2), .int .i64 (z k 3)] 35)) wr.heap.size 35 #[.int .i64 (z k 0), .int .i64 (z k 1), .int .i64 (z k 2), .int .i64 (z k 3)] from Blk.new wr _ _)
      have F0 := Lib.hid (HF.out.alloc (.cells #[.int .i64 (z k 0), .int .i64 (z k 1), .int .i64 (z k 2), .int .i64 (z k 3)] 35))
      have X0 := Lib.hid (HX.out.alloc (.cells #[.int .i64 (z k 0), .int .i64 (z k 1), .int .i64 (z k 2), .int .i64 (z k 3)] 35))
      have LB := Lib.hid (show w.heap.size < wr.heap.size from HX.out.lt)
      have RB := Lib.hid (show ∀ v ∈ [Value.slice aA k ac, .slice bA k bc, .slice cA k cc, .slice dA (selP (spP z p q) k).length dc], ∀ g, v.ownBlock = some g → g < wr.heap.size from by
        intro v hv g hg
        simp at hv
        rcases hv with rfl | rfl | rfl | rfl
        · exact (HF.out.ra.lt g hg).2
        · exact (HF.out.rb.lt g hg).2
        · exact (HF.out.rc.lt g hg).2
        · exact (HF.out.rd.lt g hg).2)
      clear hc' HF HX
      go_wp2_with (first
        | (
            at_builtin
            refine wpList_append_own_at _ rfl _ _ 30 rfl (w.heap.size + 1) 35 i0 (.agg #[.int .i64 0, .int .i64 0, .int .i64 0, .int .i64 0]) 4 32 Try.underlying30 hi hz0 hz1 hz2 rfl (by decide) _ _ _ rfl (F0.out.alloc (.cells #[.int .i64 (z k 0), .int .i64 (z k 1 + t), .int .i64 (z k 2), .int .i64 (z k 3)] 35)).ra ⟨_, 0, none⟩ 1 1 [.int .i64 (z k 0), .int .i64 (z k 1 + t), .int .i64 (z k 2), .int .i64 (z k 3)] rfl rfl (newsM_new2 (cs := #[.int .i64 (z k 0), .int .i64 (z k 1 + t), .int .i64 (z k 2), .int .i64 (z k 3)])) (by intro u hu; simp at hu; rcases hu with rfl | rfl | rfl | rfl <;> rfl) (by unfold maxLen; omega) (by omega) (Nat.succ_le_of_lt (X0.out.alloc (.cells #[.int .i64 (z k 0), .int .i64 (z k 1 + t), .int .i64 (z k 2), .int .i64 (z k 3)] 35)).lt) ?_
            intro va w2 hown hgrow _ hat
            have e : rowM 4 (laterP z t) k ++ [.int .i64 (z k 0), .int .i64 (z k 1 + t), .int .i64 (z k 2), .int .i64 (z k 3)] = rowM 4 (laterP z t) (k + 1) := rowM_one (fun _ _ _ _ => rfl) rfl
            rw [e] at hown
            have F1 := Lib.hid (four_a (F0.out.alloc (.cells #[.int .i64 (z k 0), .int .i64 (z k 1 + t), .int .i64 (z k 2), .int .i64 (z k 3)] 35)) (Nat.le_succ _) hown hgrow hat)
            have BX1 := Lib.hid ((BX0.out.alloc (.cells #[.int .i64 (z k 0), .int .i64 (z k 1 + t), .int .i64 (z k 2), .int .i64 (z k 3)] 35)).grownR hgrow (fun g hg => by have := RB.out (.slice aA k ac) (by simp) g hg; omega))
            have X1 := Lib.hid ((X0.out.alloc (.cells #[.int .i64 (z k 0), .int .i64 (z k 1 + t), .int .i64 (z k 2), .int .i64 (z k 3)] 35)).grownR hgrow (fun g hg => by have := ((F0.out.alloc (.cells #[.int .i64 (z k 0), .int .i64 (z k 1 + t), .int .i64 (z k 2), .int .i64 (z k 3)] 35)).ra.lt g hg).1; omega))
            clear F0 BX0 X0 hown hgrow hat e
            have p0 := BX1.out.cell 0
            have p1 := BX1.out.cell 1
            have p2 := BX1.out.cell 2
            have p3 := BX1.out.cell 3
            have s0 := X1.out.cell 0
            have s1 := X1.out.cell 1
          )
        | (
            at_builtin
            refine wpList_append_own_at _ rfl _ _ 30 rfl (w.heap.size + 1) 35 i0 (.agg #[.int .i64 0, .int .i64 0, .int .i64 0, .int .i64 0]) 4 32 Try.underlying30 hi hz0 hz1 hz2 rfl (by decide) _ _ _ rfl (F1.out.alloc (.cells #[.int .i64 (z k 0), .int .i64 (z k 1), .int .i64 (t - 1 - z k 2), .int .i64 (t - 1 - z k 3)] 35)).rb ⟨_, 0, none⟩ 1 1 [.int .i64 (z k 0), .int .i64 (z k 1), .int .i64 (t - 1 - z k 2), .int .i64 (t - 1 - z k 3)] rfl rfl (newsM_new (cs := #[.int .i64 (z k 0), .int .i64 (z k 1), .int .i64 (t - 1 - z k 2), .int .i64 (t - 1 - z k 3)])) (by intro u hu; simp at hu; rcases hu with rfl | rfl | rfl | rfl <;> rfl) (by unfold maxLen; omega) (by omega) (Nat.succ_le_of_lt (X1.out.alloc (.cells #[.int .i64 (z k 0), .int .i64 (z k 1), .int .i64 (t - 1 - z k 2), .int .i64 (t - 1 - z k 3)] 35)).lt) ?_
            intro vb w3 hown hgrow _ hat
            have e : rowM 4 (mirrorP z t) k ++ [.int .i64 (z k 0), .int .i64 (z k 1), .int .i64 (t - 1 - z k 2), .int .i64 (t - 1 - z k 3)] = rowM 4 (mirrorP z t) (k + 1) := rowM_one (fun _ _ _ _ => rfl) rfl
            rw [e] at hown
            have F2 := Lib.hid (four_b (F1.out.alloc (.cells #[.int .i64 (z k 0), .int .i64 (z k 1), .int .i64 (t - 1 - z k 2), .int .i64 (t - 1 - z k 3)] 35)) (Nat.le_succ _) hown hgrow hat)
            have BX2 := Lib.hid ((BX1.out.alloc (.cells #[.int .i64 (z k 0), .int .i64 (z k 1), .int .i64 (t - 1 - z k 2), .int .i64 (t - 1 - z k 3)] 35)).grownR hgrow (fun g hg => by have := RB.out (.slice bA k bc) (by simp) g hg; omega))
            have X2 := Lib.hid ((X1.out.alloc (.cells #[.int .i64 (z k 0), .int .i64 (z k 1), .int .i64 (t - 1 - z k 2), .int .i64 (t - 1 - z k 3)] 35)).grownR hgrow (fun g hg => by have := ((F1.out.alloc (.cells #[.int .i64 (z k 0), .int .i64 (z k 1), .int .i64 (t - 1 - z k 2), .int .i64 (t - 1 - z k 3)] 35)).rb.lt g hg).1; omega))
            clear F1 BX1 X1 hown hgrow hat e
            have p0 := BX2.out.cell 0
            have p1 := BX2.out.cell 1
            have p2 := BX2.out.cell 2
            have p3 := BX2.out.cell 3
            have s0 := X2.out.cell 0
            have s1 := X2.out.cell 1
          )
        | (
            at_builtin
            refine wpList_append_own_at _ rfl _ _ 30 rfl (w.heap.size + 1) 35 i0 (.agg #[.int .i64 0, .int .i64 0, .int .i64 0, .int .i64 0]) 4 32 Try.underlying30 hi hz0 hz1 hz2 rfl (by decide) _ _ _ rfl (F2.out.alloc (.cells #[.int .i64 (z k 0), .int .i64 (z k 1), .int .i64 (z k 3), .int .i64 (z k 2)] 35)).rc ⟨_, 0, none⟩ 1 1 [.int .i64 (z k 0), .int .i64 (z k 1), .int .i64 (z k 3), .int .i64 (z k 2)] rfl rfl (newsM_new (cs := #[.int .i64 (z k 0), .int .i64 (z k 1), .int .i64 (z k 3), .int .i64 (z k 2)])) (by intro u hu; simp at hu; rcases hu with rfl | rfl | rfl | rfl <;> rfl) (by unfold maxLen; omega) (by omega) (Nat.succ_le_of_lt (X2.out.alloc (.cells #[.int .i64 (z k 0), .int .i64 (z k 1), .int .i64 (z k 3), .int .i64 (z k 2)] 35)).lt) ?_
            intro vc w4 hown hgrow _ hat
            have e : rowM 4 (backP z) k ++ [.int .i64 (z k 0), .int .i64 (z k 1), .int .i64 (z k 3), .int .i64 (z k 2)] = rowM 4 (backP z) (k + 1) := rowM_one (fun _ _ _ _ => rfl) rfl
            rw [e] at hown
            have F3 := Lib.hid (four_c (F2.out.alloc (.cells #[.int .i64 (z k 0), .int .i64 (z k 1), .int .i64 (z k 3), .int .i64 (z k 2)] 35)) (Nat.le_succ _) hown hgrow hat)
            have BX3 := Lib.hid ((BX2.out.alloc (.cells #[.int .i64 (z k 0), .int .i64 (z k 1), .int .i64 (z k 3), .int .i64 (z k 2)] 35)).grownR hgrow (fun g hg => by have := RB.out (.slice cA k cc) (by simp) g hg; omega))
            have X3 := Lib.hid ((X2.out.alloc (.cells #[.int .i64 (z k 0), .int .i64 (z k 1), .int .i64 (z k 3), .int .i64 (z k 2)] 35)).grownR hgrow (fun g hg => by have := ((F2.out.alloc (.cells #[.int .i64 (z k 0), .int .i64 (z k 1), .int .i64 (z k 3), .int .i64 (z k 2)] 35)).rc.lt g hg).1; omega))
            clear F2 BX2 X2 hown hgrow hat e
            have p0 := BX3.out.cell 0
            have p1 := BX3.out.cell 1
            have p2 := BX3.out.cell 2
            have p3 := BX3.out.cell 3
            have s0 := X3.out.cell 0
            have s1 := X3.out.cell 1
          )
        | (
            at_builtin
            refine wpList_append_own_at _ rfl _ _ 30 rfl (w.heap.size + 1) 35 i0 (.agg #[.int .i64 0, .int .i64 0, .int .i64 0, .int .i64 0]) 4 32 Try.underlying30 hi hz0 hz1 hz2 rfl (by decide) _ _ _ rfl (F3.out.alloc (.cells #[.int .i64 ((selP (spP z p q) k).length : Int), .int .i64 (z k 1), .int .i64 (z k 2), .int .i64 (z k 3)] 35)).rd ⟨_, 0, none⟩ 1 1 [.int .i64 ((selP (spP z p q) k).length : Int), .int .i64 (z k 1), .int .i64 (z k 2), .int .i64 (z k 3)] rfl rfl (newsM_new (cs := #[.int .i64 ((selP (spP z p q) k).length : Int), .int .i64 (z k 1), .int .i64 (z k 2), .int .i64 (z k 3)])) (by intro u hu; simp at hu; rcases hu with rfl | rfl | rfl | rfl <;> rfl) (by unfold maxLen; omega) (by omega) (Nat.succ_le_of_lt (X3.out.alloc (.cells #[.int .i64 ((selP (spP z p q) k).length : Int), .int .i64 (z k 1), .int .i64 (z k 2), .int .i64 (z k 3)] 35)).lt) ?_
            intro vd w5 hown hgrow _ hat
            have e : rowM 4 (numP (pickP z (selP (spP z p q) k))) (selP (spP z p q) k).length ++ [.int .i64 ((selP (spP z p q) k).length : Int), .int .i64 (z k 1), .int .i64 (z k 2), .int .i64 (z k 3)] = rowM 4 (numP (pickP z (selP (spP z p q) k ++ [k]))) ((selP (spP z p q) k).length + 1) := rowM_one (fun i j hi _ => (numP_old hi).symm) (by show [_, _, _, _] = _; unfold numP; simp only [pickP_new]; rfl)
            rw [e] at hown
            have F4 := Lib.hid (four_d (F3.out.alloc (.cells #[.int .i64 ((selP (spP z p q) k).length : Int), .int .i64 (z k 1), .int .i64 (z k 2), .int .i64 (z k 3)] 35)) (Nat.le_succ _) hown hgrow hat)
            have BX4 := Lib.hid ((BX3.out.alloc (.cells #[.int .i64 ((selP (spP z p q) k).length : Int), .int .i64 (z k 1), .int .i64 (z k 2), .int .i64 (z k 3)] 35)).grownR hgrow (fun g hg => by have := RB.out (.slice dA (selP (spP z p q) k).length dc) (by simp) g hg; omega))
            have X4 := Lib.hid ((X3.out.alloc (.cells #[.int .i64 ((selP (spP z p q) k).length : Int), .int .i64 (z k 1), .int .i64 (z k 2), .int .i64 (z k 3)] 35)).grownR hgrow (fun g hg => by have := ((F3.out.alloc (.cells #[.int .i64 ((selP (spP z p q) k).length : Int), .int .i64 (z k 1), .int .i64 (z k 2), .int .i64 (z k 3)] 35)).rd.lt g hg).1; omega))
            clear F3 BX3 X3 hown hgrow hat e
            have p0 := BX4.out.cell 0
            have p1 := BX4.out.cell 1
            have p2 := BX4.out.cell 2
            have p3 := BX4.out.cell 3
            have s0 := X4.out.cell 0
            have s1 := X4.out.cell 1
          ))
      all_goals
        go_roundg (n - (k + 1))
        case measure => omega
        case rel =>
          first
            | (have E := selP_yes (spP_yes (z := z) (k := k) (p := p) (q := q) (by assumption) (by assumption)); exact ⟨k + 1, by omega, rfl, by go_num, (by first | (rw [show upP z (k + 1) = upP z k + 1 from by show (if _ then _ else _) = _; rw [if_pos (by assumption)]]; go_num) | (rw [show upP z (k + 1) = upP z k from by show (if _ then _ else _) = _; rw [if_neg (by omega)]])), Lib.hid (by rw [E]; rw [List.length_append]; exact F4.out), X4⟩)
            | (have E := selP_no (spP_no (k := k) (z := z) (p := p) (q := q) (by omega)); exact ⟨k + 1, by omega, rfl, by go_num, (by first | (rw [show upP z (k + 1) = upP z k + 1 from by show (if _ then _ else _) = _; rw [if_pos (by assumption)]]; go_num) | (rw [show upP z (k + 1) = upP z k from by show (if _ then _ else _) = _; rw [if_neg (by omega)]])), Lib.hid (by rw [E]; exact F3.out), X3⟩)
    · obtain rfl : k = n := by omega
      have BDk := HBD
      have HB := Lib.hid HF.out.bl
      have Wa : Hid (∀ i j, i < k → j < 4 → (Lit.int .i64 (laterP z t i j)).wf = true) := Lib.hid (by
        intro i j hi hj
        have b0 := BDk.out i j hi hj
        have b1 := BDk.out i 1 hi (by omega)
        refine WalkArith.wf_i64 ?_
        unfold laterP
        split <;> omega)
      have Wb : Hid (∀ i j, i < k → j < 4 → (Lit.int .i64 (mirrorP z t i j)).wf = true) := Lib.hid (by
        intro i j hi hj
        have b0 := BDk.out i j hi hj
        have b1 := BDk.out i 2 hi (by omega)
        have b2 := BDk.out i 3 hi (by omega)
        refine WalkArith.wf_i64 ?_
        unfold mirrorP
        split
        · omega
        · split <;> omega)
      have Wc : Hid (∀ i j, i < k → j < 4 → (Lit.int .i64 (backP z i j)).wf = true) := Lib.hid (by
        intro i j hi hj
        have b0 := BDk.out i j hi hj
        have b1 := BDk.out i 2 hi (by omega)
        have b2 := BDk.out i 3 hi (by omega)
        refine WalkArith.wf_i64 ?_
        unfold backP
        split
        · omega
        · split <;> omega)
      have Wd : Hid (∀ i j, i < (selP (spP z p q) k).length → j < 4 → (Lit.int .i64 (numP (pickP z (selP (spP z p q) k)) i j)).wf = true) := Lib.hid (by
        intro i j hi hj
        unfold numP
        split
        · exact WalkArith.wf_i64 (by omega)
        · have hm : (selP (spP z p q) k).getD i 0 ∈ selP (spP z p q) k := by
            rw [List.getD_eq_getElem?_getD, List.getElem?_eq_getElem hi]; simp
          obtain ⟨_, _, _, y⟩ := HR.out _ (selP_lt _ _ _ hm)
          exact (y j hj).2)
      obtain ⟨aA, ae, hv, _, _, hRa⟩ := ownM_rd HF.out.ra Wa.out
      cases hv
      obtain ⟨bA, be, hv, _, _, hRb⟩ := ownM_rd HF.out.rb Wb.out
      cases hv
      obtain ⟨cA, ce, hv, _, _, hRc⟩ := ownM_rd HF.out.rc Wc.out
      cases hv
      obtain ⟨dA, de, hv, _, _, hRd⟩ := ownM_rd HF.out.rd Wd.out
      cases hv
      have Ra := Lib.hid hRa
      have Rb := Lib.hid hRb
      have Rc := Lib.hid hRc
      have Rd := Lib.hid hRd
      have RZ := Lib.hid (HR.out.kept HB.out)
      clear HF hRa hRb hRc hRd Wa Wb Wc Wd HR
      have s0 := HX.out.cell 0
      have s1 := HX.out.cell 1
      have CC := Lib.hid (up_any A c k z wr RZ.out hn)
      go_wp2_with fail
      refine CC.out.mono ?_
      rintro e w20 ⟨rfl, hb⟩
      clear s0 s1 CC
      have Ra := Lib.hid (Ra.out.kept hb)
      have Rb := Lib.hid (Rb.out.kept hb)
      have Rc := Lib.hid (Rc.out.kept hb)
      have Rd := Lib.hid (Rd.out.kept hb)
      have RZ := Lib.hid (RZ.out.kept hb)
      have HX := Lib.hid (HX.out.next hb)
      have HB := Lib.hid (HB.out.trans (hb.mono HB.out.size))
      clear hb
      have s0 := HX.out.cell 0
      have s1 := HX.out.cell 1
      have CC := Lib.hid (later_any A c k z t w20 RZ.out hn ht1 ht2 HBD.out)
      go_wp2_with fail
      refine CC.out.mono ?_
      rintro e w21 ⟨A1, c1, rfl, _, _, hR1, hb⟩
      clear s0 s1 CC
      have Ra := Lib.hid (Ra.out.kept hb)
      have Rb := Lib.hid (Rb.out.kept hb)
      have Rc := Lib.hid (Rc.out.kept hb)
      have Rd := Lib.hid (Rd.out.kept hb)
      have RZ := Lib.hid (RZ.out.kept hb)
      have HX := Lib.hid (HX.out.next hb)
      have HB := Lib.hid (HB.out.trans (hb.mono HB.out.size))
      have s0 := HX.out.cell 0
      have s1 := HX.out.cell 1
      have CC := Lib.hid (equal_pas A1 aA c1 ac k (laterP z t) w21 hR1 Ra.out (by omega))
      clear hb hR1
      go_wp2_with fail
      refine CC.out.mono ?_
      rintro e w' ⟨rfl, qa, rfl⟩
      clear s0 s1 CC
      have Rb := Lib.hid (show RdZ (w21.drewN qa) 4 bA k (mirrorP z t) from Rb.out)
      have Rc := Lib.hid (show RdZ (w21.drewN qa) 4 cA k (backP z) from Rc.out)
      have Rd := Lib.hid (show RdZ (w21.drewN qa) 4 dA (selP (spP z p q) k).length (numP (pickP z (selP (spP z p q) k))) from Rd.out)
      have RZ := Lib.hid (show RdZ (w21.drewN qa) 4 A k z from RZ.out)
      have HX := Lib.hid (HX.out.draw qa)
      have HB := Lib.hid (below_drewN HB.out qa)
      have s0 := HX.out.cell 0
      have s1 := HX.out.cell 1
      have CC := Lib.hid (mirror_any A c k z t (w21.drewN qa) RZ.out hn ht1 ht2 HBD.out)
      go_wp2_with fail
      refine CC.out.mono ?_
      rintro e w22 ⟨A1, c1, rfl, _, _, hR1, hb⟩
      clear s0 s1 CC
      have Rb := Lib.hid (Rb.out.kept hb)
      have Rc := Lib.hid (Rc.out.kept hb)
      have Rd := Lib.hid (Rd.out.kept hb)
      have RZ := Lib.hid (RZ.out.kept hb)
      have HX := Lib.hid (HX.out.next hb)
      have HB := Lib.hid (HB.out.trans (hb.mono HB.out.size))
      have s0 := HX.out.cell 0
      have s1 := HX.out.cell 1
      have CC := Lib.hid (equal_pas A1 bA c1 bc k (mirrorP z t) w22 hR1 Rb.out (by omega))
      clear hb hR1
      go_wp2_with fail
      refine CC.out.mono ?_
      rintro e w' ⟨rfl, qb, rfl⟩
      clear s0 s1 CC
      have Rc := Lib.hid (show RdZ (w22.drewN qb) 4 cA k (backP z) from Rc.out)
      have Rd := Lib.hid (show RdZ (w22.drewN qb) 4 dA (selP (spP z p q) k).length (numP (pickP z (selP (spP z p q) k))) from Rd.out)
      have RZ := Lib.hid (show RdZ (w22.drewN qb) 4 A k z from RZ.out)
      have HX := Lib.hid (HX.out.draw qb)
      have HB := Lib.hid (below_drewN HB.out qb)
      have s0 := HX.out.cell 0
      have s1 := HX.out.cell 1
      have CC := Lib.hid (back_any A c k z (w22.drewN qb) RZ.out hn)
      go_wp2_with fail
      refine CC.out.mono ?_
      rintro e w23 ⟨A1, c1, rfl, _, _, hR1, hb⟩
      clear s0 s1 CC
      have Rc := Lib.hid (Rc.out.kept hb)
      have Rd := Lib.hid (Rd.out.kept hb)
      have RZ := Lib.hid (RZ.out.kept hb)
      have HX := Lib.hid (HX.out.next hb)
      have HB := Lib.hid (HB.out.trans (hb.mono HB.out.size))
      have s0 := HX.out.cell 0
      have s1 := HX.out.cell 1
      have CC := Lib.hid (equal_pas A1 cA c1 cc k (backP z) w23 hR1 Rc.out (by omega))
      clear hb hR1
      go_wp2_with fail
      refine CC.out.mono ?_
      rintro e w' ⟨rfl, qc, rfl⟩
      clear s0 s1 CC
      have Rd := Lib.hid (show RdZ (w23.drewN qc) 4 dA (selP (spP z p q) k).length (numP (pickP z (selP (spP z p q) k))) from Rd.out)
      have RZ := Lib.hid (show RdZ (w23.drewN qc) 4 A k z from RZ.out)
      have HX := Lib.hid (HX.out.draw qc)
      have HB := Lib.hid (below_drewN HB.out qc)
      have s0 := HX.out.cell 0
      have s1 := HX.out.cell 1
      have CC := Lib.hid (within_any A c k z p q (w23.drewN qc) RZ.out hn)
      go_wp2_with fail
      refine CC.out.mono ?_
      rintro e w24 ⟨A1, c1, rfl, _, _, hR1, hb⟩
      clear s0 s1 CC
      have Rd := Lib.hid (Rd.out.kept hb)
      have RZ := Lib.hid (RZ.out.kept hb)
      have HX := Lib.hid (HX.out.next hb)
      have HB := Lib.hid (HB.out.trans (hb.mono HB.out.size))
      have s0 := HX.out.cell 0
      have s1 := HX.out.cell 1
      have CC := Lib.hid (equal_pas A1 dA c1 dc (selP (spP z p q) k).length (numP (pickP z (selP (spP z p q) k))) w24 hR1 Rd.out (by omega))
      clear hb hR1
      go_wp2_with fail
      refine CC.out.mono ?_
      rintro e w' ⟨rfl, qd, rfl⟩
      clear s0 s1 CC
      have RZ := Lib.hid (show RdZ (w24.drewN qd) 4 A k z from RZ.out)
      have HX := Lib.hid (HX.out.draw qd)
      have HB := Lib.hid (below_drewN HB.out qd)
      have e1 : (((upP z k : Nat) : Int) == ((upP z k : Nat) : Int)) = true := by simp
      have e2 : (((k : Int) - (upP z k : Nat)) == ((k : Int) - (upP z k : Nat))) = true := by simp
      have e3 : (upP z k == upP z k) = true := by simp
      have CC := Lib.hid (fun W => alive62 W)
      go_wp2_with (go_at_call 24; refine (CC.out _).mono ?_; rintro e w' ⟨rfl, hb⟩)
      go_ret
      exact ⟨rfl, HB.out.trans (hb.mono HB.out.size)⟩
set_option maxRecDepth 100000 in
theorem walk {A : Option Addr} {c n : Nat} {z : Nat → Nat → Int} {t p q : Int} {w : World} (hc : n ≤ c) (hm : c ≤ maxLen) (hr : RdZ w 4 A n z) (_ : A = none → c = 0) (_ : (Lit.int .i64 t).wf = true) (_ : (Lit.int .i64 p).wf = true) (_ : (Lit.int .i64 q).wf = true) :
    Calls Try.prog 4 #[.slice A n c, .int .i64 t, .agg #[.int .i64 p, .int .i64 q]] w fun e w' => e = .returned (.bool true) ∧ Below w.heap.size w w' := by
  by_cases h1 : -1099511627776 ≤ t
  · by_cases h2 : t ≤ 1099511627776
    · exact walk_in hc hm hr h1 h2
    · have h2' : (1099511627776 : Int) < t := by omega
      have HB0 := Lib.hid (show Below w.heap.size w (w.alloc (.cells #[.int .i64 p, .int .i64 q] 32)) from (Below.refl _ _).alloc (Nat.le_refl _) _)
      have G := Lib.hid (great_any A c n z _ (hr.kept HB0.out) (by unfold maxLen at hm; omega))
      clear hr
      go_enter Try.func4, Try.ntmps4
      go_wp2_with fail
      refine G.out.mono ?_
      rintro e w1 ⟨g, rfl, hS, hb1⟩
      have HB1 := Lib.hid (HB0.out.trans (hb1.mono HB0.out.size))
      clear hb1 HB0 G hS
      cases g
      all_goals
        go_wp2_with fail
        go_ret
        exact ⟨rfl, HB1.out⟩
  · have h1' : t < (-1099511627776 : Int) := by omega
    have HB0 := Lib.hid (show Below w.heap.size w (w.alloc (.cells #[.int .i64 p, .int .i64 q] 32)) from (Below.refl _ _).alloc (Nat.le_refl _) _)
    have G := Lib.hid (great_any A c n z _ (hr.kept HB0.out) (by unfold maxLen at hm; omega))
    clear hr
    go_enter Try.func4, Try.ntmps4
    go_wp2_with fail
    refine G.out.mono ?_
    rintro e w1 ⟨g, rfl, hS, hb1⟩
    have HB1 := Lib.hid (HB0.out.trans (hb1.mono HB0.out.size))
    clear hb1 HB0 G hS
    cases g
    all_goals
      go_wp2_with fail
      go_ret
      exact ⟨rfl, HB1.out⟩

end Go.Proofs.Yteebeiflipfbkaa.peopleTurns
