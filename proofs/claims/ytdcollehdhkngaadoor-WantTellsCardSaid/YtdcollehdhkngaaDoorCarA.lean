/- What a car wants: riders' floors, calls. -/
import Derived.Test.YtdcollehdhkngaaDoorRows
import Derived.Test.YtdcollehdhkngaaDoorRowKit
import Derived.Test.YtdcollehdhkngaaDoorSlicesEq
import Derived.Test.YtdcollehdhkngaaDoorRowL
import Derived.Test.YtdcollehdhkngaaDoorMakeI
import Derived.Test.YtdcollehdhkngaaDoorBlocks
import Derived.Test.YtdcollehdhkngaaDoorBitsMath
import Derived.Test.YtdcollehdhkngaaDoorBitsA2
import Derived.Test.YtdcollehdhkngaaDoorBitsD
import Derived.Test.YtdcollehdhkngaaDoorBitsE
import Derived.Test.YtdcollehdhkngaaDoorBitsH
import Derived.Test.YtdcollehdhkngaaDoorBitsK
import Derived.Test.YtdcollehdhkngaaDoorBitsP
import Derived.Test.YtdcollehdhkngaaDoorBitsS
import Derived.Test.YtdcollehdhkngaaDoorRowS
import Derived.Test.YtdcollehdhkngaaDoorRowZ
import Derived.WalkKit
import Derived.Deep.LoopGhost
import Derived.IntWalk
import Derived.Lib.Hide
import Derived.WalkSpells
import Derived.WalkLawsBesides
import Derived.Laws.CopyOwn
import Derived.Deep.QuietTactic
import Derived.Deep.RegionHeld3
import Derived.BigQuiet
import Derived.BigRegion
namespace Go.Proofs.YtdcollehdhkngaaDoor
open Go.RowKit
set_option linter.unusedSimpArgs false
set_option linter.unusedVariables false
/-- a car as a value -/
def carV (p d md l : Int) (wa : Bool) (A : Option Addr) (n c : Nat) : Value := .agg #[.int .i64 p, .int .i64 d, .int .i64 md, .int .i64 l, .bool wa, .slice A n c]
/-- the floors that the first k riders want to -/
def rdF (z : Nat → Nat → Int) : Nat → Nat → Bool
  | 0 => fun _ => false
  | k + 1 => withF (rdF z k) (z k 1)
structure RdW (w X : World) (x y : Nat) : Prop where
  r : Blk X (w.heap.size + 1) 24 #[.int .u64 0, .int .u64 0]
  s : Blk X (w.heap.size + 1 + 1) 24 #[.int .u64 x, .int .u64 y]
  e : Below w.heap.size w X
theorem set_none : setV (fun _ => false) = .agg #[.int .u64 0, .int .u64 0] := by
  unfold setV
  rw [word_none.1, word_none.2]
  rfl
set_option maxRecDepth 100000 in
set_option maxHeartbeats 1000000 in
theorem rides_any (p d md l : Int) (wa : Bool) (A : Option Addr) (n c : Nat) (z : Nat → Nat → Int) (w : World) (hr : RdZ w 2 A n z) (hl : n ≤ 1000000) :
    Calls Tryd.prog 33 #[carV p d md l wa A n c] w fun e w' => e = .returned (setV (rdF z n)) ∧ Below w.heap.size w w' := by
  have HR := Lib.hid hr
  have hnI : (n : Int) ≤ 1000000 := by omega
  clear hr
  unfold carV
  go_enter Tryd.func33, Tryd.ntmps33
  go_wp2_with fail
  have H0 : RdW w (((w.alloc (.cells #[.int .i64 p, .int .i64 d, .int .i64 md, .int .i64 l, .bool wa, .slice A n c] 47)).alloc (.cells #[.int .u64 0, .int .u64 0] 24)).alloc (.cells #[.int .u64 0, .int .u64 0] 24)) 0 0 :=
    ⟨by have := (Blk.new (w.alloc (.cells #[.int .i64 p, .int .i64 d, .int .i64 md, .int .i64 l, .bool wa, .slice A n c] 47)) #[.int .u64 0, .int .u64 0] 24).alloc (.cells #[.int .u64 0, .int .u64 0] 24); rwa [World.size_alloc] at this,
     by have := Blk.new ((w.alloc (.cells #[.int .i64 p, .int .i64 d, .int .i64 md, .int .i64 l, .bool wa, .slice A n c] 47)).alloc (.cells #[.int .u64 0, .int .u64 0] 24)) #[.int .u64 0, .int .u64 0] 24; rwa [World.size_alloc, World.size_alloc] at this,
     (((Below.refl w.heap.size w).alloc (Nat.le_refl _) _).alloc (by simp) _).alloc (by simp; omega) _⟩
  have H1 := Lib.hid H0
  clear H0
  go_loopg [9] n (fun g i wr => ∃ k : Nat, k ≤ n ∧ g = n - k ∧ i = .int .i64 k ∧ Hid (RdW w wr (wordX (rdF z k)) (wordY (rdF z k))))
  case atStart => exact ⟨0, by omega, rfl, rfl, Lib.hid (by show RdW w _ (wordX fun _ => false) (wordY fun _ => false); rw [word_none.1, word_none.2]; exact H1.out)⟩
  case round =>
    obtain ⟨k, hk, rfl, rfl, HO⟩ := hrel
    clear H1
    by_cases h : k < n
    · obtain ⟨b, off, rfl, hlt, hc⟩ := rdZ_row (HR.out.kept HO.out.e) (by omega) (by omega)
      have ck0 := hc k 0 h (by omega)
      have ck1 := hc k 1 h (by omega)
      simp only [Nat.add_zero] at ck0
      have WA := with_any (rdF z k) (z k 1)
      have E : withF (rdF z k) (z k 1) = rdF z (k + 1) := rfl
      rw [E] at WA
      unfold setV at WA
      obtain ⟨id, hid⟩ : ∃ i, z k 0 = i := ⟨_, rfl⟩
      obtain ⟨zz, hz⟩ : ∃ i, z k 1 = i := ⟨_, rfl⟩
      rw [hid] at ck0
      rw [hz] at ck1 WA
      obtain ⟨x, hx⟩ : ∃ x, wordX (rdF z k) = x := ⟨_, rfl⟩
      obtain ⟨y, hy⟩ : ∃ y, wordY (rdF z k) = y := ⟨_, rfl⟩
      obtain ⟨x', hx'⟩ : ∃ x, wordX (rdF z (k + 1)) = x := ⟨_, rfl⟩
      obtain ⟨y', hy'⟩ : ∃ y, wordY (rdF z (k + 1)) = y := ⟨_, rfl⟩
      rw [hx, hy] at HO WA
      rw [hx', hy'] at WA
      have W1 := Lib.hid WA
      have HX := Lib.hid (And.intro hx' hy')
      have hki : (k : Int) < n := by omega
      obtain ⟨s0, s1, t0, t1⟩ := HO.out.s.two
      have BI := HO.out.s.lt
      clear hz hid hx hy hx' hy' hc E WA
      go_wp2_with fail
      refine (W1.out _).mono ?_
      rintro e w2 ⟨rfl, hb2⟩
      have S2 := (HO.out.s.alloc (.cells #[.int .i64 id, .int .i64 zz] 96)).next hb2
      have R2 := (HO.out.r.alloc (.cells #[.int .i64 id, .int .i64 zz] 96)).next hb2
      have E2 := (HO.out.e.alloc HO.out.e.size (.cells #[.int .i64 id, .int .i64 zz] 96)).trans (hb2.mono (HO.out.e.alloc HO.out.e.size (.cells #[.int .i64 id, .int .i64 zz] 96)).size)
      obtain ⟨p0, p1, q0, q1⟩ := S2.two
      have H2 : RdW w ((w2.setCell ⟨w.heap.size + 1 + 1, 0, none⟩ (.int .u64 x')).setCell ⟨w.heap.size + 1 + 1, 1, none⟩ (.int .u64 y')) x' y' := ⟨(R2.far (by show w.heap.size + 1 ≠ w.heap.size + 1 + 1; omega) _).far (by show w.heap.size + 1 ≠ w.heap.size + 1 + 1; omega) _, S2.put2 _ _, (E2.setCell (by show w.heap.size ≤ w.heap.size + 1 + 1; omega) _).setCell (by show w.heap.size ≤ w.heap.size + 1 + 1; omega) _⟩
      have H3 := Lib.hid H2
      clear H2 S2 R2 E2 hb2 s0 s1 t0 t1
      go_wp2_with fail
      go_roundg (n - (k + 1))
      case measure => omega
      case rel => exact ⟨k + 1, by omega, rfl, by go_num, Lib.hid (by rw [HX.out.1, HX.out.2]; exact H3.out)⟩
    · obtain rfl : k = n := by omega
      have hkk : ¬ ((k : Int) < k) := by omega
      have E := Lib.hid (HO.out.e)
      obtain ⟨s0, s1, t0, t1⟩ := HO.out.s.two
      obtain ⟨r0, r1, u0, u1⟩ := HO.out.r.two
      have SV := Lib.hid (show setV (rdF z k) = .agg #[.int .u64 (wordX (rdF z k)), .int .u64 (wordY (rdF z k))] from rfl)
      obtain ⟨x, hx⟩ : ∃ x, wordX (rdF z k) = x := ⟨_, rfl⟩
      obtain ⟨y, hy⟩ : ∃ y, wordY (rdF z k) = y := ⟨_, rfl⟩
      rw [hx] at s0
      rw [hy] at s1
      rw [hx, hy] at SV
      clear hx hy HO
      go_wp2_with fail
      refine bodyPost_ret (v := .agg #[.int .u64 x, .int .u64 y]) (by simp [results, Tryd.results33, go_sem, *]) rfl ⟨by rw [SV.out], (E.out.setCell (p := ⟨w.heap.size + 1, 0, none⟩) (by show w.heap.size ≤ w.heap.size + 1; omega) _).setCell (p := ⟨w.heap.size + 1, 1, none⟩) (by show w.heap.size ≤ w.heap.size + 1; omega) _⟩
set_option maxRecDepth 100000 in
set_option maxHeartbeats 1000000 in
theorem full_cap (p d md l : Int) (wa : Bool) (A : Option Addr) (n c : Nat) (cap : Int) (w : World) :
    Calls Tryd.prog 35 #[carV p d md l wa A n c, .int .i64 cap] w fun e w' => e = .returned (.bool (decide (cap ≤ (n : Int)))) ∧ Below w.heap.size w w' := by
  unfold carV
  go_enter Tryd.func35, Tryd.ntmps35
  go_wp2_with fail
  go_ret
  exact ⟨rfl, (Below.refl w.heap.size w).alloc (Nat.le_refl _) _⟩
/-- the floors of calls that a car may stop for -/
def laF (n : Nat) (cap : Int) (G : Nat → Bool) (j : Nat) : Bool := if cap ≤ (n : Int) then false else G j
theorem laF_full {n : Nat} {cap : Int} (h : cap ≤ (n : Int)) (G : Nat → Bool) : setV (laF n cap G) = .agg #[.int .u64 0, .int .u64 0] := by
  rw [← set_none]; congr 1; funext j; unfold laF; rw [if_pos h]
theorem laF_room {n : Nat} {cap : Int} (h : ¬ cap ≤ (n : Int)) (G : Nat → Bool) : setV (laF n cap G) = setV G := by
  congr 1; funext j; unfold laF; rw [if_neg h]
set_option maxRecDepth 100000 in
set_option maxHeartbeats 1000000 in
theorem lands_any (p d md l : Int) (wa : Bool) (A : Option Addr) (n c : Nat) (cap : Int) (G : Nat → Bool) (w : World) :
    Calls Tryd.prog 37 #[carV p d md l wa A n c, .int .i64 cap, setV G] w fun e w' => e = .returned (setV (laF n cap G)) ∧ Below w.heap.size w w' := by
  have FC := Lib.hid fun w => full_cap p d md l wa A n c cap w
  by_cases h : cap ≤ (n : Int)
  · rw [laF_full h]
    rw [decide_eq_true h] at FC
    unfold carV at FC ⊢
    unfold setV
    obtain ⟨x, hx⟩ : ∃ x, wordX G = x := ⟨_, rfl⟩
    obtain ⟨y, hy⟩ : ∃ y, wordY G = y := ⟨_, rfl⟩
    rw [hx, hy]
    clear hx hy
    go_enter Tryd.func37, Tryd.ntmps37
    go_wp2_with fail
    have bS := Blk.new ((w.alloc (.cells #[.int .i64 p, .int .i64 d, .int .i64 md, .int .i64 l, .bool wa, .slice A n c] 47)).alloc (.cells #[.int .u64 x, .int .u64 y] 24)) #[.int .u64 0, .int .u64 0] 24
    rw [World.size_alloc, World.size_alloc] at bS
    have BE : Below w.heap.size w (((w.alloc (.cells #[.int .i64 p, .int .i64 d, .int .i64 md, .int .i64 l, .bool wa, .slice A n c] 47)).alloc (.cells #[.int .u64 x, .int .u64 y] 24)).alloc (.cells #[.int .u64 0, .int .u64 0] 24)) := (((Below.refl w.heap.size w).alloc (Nat.le_refl _) _).alloc (by simp) _).alloc (by simp; omega) _
    refine (FC.out _).mono ?_
    rintro e w2 ⟨rfl, hb⟩
    obtain ⟨s0, s1, t0, t1⟩ := (bS.next hb).two
    have E2 := Lib.hid (BE.trans (hb.mono BE.size))
    clear hb bS BE
    go_wp2_with fail
    refine bodyPost_ret (v := .agg #[.int .u64 0, .int .u64 0]) (by simp [results, Tryd.results37, go_sem, *]) rfl ⟨rfl, (E2.out.setCell (p := ⟨w.heap.size + 1 + 1, 0, none⟩) (by show w.heap.size ≤ w.heap.size + 1 + 1; omega) _).setCell (p := ⟨w.heap.size + 1 + 1, 1, none⟩) (by show w.heap.size ≤ w.heap.size + 1 + 1; omega) _⟩
  · rw [laF_room h]
    rw [decide_eq_false h] at FC
    unfold carV at FC ⊢
    unfold setV
    obtain ⟨x, hx⟩ : ∃ x, wordX G = x := ⟨_, rfl⟩
    obtain ⟨y, hy⟩ : ∃ y, wordY G = y := ⟨_, rfl⟩
    rw [hx, hy]
    clear hx hy
    go_enter Tryd.func37, Tryd.ntmps37
    go_wp2_with fail
    have bS := Blk.new ((w.alloc (.cells #[.int .i64 p, .int .i64 d, .int .i64 md, .int .i64 l, .bool wa, .slice A n c] 47)).alloc (.cells #[.int .u64 x, .int .u64 y] 24)) #[.int .u64 0, .int .u64 0] 24
    rw [World.size_alloc, World.size_alloc] at bS
    have bG := (Blk.new (w.alloc (.cells #[.int .i64 p, .int .i64 d, .int .i64 md, .int .i64 l, .bool wa, .slice A n c] 47)) #[.int .u64 x, .int .u64 y] 24).alloc (.cells #[.int .u64 0, .int .u64 0] 24)
    rw [World.size_alloc] at bG
    have BE : Below w.heap.size w (((w.alloc (.cells #[.int .i64 p, .int .i64 d, .int .i64 md, .int .i64 l, .bool wa, .slice A n c] 47)).alloc (.cells #[.int .u64 x, .int .u64 y] 24)).alloc (.cells #[.int .u64 0, .int .u64 0] 24)) := (((Below.refl w.heap.size w).alloc (Nat.le_refl _) _).alloc (by simp) _).alloc (by simp; omega) _
    refine (FC.out _).mono ?_
    rintro e w2 ⟨rfl, hb⟩
    obtain ⟨s0, s1, t0, t1⟩ := (bS.next hb).two
    obtain ⟨g0, g1, _, _⟩ := (bG.next hb).two
    have E2 := Lib.hid (BE.trans (hb.mono BE.size))
    clear hb bS bG BE
    go_wp2_with fail
    refine bodyPost_ret (v := .agg #[.int .u64 x, .int .u64 y]) (by simp [results, Tryd.results37, go_sem, *]) rfl ⟨rfl, (E2.out.setCell (p := ⟨w.heap.size + 1 + 1, 0, none⟩) (by show w.heap.size ≤ w.heap.size + 1 + 1; omega) _).setCell (p := ⟨w.heap.size + 1 + 1, 1, none⟩) (by show w.heap.size ≤ w.heap.size + 1 + 1; omega) _⟩
end Go.Proofs.YtdcollehdhkngaaDoor
