/- Joined kit texts: WantA CarA CarB FaceA. -/
import Derived.Test.YtffcmfpadaebdaaRows
import Derived.Test.YtffcmfpadaebdaaKitM
import Derived.Test.YtffcmfpadaebdaaBitM
import Derived.WalkKit
import Derived.IntWalk
import Derived.Lib.Hide
import Derived.WalkSpells
import Derived.WalkLawsBesides
import Derived.Laws.CopyOwn
import Derived.Deep.QuietTactic
import Derived.Deep.RegionHeld3
import Derived.BigQuiet
import Derived.BigRegion
import Derived.Deep.LoopGhost
import Derived.DeepKeys
namespace Go.Proofs.Ytffcmfpadaebdaa
open Go.RowKit
set_option linter.unusedSimpArgs false
set_option linter.unusedVariables false
/-- what lies on from a floor in a direction -/
def byF (F : Nat → Bool) (f d : Int) (j : Nat) : Bool := if 0 < d then F j && decide (f < (j : Int)) else if d < 0 then F j && decide ((j : Int) < f) else false
theorem by_up {F : Nat → Bool} {f d : Int} (h : 0 < d) : setV (woutF (fun j => F j && !lowF f j) f) = setV (byF F f d) := setV_congr fun j _ => by
  unfold woutF byF lowF
  rw [if_pos h]
  show (F j && !decide ((j : Int) < f) && !((j : Int) == f)) = (F j && decide (f < (j : Int)))
  rcases Int.lt_trichotomy (j : Int) f with h1 | h1 | h1
  · rw [decide_eq_true h1, decide_eq_false (show ¬ f < (j : Int) by omega)]; simp
  · have e : ((j : Int) == f) = true := by simp [h1]
    rw [e, decide_eq_false (show ¬ f < (j : Int) by omega)]; simp
  · have e : ((j : Int) == f) = false := by rw [beq_eq_false_iff_ne]; omega
    rw [e, decide_eq_false (show ¬ (j : Int) < f by omega), decide_eq_true h1]; simp
theorem by_down {F : Nat → Bool} {f d : Int} (h : d < 0) : (setV fun j => F j && lowF f j) = setV (byF F f d) := setV_congr fun j _ => by
  unfold byF lowF
  rw [if_neg (by omega), if_pos h]
theorem by_none {F : Nat → Bool} {f d : Int} (h : d = 0) : setV (byF F f d) = .agg #[.int .u64 0, .int .u64 0] := by
  subst h
  have : setV (byF F f 0) = setV fun _ => false := setV_congr fun j _ => by unfold byF; simp
  rw [this]
  unfold setV
  rw [word_none.1, word_none.2]
  rfl
set_option maxRecDepth 100000 in
set_option maxHeartbeats 1000000 in
theorem beyond_any (F : Nat → Bool) (f d : Int) (w : World) : Calls Try.prog 62 #[setV F, .int .i64 f, .int .i64 d] w fun e w' => e = .returned (setV (byF F f d)) ∧ Below w.heap.size w w' := by
  rcases (show 0 < d ∨ d < 0 ∨ d = 0 by omega) with h | h | h
  · have PF := from_any F f
    have PW := wout_any (fun j => F j && !lowF f j) f
    rw [by_up h] at PW
    unfold setV at PF PW ⊢
    obtain ⟨x, hX⟩ : ∃ x, wordX F = x := ⟨_, rfl⟩
    obtain ⟨y, hY⟩ : ∃ y, wordY F = y := ⟨_, rfl⟩
    obtain ⟨p, hP⟩ : ∃ x, wordX (fun j => F j && !lowF f j) = x := ⟨_, rfl⟩
    obtain ⟨q, hQ⟩ : ∃ y, wordY (fun j => F j && !lowF f j) = y := ⟨_, rfl⟩
    obtain ⟨r, hR⟩ : ∃ x, wordX (byF F f d) = x := ⟨_, rfl⟩
    obtain ⟨t, hT⟩ : ∃ y, wordY (byF F f d) = y := ⟨_, rfl⟩
    simp only [hX, hY, hP, hQ, hR, hT] at PF PW ⊢
    have PFh := Lib.hid PF
    have PWh := Lib.hid PW
    clear PF PW hX hY hP hQ hR hT
    go_enter Try.func62, Try.ntmps62
    go_wp2_with fail
    obtain ⟨B1, B2, _, BE⟩ := two_blk (w := w) (Below.refl _ ((w.alloc (.cells #[(.int .u64 x : Value), .int .u64 y] 32)).alloc (.cells #[.int .u64 0, .int .u64 0] 32)))
    obtain ⟨V, hV⟩ : ∃ V, (w.alloc (.cells #[(.int .u64 x : Value), .int .u64 y] 32)).alloc (.cells #[.int .u64 0, .int .u64 0] 32) = V := ⟨_, rfl⟩
    rw [hV] at B1 B2 BE ⊢
    have B2h := Lib.hid B2
    have BEh := Lib.hid BE
    clear hV B1 B2 BE
    refine (PFh.out _).mono ?_
    rintro e w1 ⟨rfl, hb⟩
    have B3 := Lib.hid (B2h.out.next hb)
    have E3 := Lib.hid (BEh.out.trans (hb.mono BEh.out.size))
    clear hb
    go_wp2_with fail
    refine (PWh.out _).mono ?_
    rintro e w2 ⟨rfl, hb⟩
    obtain ⟨c0, c1, f0, f1⟩ := (B3.out.next hb).two
    have E4 := Lib.hid (E3.out.trans (hb.mono E3.out.size))
    clear hb
    go_wp2_with fail
    refine bodyPost_ret (v := .agg #[.int .u64 r, .int .u64 t]) (by simp [results, Try.results62, go_sem, *]) rfl ⟨rfl, (E4.out.setCell (by show w.heap.size ≤ w.heap.size + 1; omega) _).setCell (by show w.heap.size ≤ w.heap.size + 1; omega) _⟩
  · have PB := below_any F f
    rw [by_down h] at PB
    unfold setV at PB ⊢
    obtain ⟨x, hX⟩ : ∃ x, wordX F = x := ⟨_, rfl⟩
    obtain ⟨y, hY⟩ : ∃ y, wordY F = y := ⟨_, rfl⟩
    obtain ⟨r, hR⟩ : ∃ x, wordX (byF F f d) = x := ⟨_, rfl⟩
    obtain ⟨t, hT⟩ : ∃ y, wordY (byF F f d) = y := ⟨_, rfl⟩
    simp only [hX, hY, hR, hT] at PB ⊢
    have PBh := Lib.hid PB
    clear PB hX hY hR hT
    go_enter Try.func62, Try.ntmps62
    go_wp2_with fail
    obtain ⟨B1, B2, _, BE⟩ := two_blk (w := w) (Below.refl _ ((w.alloc (.cells #[(.int .u64 x : Value), .int .u64 y] 32)).alloc (.cells #[.int .u64 0, .int .u64 0] 32)))
    obtain ⟨V, hV⟩ : ∃ V, (w.alloc (.cells #[(.int .u64 x : Value), .int .u64 y] 32)).alloc (.cells #[.int .u64 0, .int .u64 0] 32) = V := ⟨_, rfl⟩
    rw [hV] at B1 B2 BE ⊢
    have B2h := Lib.hid B2
    have BEh := Lib.hid BE
    clear hV B1 B2 BE
    refine (PBh.out _).mono ?_
    rintro e w2 ⟨rfl, hb⟩
    obtain ⟨c0, c1, f0, f1⟩ := (B2h.out.next hb).two
    have E4 := Lib.hid (BEh.out.trans (hb.mono BEh.out.size))
    clear hb
    go_wp2_with fail
    refine bodyPost_ret (v := .agg #[.int .u64 r, .int .u64 t]) (by simp [results, Try.results62, go_sem, *]) rfl ⟨rfl, (E4.out.setCell (by show w.heap.size ≤ w.heap.size + 1; omega) _).setCell (by show w.heap.size ≤ w.heap.size + 1; omega) _⟩
  · rw [by_none h]
    subst h
    unfold setV
    go_enter Try.func62, Try.ntmps62
    go_wp2_with fail
    refine bodyPost_ret (v := .agg #[.int .u64 0, .int .u64 0]) (by simp [results, Try.results62, go_sem, *]) rfl ⟨rfl, ?_⟩
    first
      | exact ((Below.refl w.heap.size w).alloc (Nat.le_refl _) _).alloc (by simp) _
      | exact Below.setCell (p := ⟨w.heap.size + 1, 1, none⟩) (Below.setCell (p := ⟨w.heap.size + 1, 0, none⟩) (((Below.refl w.heap.size w).alloc (Nat.le_refl _) _).alloc (by simp) _) (by show w.heap.size ≤ w.heap.size + 1; omega) _) (by show w.heap.size ≤ w.heap.size + 1; omega) _
end Go.Proofs.Ytffcmfpadaebdaa


namespace Go.Proofs.Ytffcmfpadaebdaa
open Go.RowKit
set_option linter.unusedSimpArgs false
set_option linter.unusedVariables false
/-- a car as a value -/
def carV (p d md l : Int) (wa : Bool) (A : Option Addr) (n c : Nat) : Value := .agg #[.int .i64 p, .int .i64 d, .int .i64 md, .int .i64 l, .bool wa, .slice A n c]
/-- the floors that the first k riders want to -/
def rdF (z : Nat → Nat → Int) : Nat → Nat → Bool
  | 0 => fun _ => false
  | k + 1 => withF (rdF z k) (z k 1)
structure RdW (w X : World) (x y : Nat) : Prop where
  r : Blk X (w.heap.size + 1) 32 #[.int .u64 0, .int .u64 0]
  s : Blk X (w.heap.size + 1 + 1) 32 #[.int .u64 x, .int .u64 y]
  e : Below w.heap.size w X
theorem set_none : setV (fun _ => false) = .agg #[.int .u64 0, .int .u64 0] := by
  unfold setV
  rw [word_none.1, word_none.2]
  rfl
set_option maxRecDepth 100000 in
set_option maxHeartbeats 1000000 in
theorem rides_any (p d md l : Int) (wa : Bool) (A : Option Addr) (n c : Nat) (z : Nat → Nat → Int) (w : World) (hr : RdZ w 2 A n z) (hl : n ≤ 1000000) :
    Calls Try.prog 43 #[carV p d md l wa A n c] w fun e w' => e = .returned (setV (rdF z n)) ∧ Below w.heap.size w w' := by
  have HR := Lib.hid hr
  have hnI : (n : Int) ≤ 1000000 := by omega
  clear hr
  unfold carV
  go_enter Try.func43, Try.ntmps43
  go_wp2_with fail
  have H0 : RdW w (((w.alloc (.cells #[.int .i64 p, .int .i64 d, .int .i64 md, .int .i64 l, .bool wa, .slice A n c] 29)).alloc (.cells #[.int .u64 0, .int .u64 0] 32)).alloc (.cells #[.int .u64 0, .int .u64 0] 32)) 0 0 :=
    ⟨by have := (Blk.new (w.alloc (.cells #[.int .i64 p, .int .i64 d, .int .i64 md, .int .i64 l, .bool wa, .slice A n c] 29)) #[.int .u64 0, .int .u64 0] 32).alloc (.cells #[.int .u64 0, .int .u64 0] 32); rwa [World.size_alloc] at this,
     by have := Blk.new ((w.alloc (.cells #[.int .i64 p, .int .i64 d, .int .i64 md, .int .i64 l, .bool wa, .slice A n c] 29)).alloc (.cells #[.int .u64 0, .int .u64 0] 32)) #[.int .u64 0, .int .u64 0] 32; rwa [World.size_alloc, World.size_alloc] at this,
     (((Below.refl w.heap.size w).alloc (Nat.le_refl _) _).alloc (by simp) _).alloc (by simp; omega) _⟩
  have H1 := Lib.hid H0
  clear H0
  go_loopg [9] n (fun g i wr => ∃ k : Nat, k ≤ n ∧ g = n - k ∧ i = .int .i64 k ∧ Hid (RdW w wr (wordX (rdF z k)) (wordY (rdF z k))))
  case atStart => exact ⟨0, by omega, rfl, rfl, Lib.hid (by show RdW w _ (wordX fun _ => false) (wordY fun _ => false); rw [word_none.1, word_none.2]; exact H1.out)⟩
  case round =>
    obtain ⟨k, hk, rfl, rfl, HO⟩ := hrel
    clear H1
    by_cases h : k < n
    · obtain ⟨b, off, rfl, hlt, hc⟩ := rdZ_row (HR.out.kept HO.out.e) (by omega) (by omega)
      have ck0 := hc k 0 h (by omega)
      have ck1 := hc k 1 h (by omega)
      simp only [Nat.add_zero] at ck0
      have WA := with_any (rdF z k) (z k 1)
      have E : withF (rdF z k) (z k 1) = rdF z (k + 1) := rfl
      rw [E] at WA
      unfold setV at WA
      obtain ⟨id, hid⟩ : ∃ i, z k 0 = i := ⟨_, rfl⟩
      obtain ⟨zz, hz⟩ : ∃ i, z k 1 = i := ⟨_, rfl⟩
      rw [hid] at ck0
      rw [hz] at ck1 WA
      obtain ⟨x, hx⟩ : ∃ x, wordX (rdF z k) = x := ⟨_, rfl⟩
      obtain ⟨y, hy⟩ : ∃ y, wordY (rdF z k) = y := ⟨_, rfl⟩
      obtain ⟨x', hx'⟩ : ∃ x, wordX (rdF z (k + 1)) = x := ⟨_, rfl⟩
      obtain ⟨y', hy'⟩ : ∃ y, wordY (rdF z (k + 1)) = y := ⟨_, rfl⟩
      rw [hx, hy] at HO WA
      rw [hx', hy'] at WA
      have W1 := Lib.hid WA
      have HX := Lib.hid (And.intro hx' hy')
      have hki : (k : Int) < n := by omega
      obtain ⟨s0, s1, t0, t1⟩ := HO.out.s.two
      have BI := HO.out.s.lt
      clear hz hid hx hy hx' hy' hc E WA
      go_wp2_with fail
      refine (W1.out _).mono ?_
      rintro e w2 ⟨rfl, hb2⟩
      have S2 := (HO.out.s.alloc (.cells #[.int .i64 id, .int .i64 zz] 53)).next hb2
      have R2 := (HO.out.r.alloc (.cells #[.int .i64 id, .int .i64 zz] 53)).next hb2
      have E2 := (HO.out.e.alloc HO.out.e.size (.cells #[.int .i64 id, .int .i64 zz] 53)).trans (hb2.mono (HO.out.e.alloc HO.out.e.size (.cells #[.int .i64 id, .int .i64 zz] 53)).size)
      obtain ⟨p0, p1, q0, q1⟩ := S2.two
      have H2 : RdW w ((w2.setCell ⟨w.heap.size + 1 + 1, 0, none⟩ (.int .u64 x')).setCell ⟨w.heap.size + 1 + 1, 1, none⟩ (.int .u64 y')) x' y' := ⟨(R2.far (by show w.heap.size + 1 ≠ w.heap.size + 1 + 1; omega) _).far (by show w.heap.size + 1 ≠ w.heap.size + 1 + 1; omega) _, S2.put2 _ _, (E2.setCell (by show w.heap.size ≤ w.heap.size + 1 + 1; omega) _).setCell (by show w.heap.size ≤ w.heap.size + 1 + 1; omega) _⟩
      have H3 := Lib.hid H2
      clear H2 S2 R2 E2 hb2 s0 s1 t0 t1
      go_wp2_with fail
      go_roundg (n - (k + 1))
      case measure => omega
      case rel => exact ⟨k + 1, by omega, rfl, by go_num, Lib.hid (by rw [HX.out.1, HX.out.2]; exact H3.out)⟩
    · obtain rfl : k = n := by omega
      have hkk : ¬ ((k : Int) < k) := by omega
      have E := Lib.hid (HO.out.e)
      obtain ⟨s0, s1, t0, t1⟩ := HO.out.s.two
      obtain ⟨r0, r1, u0, u1⟩ := HO.out.r.two
      have SV := Lib.hid (show setV (rdF z k) = .agg #[.int .u64 (wordX (rdF z k)), .int .u64 (wordY (rdF z k))] from rfl)
      obtain ⟨x, hx⟩ : ∃ x, wordX (rdF z k) = x := ⟨_, rfl⟩
      obtain ⟨y, hy⟩ : ∃ y, wordY (rdF z k) = y := ⟨_, rfl⟩
      rw [hx] at s0
      rw [hy] at s1
      rw [hx, hy] at SV
      clear hx hy HO
      go_wp2_with fail
      refine bodyPost_ret (v := .agg #[.int .u64 x, .int .u64 y]) (by simp [results, Try.results43, go_sem, *]) rfl ⟨by rw [SV.out], (E.out.setCell (p := ⟨w.heap.size + 1, 0, none⟩) (by show w.heap.size ≤ w.heap.size + 1; omega) _).setCell (p := ⟨w.heap.size + 1, 1, none⟩) (by show w.heap.size ≤ w.heap.size + 1; omega) _⟩
set_option maxRecDepth 100000 in
set_option maxHeartbeats 1000000 in
theorem full_cap (p d md l : Int) (wa : Bool) (A : Option Addr) (n c : Nat) (cap : Int) (w : World) :
    Calls Try.prog 58 #[carV p d md l wa A n c, .int .i64 cap] w fun e w' => e = .returned (.bool (decide (cap ≤ (n : Int)))) ∧ Below w.heap.size w w' := by
  unfold carV
  go_enter Try.func58, Try.ntmps58
  go_wp2_with fail
  go_ret
  exact ⟨rfl, (Below.refl w.heap.size w).alloc (Nat.le_refl _) _⟩
/-- the floors of calls that a car may stop for -/
def laF (n : Nat) (cap : Int) (G : Nat → Bool) (j : Nat) : Bool := if cap ≤ (n : Int) then false else G j
theorem laF_full {n : Nat} {cap : Int} (h : cap ≤ (n : Int)) (G : Nat → Bool) : setV (laF n cap G) = .agg #[.int .u64 0, .int .u64 0] := by
  rw [← set_none]; congr 1; funext j; unfold laF; rw [if_pos h]
theorem laF_room {n : Nat} {cap : Int} (h : ¬ cap ≤ (n : Int)) (G : Nat → Bool) : setV (laF n cap G) = setV G := by
  congr 1; funext j; unfold laF; rw [if_neg h]
set_option maxRecDepth 100000 in
set_option maxHeartbeats 1000000 in
theorem lands_any (p d md l : Int) (wa : Bool) (A : Option Addr) (n c : Nat) (cap : Int) (G : Nat → Bool) (w : World) :
    Calls Try.prog 41 #[carV p d md l wa A n c, .int .i64 cap, setV G] w fun e w' => e = .returned (setV (laF n cap G)) ∧ Below w.heap.size w w' := by
  have FC := Lib.hid fun w => full_cap p d md l wa A n c cap w
  by_cases h : cap ≤ (n : Int)
  · rw [laF_full h]
    rw [decide_eq_true h] at FC
    unfold carV at FC ⊢
    unfold setV
    obtain ⟨x, hx⟩ : ∃ x, wordX G = x := ⟨_, rfl⟩
    obtain ⟨y, hy⟩ : ∃ y, wordY G = y := ⟨_, rfl⟩
    rw [hx, hy]
    clear hx hy
    go_enter Try.func41, Try.ntmps41
    go_wp2_with fail
    have bS := Blk.new ((w.alloc (.cells #[.int .i64 p, .int .i64 d, .int .i64 md, .int .i64 l, .bool wa, .slice A n c] 29)).alloc (.cells #[.int .u64 x, .int .u64 y] 32)) #[.int .u64 0, .int .u64 0] 32
    rw [World.size_alloc, World.size_alloc] at bS
    have BE : Below w.heap.size w (((w.alloc (.cells #[.int .i64 p, .int .i64 d, .int .i64 md, .int .i64 l, .bool wa, .slice A n c] 29)).alloc (.cells #[.int .u64 x, .int .u64 y] 32)).alloc (.cells #[.int .u64 0, .int .u64 0] 32)) := (((Below.refl w.heap.size w).alloc (Nat.le_refl _) _).alloc (by simp) _).alloc (by simp; omega) _
    refine (FC.out _).mono ?_
    rintro e w2 ⟨rfl, hb⟩
    obtain ⟨s0, s1, t0, t1⟩ := (bS.next hb).two
    have E2 := Lib.hid (BE.trans (hb.mono BE.size))
    clear hb bS BE
    go_wp2_with fail
    refine bodyPost_ret (v := .agg #[.int .u64 0, .int .u64 0]) (by simp [results, Try.results41, go_sem, *]) rfl ⟨rfl, (E2.out.setCell (p := ⟨w.heap.size + 1 + 1, 0, none⟩) (by show w.heap.size ≤ w.heap.size + 1 + 1; omega) _).setCell (p := ⟨w.heap.size + 1 + 1, 1, none⟩) (by show w.heap.size ≤ w.heap.size + 1 + 1; omega) _⟩
  · rw [laF_room h]
    rw [decide_eq_false h] at FC
    unfold carV at FC ⊢
    unfold setV
    obtain ⟨x, hx⟩ : ∃ x, wordX G = x := ⟨_, rfl⟩
    obtain ⟨y, hy⟩ : ∃ y, wordY G = y := ⟨_, rfl⟩
    rw [hx, hy]
    clear hx hy
    go_enter Try.func41, Try.ntmps41
    go_wp2_with fail
    have bS := Blk.new ((w.alloc (.cells #[.int .i64 p, .int .i64 d, .int .i64 md, .int .i64 l, .bool wa, .slice A n c] 29)).alloc (.cells #[.int .u64 x, .int .u64 y] 32)) #[.int .u64 0, .int .u64 0] 32
    rw [World.size_alloc, World.size_alloc] at bS
    have bG := (Blk.new (w.alloc (.cells #[.int .i64 p, .int .i64 d, .int .i64 md, .int .i64 l, .bool wa, .slice A n c] 29)) #[.int .u64 x, .int .u64 y] 32).alloc (.cells #[.int .u64 0, .int .u64 0] 32)
    rw [World.size_alloc] at bG
    have BE : Below w.heap.size w (((w.alloc (.cells #[.int .i64 p, .int .i64 d, .int .i64 md, .int .i64 l, .bool wa, .slice A n c] 29)).alloc (.cells #[.int .u64 x, .int .u64 y] 32)).alloc (.cells #[.int .u64 0, .int .u64 0] 32)) := (((Below.refl w.heap.size w).alloc (Nat.le_refl _) _).alloc (by simp) _).alloc (by simp; omega) _
    refine (FC.out _).mono ?_
    rintro e w2 ⟨rfl, hb⟩
    obtain ⟨s0, s1, t0, t1⟩ := (bS.next hb).two
    obtain ⟨g0, g1, _, _⟩ := (bG.next hb).two
    have E2 := Lib.hid (BE.trans (hb.mono BE.size))
    clear hb bS bG BE
    go_wp2_with fail
    refine bodyPost_ret (v := .agg #[.int .u64 x, .int .u64 y]) (by simp [results, Try.results41, go_sem, *]) rfl ⟨rfl, (E2.out.setCell (p := ⟨w.heap.size + 1 + 1, 0, none⟩) (by show w.heap.size ≤ w.heap.size + 1 + 1; omega) _).setCell (p := ⟨w.heap.size + 1 + 1, 1, none⟩) (by show w.heap.size ≤ w.heap.size + 1 + 1; omega) _⟩
end Go.Proofs.Ytffcmfpadaebdaa


namespace Go.Proofs.Ytffcmfpadaebdaa
open Go.RowKit
set_option linter.unusedSimpArgs false
set_option linter.unusedVariables false
theorem Blk.drew {w : World} {g : Nat} {t : TypeId} {cs : Array Value} (h : Blk w g t cs) : Blk w.drew g t cs := h
/-- where a car is to stop -/
def waF (z : Nat → Nat → Int) (n : Nat) (cap : Int) (U D : Nat → Bool) (j : Nat) : Bool := rdF z n j || laF n cap (fun j => U j || D j) j
set_option maxRecDepth 100000 in
set_option maxHeartbeats 2000000 in
theorem wof_any (p d md l : Int) (wa : Bool) (A : Option Addr) (n c : Nat) (z : Nat → Nat → Int) (cap : Int) (U D : Nat → Bool) (w : World) (hr : RdZ w 2 A n z) (hl : n ≤ 1000000) :
    Calls Try.prog 40 #[carV p d md l wa A n c, .int .i64 cap, setV U, setV D] w fun e w' => e = .returned (setV (waF z n cap U D)) ∧ Below w.heap.size w w' := by
  have HR := Lib.hid hr
  have RI := fun w hr => rides_any p d md l wa A n c z w hr hl
  have OR1 := fun w => or_set U D w
  have LA := fun w => lands_any p d md l wa A n c cap (fun j => U j || D j) w
  have OR2 := fun w => or_set (rdF z n) (laF n cap (fun j => U j || D j)) w
  change ∀ w, Calls Try.prog 57 #[setV (rdF z n), setV (laF n cap (fun j => U j || D j))] w fun e w' => e = .returned (setV (waF z n cap U D)) ∧ Below w.heap.size w w' at OR2
  unfold carV at RI LA ⊢
  unfold setV at RI OR1 LA OR2 ⊢
  obtain ⟨a0, ha0⟩ : ∃ x, wordX U = x := ⟨_, rfl⟩
  obtain ⟨a1, ha1⟩ : ∃ x, wordY U = x := ⟨_, rfl⟩
  obtain ⟨b0, hb0⟩ : ∃ x, wordX D = x := ⟨_, rfl⟩
  obtain ⟨b1, hb1⟩ : ∃ x, wordY D = x := ⟨_, rfl⟩
  obtain ⟨r0, hr0⟩ : ∃ x, wordX (rdF z n) = x := ⟨_, rfl⟩
  obtain ⟨r1, hr1⟩ : ∃ x, wordY (rdF z n) = x := ⟨_, rfl⟩
  obtain ⟨o0, ho0⟩ : ∃ x, wordX (fun j => U j || D j) = x := ⟨_, rfl⟩
  obtain ⟨o1, ho1⟩ : ∃ x, wordY (fun j => U j || D j) = x := ⟨_, rfl⟩
  obtain ⟨l0, hl0⟩ : ∃ x, wordX (laF n cap (fun j => U j || D j)) = x := ⟨_, rfl⟩
  obtain ⟨l1, hl1⟩ : ∃ x, wordY (laF n cap (fun j => U j || D j)) = x := ⟨_, rfl⟩
  obtain ⟨t0, ht0⟩ : ∃ x, wordX (waF z n cap U D) = x := ⟨_, rfl⟩
  obtain ⟨t1, ht1⟩ : ∃ x, wordY (waF z n cap U D) = x := ⟨_, rfl⟩
  simp only [ha0, ha1, hb0, hb1, hr0, hr1, ho0, ho1, hl0, hl1, ht0, ht1] at RI OR1 LA OR2 ⊢
  replace RI := Lib.hid RI
  replace OR1 := Lib.hid OR1
  replace LA := Lib.hid LA
  replace OR2 := Lib.hid OR2
  clear ha0 ha1 hb0 hb1 hr0 hr1 ho0 ho1 hl0 hl1 ht0 ht1 hr
  go_enter Try.func40, Try.ntmps40
  go_wp2_with fail
  have B0 := ((Blk.new w #[.int .i64 p, .int .i64 d, .int .i64 md, .int .i64 l, .bool wa, .slice A n c] 29).alloc (.cells #[.int .u64 a0, .int .u64 a1] 32)).alloc (.cells #[.int .u64 b0, .int .u64 b1] 32) |>.alloc (.cells #[.int .u64 0, .int .u64 0] 32)
  have B1 := ((Blk.new (w.alloc (.cells #[.int .i64 p, .int .i64 d, .int .i64 md, .int .i64 l, .bool wa, .slice A n c] 29)) #[.int .u64 a0, .int .u64 a1] 32).alloc (.cells #[.int .u64 b0, .int .u64 b1] 32)).alloc (.cells #[.int .u64 0, .int .u64 0] 32)
  have B2 := (Blk.new ((w.alloc (.cells #[.int .i64 p, .int .i64 d, .int .i64 md, .int .i64 l, .bool wa, .slice A n c] 29)).alloc (.cells #[.int .u64 a0, .int .u64 a1] 32)) #[.int .u64 b0, .int .u64 b1] 32).alloc (.cells #[.int .u64 0, .int .u64 0] 32)
  have B3 := Blk.new (((w.alloc (.cells #[.int .i64 p, .int .i64 d, .int .i64 md, .int .i64 l, .bool wa, .slice A n c] 29)).alloc (.cells #[.int .u64 a0, .int .u64 a1] 32)).alloc (.cells #[.int .u64 b0, .int .u64 b1] 32)) #[.int .u64 0, .int .u64 0] 32
  have BE : Below w.heap.size w ((((w.alloc (.cells #[.int .i64 p, .int .i64 d, .int .i64 md, .int .i64 l, .bool wa, .slice A n c] 29)).alloc (.cells #[.int .u64 a0, .int .u64 a1] 32)).alloc (.cells #[.int .u64 b0, .int .u64 b1] 32)).alloc (.cells #[.int .u64 0, .int .u64 0] 32)) := ((((Below.refl w.heap.size w).alloc (Nat.le_refl _) _).alloc (by simp) _).alloc (by simp; omega) _).alloc (by simp; omega) _
  rw [World.size_alloc] at B1
  rw [World.size_alloc, World.size_alloc] at B2
  rw [World.size_alloc, World.size_alloc, World.size_alloc] at B3
  obtain ⟨V, hV⟩ : ∃ V, (((w.alloc (.cells #[.int .i64 p, .int .i64 d, .int .i64 md, .int .i64 l, .bool wa, .slice A n c] 29)).alloc (.cells #[.int .u64 a0, .int .u64 a1] 32)).alloc (.cells #[.int .u64 b0, .int .u64 b1] 32)).alloc (.cells #[.int .u64 0, .int .u64 0] 32) = V := ⟨_, rfl⟩
  rw [hV] at B0 B1 B2 B3 BE ⊢
  have k0 : V.cell? ⟨w.heap.size, 0, none⟩ = some (.int .i64 p) := B0.cell 0
  have k1 : V.cell? ⟨w.heap.size, 1, none⟩ = some (.int .i64 d) := B0.cell 1
  have k2 : V.cell? ⟨w.heap.size, 2, none⟩ = some (.int .i64 md) := B0.cell 2
  have k3 : V.cell? ⟨w.heap.size, 3, none⟩ = some (.int .i64 l) := B0.cell 3
  have k4 : V.cell? ⟨w.heap.size, 4, none⟩ = some (.bool wa) := B0.cell 4
  have k5 : V.cell? ⟨w.heap.size, 5, none⟩ = some (.slice A n c) := B0.cell 5
  obtain ⟨u0, u1, _, _⟩ := B1.two
  obtain ⟨m0, m1, _, _⟩ := B2.two
  have RB := Lib.hid B3
  have BEh := Lib.hid BE
  have HRV : Hid (RdZ V.drew 2 A n z) := Lib.hid (HR.out.kept BE.drew)
  have RBV : Hid (Blk V.drew (w.heap.size + 1 + 1 + 1) 32 #[.int .u64 0, .int .u64 0]) := Lib.hid B3.drew
  have ne0 : w.heap.size ≠ w.heap.size + 1 + 1 + 1 := by omega
  have ne1 : w.heap.size + 1 ≠ w.heap.size + 1 + 1 + 1 := by omega
  have ne5 : w.heap.size ≠ w.heap.size + 1 + 1 := by omega
  have ne6 : w.heap.size + 1 + 1 ≠ w.heap.size := by omega
  have ne3 : w.heap.size + 1 + 1 + 1 ≠ w.heap.size := by omega
  have ne4 : w.heap.size + 1 + 1 + 1 ≠ w.heap.size + 1 := by omega
  clear hV B0 B1 B2 B3 BE RB
  go_region_held3 (fun W => W.cell? ⟨w.heap.size, 0, none⟩ = some (.int .i64 p) ∧ W.cell? ⟨w.heap.size, 1, none⟩ = some (.int .i64 d) ∧ W.cell? ⟨w.heap.size, 2, none⟩ = some (.int .i64 md) ∧ W.cell? ⟨w.heap.size, 3, none⟩ = some (.int .i64 l) ∧ W.cell? ⟨w.heap.size, 4, none⟩ = some (.bool wa) ∧ W.cell? ⟨w.heap.size, 5, none⟩ = some (.slice A n c) ∧ W.cell? ⟨w.heap.size + 1, 0, none⟩ = some (.int .u64 a0) ∧ W.cell? ⟨w.heap.size + 1, 1, none⟩ = some (.int .u64 a1) ∧ W.cell? ⟨w.heap.size + 1 + 1, 0, none⟩ = some (.int .u64 b0) ∧ W.cell? ⟨w.heap.size + 1 + 1, 1, none⟩ = some (.int .u64 b1))
    (go_keep)
    (first
      | (go_at_call 43; refine (RI.out (V.drew) HRV.out).mono ?_; rintro e v1 ⟨rfl, hb⟩; have nk00 := Lib.hid (bkeep (w := V.drew) hb k0); have nk10 := Lib.hid (bkeep (w := V.drew) hb k1); have nk20 := Lib.hid (bkeep (w := V.drew) hb k2); have nk30 := Lib.hid (bkeep (w := V.drew) hb k3); have nk40 := Lib.hid (bkeep (w := V.drew) hb k4); have nk50 := Lib.hid (bkeep (w := V.drew) hb k5); have nu00 := Lib.hid (bkeep (w := V.drew) hb u0); have nu10 := Lib.hid (bkeep (w := V.drew) hb u1); have nm00 := Lib.hid (bkeep (w := V.drew) hb m0); have nm10 := Lib.hid (bkeep (w := V.drew) hb m1); clear k0 k1 k2 k3 k4 k5 u0 u1 m0 m1; have k0 := nk00.out; have k1 := nk10.out; have k2 := nk20.out; have k3 := nk30.out; have k4 := nk40.out; have k5 := nk50.out; have u0 := nu00.out; have u1 := nu10.out; have m0 := nm00.out; have m1 := nm10.out; have Q0 := Lib.hid (RBV.out.next hb); have BEh1 := Lib.hid ((BEh.out.drew).trans (hb.mono (BEh.out.drew).size)); clear hb)
      | (go_at_call_of 57 (Value.int IntKind.u64 (a0 : Int)); refine (OR1.out (v1)).mono ?_; rintro e v2 ⟨rfl, hb⟩; have nk01 := Lib.hid (bkeep (w := v1) hb k0); have nk11 := Lib.hid (bkeep (w := v1) hb k1); have nk21 := Lib.hid (bkeep (w := v1) hb k2); have nk31 := Lib.hid (bkeep (w := v1) hb k3); have nk41 := Lib.hid (bkeep (w := v1) hb k4); have nk51 := Lib.hid (bkeep (w := v1) hb k5); have nu01 := Lib.hid (bkeep (w := v1) hb u0); have nu11 := Lib.hid (bkeep (w := v1) hb u1); have nm01 := Lib.hid (bkeep (w := v1) hb m0); have nm11 := Lib.hid (bkeep (w := v1) hb m1); clear k0 k1 k2 k3 k4 k5 u0 u1 m0 m1; have k0 := nk01.out; have k1 := nk11.out; have k2 := nk21.out; have k3 := nk31.out; have k4 := nk41.out; have k5 := nk51.out; have u0 := nu01.out; have u1 := nu11.out; have m0 := nm01.out; have m1 := nm11.out; have Q1 := Lib.hid (Q0.out.next hb); have BEh2 := Lib.hid (BEh1.out.trans (hb.mono BEh1.out.size)); clear hb)
      | (go_at_call 41; refine (LA.out (v2)).mono ?_; rintro e v3 ⟨rfl, hb⟩; have nk02 := Lib.hid (bkeep (w := v2) hb k0); have nk12 := Lib.hid (bkeep (w := v2) hb k1); have nk22 := Lib.hid (bkeep (w := v2) hb k2); have nk32 := Lib.hid (bkeep (w := v2) hb k3); have nk42 := Lib.hid (bkeep (w := v2) hb k4); have nk52 := Lib.hid (bkeep (w := v2) hb k5); have nu02 := Lib.hid (bkeep (w := v2) hb u0); have nu12 := Lib.hid (bkeep (w := v2) hb u1); have nm02 := Lib.hid (bkeep (w := v2) hb m0); have nm12 := Lib.hid (bkeep (w := v2) hb m1); clear k0 k1 k2 k3 k4 k5 u0 u1 m0 m1; have k0 := nk02.out; have k1 := nk12.out; have k2 := nk22.out; have k3 := nk32.out; have k4 := nk42.out; have k5 := nk52.out; have u0 := nu02.out; have u1 := nu12.out; have m0 := nm02.out; have m1 := nm12.out; have Q2 := Lib.hid (Q1.out.next hb); have BEh3 := Lib.hid (BEh2.out.trans (hb.mono BEh2.out.size)); clear hb)
      | (go_at_call_of 57 (Value.int IntKind.u64 (r0 : Int)); refine (OR2.out (v3)).mono ?_; rintro e v4 ⟨rfl, hb⟩; have nk03 := Lib.hid (bkeep (w := v3) hb k0); have nk13 := Lib.hid (bkeep (w := v3) hb k1); have nk23 := Lib.hid (bkeep (w := v3) hb k2); have nk33 := Lib.hid (bkeep (w := v3) hb k3); have nk43 := Lib.hid (bkeep (w := v3) hb k4); have nk53 := Lib.hid (bkeep (w := v3) hb k5); have nu03 := Lib.hid (bkeep (w := v3) hb u0); have nu13 := Lib.hid (bkeep (w := v3) hb u1); have nm03 := Lib.hid (bkeep (w := v3) hb m0); have nm13 := Lib.hid (bkeep (w := v3) hb m1); clear k0 k1 k2 k3 k4 k5 u0 u1 m0 m1; have k0 := nk03.out; have k1 := nk13.out; have k2 := nk23.out; have k3 := nk33.out; have k4 := nk43.out; have k5 := nk53.out; have u0 := nu03.out; have u1 := nu13.out; have m0 := nm03.out; have m1 := nm13.out; obtain ⟨rs0, rs1, rf0, rf1⟩ := (Q2.out.next hb).two; have BEh4 := Lib.hid (BEh3.out.trans (hb.mono BEh3.out.size)); clear hb))
  go_wp2_with fail
  refine bodyPost_ret (v := .agg #[.int .u64 t0, .int .u64 t1]) (by simp [results, Try.results40, go_sem, *]) rfl ⟨rfl, (BEh4.out.setCell (p := ⟨w.heap.size + 1 + 1 + 1, 0, none⟩) (by show w.heap.size ≤ w.heap.size + 1 + 1 + 1; omega) _).setCell (p := ⟨w.heap.size + 1 + 1 + 1, 1, none⟩) (by show w.heap.size ≤ w.heap.size + 1 + 1 + 1; omega) _⟩
end Go.Proofs.Ytffcmfpadaebdaa


namespace Go.Proofs.Ytffcmfpadaebdaa
open Go.RowKit
set_option linter.unusedSimpArgs false
set_option linter.unusedVariables false
theorem u64_cmp (d : Nat) (a b : Int) (w : World) : (Op.equalIn (d + 1) 30 (.int .u64 a) (.int .u64 b)).run Try.prog w = .ok (a == b) w := by
  simp [Op.equalIn, run_underlying Try.underlying30]
theorem set_cmp0 (d : Nat) (x y a b : Int) (w : World) : (Op.equalIn (d + 1 + 1) 32 (.agg #[.int .u64 x, .int .u64 y]) (.agg #[.int .u64 a, .int .u64 b])).run Try.prog w = .ok (x == a && y == b) w := by
  obtain ⟨i, hi⟩ : ∃ i, Try.prog.info? 30 = some i := Option.isSome_iff_exists.1 (by kernel_rfl)
  have hc : Try.prog.cellsOf 30 = 1 := by kernel_rfl
  have p0 : (part 30 #[(.int .u64 x : Value), .int .u64 y] 0).run Try.prog w = .ok (.int .u64 x) w := by kernel_rfl
  have p1 : (part 30 #[(.int .u64 x : Value), .int .u64 y] 1).run Try.prog w = .ok (.int .u64 y) w := by kernel_rfl
  have q0 : (part 30 #[(.int .u64 a : Value), .int .u64 b] 0).run Try.prog w = .ok (.int .u64 a) w := by kernel_rfl
  have q1 : (part 30 #[(.int .u64 a : Value), .int .u64 b] 1).run Try.prog w = .ok (.int .u64 b) w := by kernel_rfl
  rw [run_equalIn_array (P := Try.prog) w (d + 1) _ _ Try.underlying32 hi, hc]
  show (Op.eqItems (d + 1) 30 1 _ _ [0, 1]).run Try.prog w = _
  simp only [Op.eqItems, Sem.run_bind, p0, p1, q0, q1, Nat.zero_mul, Nat.one_mul, u64_cmp, Result.andThen_ok]
  cases h : (x == a)
  · simp [p1, q1, u64_cmp]
  · simp [p1, q1, u64_cmp]
    split
    · rename_i hy; simp [hy]
    · rename_i hy; simp [hy]
theorem set_cmp (x y a b : Int) (w : World) : (Op.equalIn 10000 32 (.agg #[.int .u64 x, .int .u64 y]) (.agg #[.int .u64 a, .int .u64 b])).run Try.prog w = .ok (x == a && y == b) w := set_cmp0 9998 x y a b w
/-- is there anything in a set? -/
def neF (G : Nat → Bool) : Bool := !(((wordX G : Int) == 0) && ((wordY G : Int) == 0))
theorem neF_iff (G : Nat → Bool) : neF G = true ↔ ∃ j, j < 128 ∧ G j = true := by
  unfold neF
  constructor
  · intro h
    by_cases hn : ∃ j, j < 128 ∧ G j = true
    · exact hn
    · exfalso
      have hz : ∀ j, j < 128 → G j = false := fun j hj => by
        cases hg : G j
        · rfl
        · exact absurd ⟨j, hj, hg⟩ hn
      have hx : wordX G = 0 := by rw [(word_congr (G := fun _ => false) hz).1, word_none.1]
      have hy : wordY G = 0 := by rw [(word_congr (G := fun _ => false) hz).2, word_none.2]
      rw [hx, hy] at h
      simp at h
  · rintro ⟨j, hj, hg⟩
    cases hb : (((wordX G : Int) == 0) && ((wordY G : Int) == 0))
    · rfl
    · exfalso
      simp at hb
      by_cases h6 : j < 64
      · have := wordX_bit G j
        rw [hb.1] at this
        simp [h6, hg] at this
      · have := wordY_bit G (j - 64)
        rw [hb.2, show 64 + (j - 64) = j by omega] at this
        simp [show j - 64 < 64 by omega, hg] at this
/-- is there a call at a floor for a direction? -/
def callF (U D : Nat → Bool) (f d : Int) : Bool := if 0 < d then hasF U f else if d < 0 then hasF D f else false
def othF (d : Int) : Int := if 0 < d then -1 else 1
/-- what a car sees, as a value -/
def sgtV (W U D : Nat → Bool) : Value := .agg #[.int .u64 (wordX W), .int .u64 (wordY W), .int .u64 (wordX U), .int .u64 (wordY U), .int .u64 (wordX D), .int .u64 (wordY D)]
set_option maxHeartbeats 1000000 in
theorem other_any (d : Int) (w : World) : Calls Try.prog 45 #[.int .i64 d] w fun e w' => e = .returned (.int .i64 (othF d)) ∧ w = w' := by
  unfold othF
  by_cases h : 0 < d
  · rw [if_pos h]
    go_enter Try.func45, Try.ntmps45
    go_wp2
    go_ret
    exact ⟨rfl, rfl⟩
  · rw [if_neg h]
    go_enter Try.func45, Try.ntmps45
    go_wp2
    go_ret
    exact ⟨rfl, rfl⟩
set_option maxRecDepth 100000 in
set_option maxHeartbeats 1000000 in
theorem scall_any (W U D : Nat → Bool) (f d : Int) (w : World) : Calls Try.prog 44 #[sgtV W U D, .int .i64 f, .int .i64 d] w fun e w' => e = .returned (.bool (callF U D f d)) ∧ Below w.heap.size w w' := by
  have HU := fun w => has_any U f w
  have HD := fun w => has_any D f w
  unfold sgtV callF
  unfold setV at HU HD
  obtain ⟨w0, hw0⟩ : ∃ x, wordX W = x := ⟨_, rfl⟩
  obtain ⟨w1, hw1⟩ : ∃ x, wordY W = x := ⟨_, rfl⟩
  obtain ⟨u0, hu0⟩ : ∃ x, wordX U = x := ⟨_, rfl⟩
  obtain ⟨u1, hu1⟩ : ∃ x, wordY U = x := ⟨_, rfl⟩
  obtain ⟨d0, hd0⟩ : ∃ x, wordX D = x := ⟨_, rfl⟩
  obtain ⟨d1, hd1⟩ : ∃ x, wordY D = x := ⟨_, rfl⟩
  simp only [hw0, hw1, hu0, hu1, hd0, hd1] at HU HD ⊢
  have HUh := Lib.hid HU
  have HDh := Lib.hid HD
  clear hw0 hw1 hu0 hu1 hd0 hd1 HU HD
  obtain ⟨bu, hbu⟩ : ∃ b, hasF U f = b := ⟨_, rfl⟩
  obtain ⟨bd, hbd⟩ : ∃ b, hasF D f = b := ⟨_, rfl⟩
  rw [hbu] at HUh ⊢
  rw [hbd] at HDh ⊢
  clear hbu hbd
  rcases (show 0 < d ∨ d < 0 ∨ d = 0 by omega) with h | h | h
  · rw [if_pos h]
    go_enter Try.func44, Try.ntmps44
    go_wp2_with fail
    refine (HUh.out _).mono ?_
    rintro e w2 ⟨rfl, hb⟩
    have E2 := Lib.hid (((Below.refl w.heap.size w).alloc (Nat.le_refl _) (.cells #[.int .u64 w0, .int .u64 w1, .int .u64 u0, .int .u64 u1, .int .u64 d0, .int .u64 d1] 56)).trans (hb.mono (by simp)))
    clear hb
    go_wp2_with fail
    go_ret
    exact ⟨rfl, E2.out⟩
  · rw [if_neg (by omega), if_pos h]
    go_enter Try.func44, Try.ntmps44
    go_wp2_with fail
    refine (HDh.out _).mono ?_
    rintro e w2 ⟨rfl, hb⟩
    have E2 := Lib.hid (((Below.refl w.heap.size w).alloc (Nat.le_refl _) (.cells #[.int .u64 w0, .int .u64 w1, .int .u64 u0, .int .u64 u1, .int .u64 d0, .int .u64 d1] 56)).trans (hb.mono (by simp)))
    clear hb
    go_wp2_with fail
    go_ret
    exact ⟨rfl, E2.out⟩
  · rw [if_neg (by omega), if_neg (by omega)]
    subst h
    go_enter Try.func44, Try.ntmps44
    go_wp2_with fail
    go_ret
    exact ⟨rfl, (Below.refl w.heap.size w).alloc (Nat.le_refl _) _⟩
set_option maxRecDepth 100000 in
set_option maxHeartbeats 1000000 in
theorem sbey_any (W U D : Nat → Bool) (f d : Int) (w : World) : Calls Try.prog 46 #[sgtV W U D, .int .i64 f, .int .i64 d] w fun e w' => e = .returned (.bool (neF (byF W f d))) ∧ Below w.heap.size w w' := by
  have BY := fun w => beyond_any W f d w
  have CM := set_cmp (wordX (byF W f d)) (wordY (byF W f d)) 0 0
  unfold sgtV neF
  unfold setV at BY
  obtain ⟨w0, hw0⟩ : ∃ x, wordX W = x := ⟨_, rfl⟩
  obtain ⟨w1, hw1⟩ : ∃ x, wordY W = x := ⟨_, rfl⟩
  obtain ⟨u0, hu0⟩ : ∃ x, wordX U = x := ⟨_, rfl⟩
  obtain ⟨u1, hu1⟩ : ∃ x, wordY U = x := ⟨_, rfl⟩
  obtain ⟨d0, hd0⟩ : ∃ x, wordX D = x := ⟨_, rfl⟩
  obtain ⟨d1, hd1⟩ : ∃ x, wordY D = x := ⟨_, rfl⟩
  obtain ⟨r, hr⟩ : ∃ x, wordX (byF W f d) = x := ⟨_, rfl⟩
  obtain ⟨t, ht⟩ : ∃ x, wordY (byF W f d) = x := ⟨_, rfl⟩
  simp only [hw0, hw1, hu0, hu1, hd0, hd1, hr, ht] at BY CM ⊢
  have BYh := Lib.hid BY
  obtain ⟨bb, hbb⟩ : ∃ b, ((r : Int) == 0 && (t : Int) == 0) = b := ⟨_, rfl⟩
  rw [hbb] at CM ⊢
  clear hw0 hw1 hu0 hu1 hd0 hd1 hr ht hbb BY
  go_enter Try.func46, Try.ntmps46
  go_wp2_with fail
  refine (BYh.out _).mono ?_
  rintro e w2 ⟨rfl, hb⟩
  have E2 := Lib.hid (((Below.refl w.heap.size w).alloc (Nat.le_refl _) (.cells #[.int .u64 w0, .int .u64 w1, .int .u64 u0, .int .u64 u1, .int .u64 d0, .int .u64 d1] 56)).trans (hb.mono (by simp)))
  clear hb
  go_wp2_with fail
  go_ret
  exact ⟨rfl, E2.out⟩
end Go.Proofs.Ytffcmfpadaebdaa

