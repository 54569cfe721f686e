/- Contracts of the program's sets: With at any number, Of. -/
import Derived.Test.YtdcollehdhkngaaDoorRows
import Derived.Test.YtdcollehdhkngaaDoorRowKit
import Derived.Test.YtdcollehdhkngaaDoorSlicesEq
import Derived.Test.YtdcollehdhkngaaDoorRowL
import Derived.Test.YtdcollehdhkngaaDoorMakeI
import Derived.Test.YtdcollehdhkngaaDoorBlocks
import Derived.Test.YtdcollehdhkngaaDoorBitsMath
import Derived.Test.YtdcollehdhkngaaDoorBitsA2
import Derived.Test.YtdcollehdhkngaaDoorBitsD
import Derived.WalkKit
import Derived.IntWalk
import Derived.Lib.Hide
import Derived.WalkSpells
import Derived.WalkLawsBesides
import Derived.Laws.CopyOwn
import Derived.Deep.QuietTactic
import Derived.Deep.LoopGhost
import Derived.BigQuiet
namespace Go.Proofs.YtdcollehdhkngaaDoor
open Go.RowKit
set_option linter.unusedSimpArgs false
set_option linter.unusedVariables false
set_option maxRecDepth 100000 in
set_option maxHeartbeats 400000 in
theorem with_out (x y : Nat) (z : Int) (w : World) (hz : z < 0 ∨ 128 ≤ z) :
    Calls Tryd.prog 15 #[.agg #[.int .u64 x, .int .u64 y], .int .i64 z] w fun e w' => e = .returned (.agg #[.int .u64 x, .int .u64 y]) ∧ Below w.heap.size w w' := by
  go_enter Tryd.func15, Tryd.ntmps15
  go_wp2_with (go_at_call 64; refine (fits_no _ _ hz).mono ?_; rintro e w' ⟨rfl, rfl⟩)
  refine bodyPost_ret (v := .agg #[.int .u64 x, .int .u64 y]) (by simp [results, Tryd.results15, go_sem]) rfl ⟨rfl, ?_⟩
  exact ((Below.refl w.heap.size w).alloc (Nat.le_refl _) _).alloc (by simp) _
theorem withF_out (F : Nat → Bool) {z : Int} (hz : z < 0 ∨ 128 ≤ z) : setV (withF F z) = setV F := setV_congr fun j hj => by
  unfold withF
  have : ((j : Int) == z) = false := by rw [beq_eq_false_iff_ne]; omega
  rw [this, Bool.or_false]
theorem with_any (F : Nat → Bool) (z : Int) (w : World) :
    Calls Tryd.prog 15 #[setV F, .int .i64 z] w fun e w' => e = .returned (setV (withF F z)) ∧ Below w.heap.size w w' := by
  by_cases h : 0 ≤ z ∧ z < 128
  · obtain ⟨n, rfl⟩ := Int.eq_ofNat_of_zero_le h.1
    rcases Nat.lt_or_ge n 64 with h1 | h1
    · exact with_low F n w h1
    · exact with_high F n w h1 (by omega)
  · rw [withF_out F (by omega)]
    exact with_out _ _ z w (by omega)
/-- the set of the first so many numbers of a row -/
def ofF (zs : List Int) : Nat → Nat → Bool
  | 0 => fun _ => false
  | k + 1 => withF (ofF zs k) (zat zs k)
theorem word_none : wordX (fun _ => false) = 0 ∧ wordY (fun _ => false) = 0 :=
  ⟨wordX_eq (by omega) fun j _ => by simp, wordY_eq (by omega) fun j _ => by simp⟩
structure OfW (w X : World) (x y : Nat) : Prop where
  r : Blk X w.heap.size 24 #[.int .u64 0, .int .u64 0]
  s : Blk X (w.heap.size + 1) 24 #[.int .u64 x, .int .u64 y]
  e : Below w.heap.size w X
set_option maxRecDepth 100000 in
set_option maxHeartbeats 1000000 in
theorem of_any (A : Option Addr) (c : Nat) (zs : List Int) (w : World) (hr : RdI w .i64 A zs) (hl : zs.length ≤ 1000000) :
    Calls Tryd.prog 17 #[.slice A zs.length c] w fun e w' => e = .returned (setV (ofF zs zs.length)) ∧ Below w.heap.size w w' := by
  obtain ⟨n, hn⟩ : ∃ n, zs.length = n := ⟨_, rfl⟩
  rw [hn] at hl ⊢
  have HN := Lib.hid hn
  have HR := Lib.hid hr
  clear hn hr
  go_enter Tryd.func17, Tryd.ntmps17
  go_wp2_with fail
  have H0 : OfW w ((w.alloc (.cells #[.int .u64 0, .int .u64 0] 24)).alloc (.cells #[.int .u64 0, .int .u64 0] 24)) 0 0 := ⟨(Blk.new w _ _).alloc _, by have := Blk.new (w.alloc (.cells #[.int .u64 0, .int .u64 0] 24)) #[.int .u64 0, .int .u64 0] 24; rwa [World.size_alloc] at this, ((Below.refl w.heap.size w).alloc (Nat.le_refl _) _).alloc (by simp) _⟩
  have H1 := Lib.hid H0
  clear H0
  go_loopg [8] n (fun g i wr => ∃ k : Nat, k ≤ n ∧ g = n - k ∧ i = .int .i64 k ∧ Hid (OfW w wr (wordX (ofF zs k)) (wordY (ofF zs k))))
  case atStart => exact ⟨0, by omega, rfl, rfl, Lib.hid (by show OfW w _ (wordX fun _ => false) (wordY fun _ => false); rw [word_none.1, word_none.2]; exact H1.out)⟩
  case round =>
    obtain ⟨k, hk, rfl, rfl, HO⟩ := hrel
    obtain ⟨s0, s1, t0, t1⟩ := HO.out.s.two
    obtain ⟨r0, r1, u0, u1⟩ := HO.out.r.two
    by_cases h : k < n
    · obtain ⟨b, off, rfl, hlt, hc⟩ := rdI_row (HR.out.kept HO.out.e) (by have := HN.out; omega)
      have ck := hc k (by have := HN.out; omega)
      have WA := with_any (ofF zs k) (zat zs k)
      have E : withF (ofF zs k) (zat zs k) = ofF zs (k + 1) := rfl
      rw [E] at WA
      unfold setV at WA
      obtain ⟨z, hz⟩ : ∃ z, zat zs k = z := ⟨_, rfl⟩
      rw [hz] at ck WA
      obtain ⟨x, hx⟩ : ∃ x, wordX (ofF zs k) = x := ⟨_, rfl⟩
      obtain ⟨y, hy⟩ : ∃ y, wordY (ofF zs k) = y := ⟨_, rfl⟩
      obtain ⟨x', hx'⟩ : ∃ x, wordX (ofF zs (k + 1)) = x := ⟨_, rfl⟩
      obtain ⟨y', hy'⟩ : ∃ y, wordY (ofF zs (k + 1)) = y := ⟨_, rfl⟩
      rw [hx, hy] at HO WA
      rw [hx'] at WA
      rw [hy'] at WA
      rw [hx] at s0
      rw [hy] at s1
      have W1 := Lib.hid WA
      have HX := Lib.hid (And.intro hx' hy')
      have hki : (k : Int) < n := by omega
      clear hz hx hy hx' hy' hc E WA
      go_wp2_with fail
      refine (W1.out _).mono ?_
      rintro e w2 ⟨rfl, hb2⟩
      have S2 := HO.out.s.next hb2
      have R2 := HO.out.r.next hb2
      have E2 := HO.out.e.trans (hb2.mono HO.out.e.size)
      obtain ⟨p0, p1, q0, q1⟩ := S2.two
      have H2 : OfW w ((w2.setCell ⟨w.heap.size + 1, 0, none⟩ (.int .u64 x')).setCell ⟨w.heap.size + 1, 1, none⟩ (.int .u64 y')) x' y' := ⟨(R2.far (by show w.heap.size ≠ w.heap.size + 1; omega) _).far (by show w.heap.size ≠ w.heap.size + 1; omega) _, S2.put2 _ _, (E2.setCell (by show w.heap.size ≤ w.heap.size + 1; omega) _).setCell (by show w.heap.size ≤ w.heap.size + 1; omega) _⟩
      have H3 := Lib.hid H2
      clear H2 S2 R2 E2 hb2 s0 s1 t0 t1 r0 r1 u0 u1
      go_wp2_with fail
      go_roundg (n - (k + 1))
      case measure => omega
      case rel => exact ⟨k + 1, by omega, rfl, by go_num, Lib.hid (by rw [HX.out.1, HX.out.2]; exact H3.out)⟩
    · obtain rfl : k = n := by omega
      have E := Lib.hid (HO.out.e)
      have SV := Lib.hid (show setV (ofF zs k) = .agg #[.int .u64 (wordX (ofF zs k)), .int .u64 (wordY (ofF zs k))] from rfl)
      obtain ⟨x, hx⟩ : ∃ x, wordX (ofF zs k) = x := ⟨_, rfl⟩
      obtain ⟨y, hy⟩ : ∃ y, wordY (ofF zs k) = y := ⟨_, rfl⟩
      rw [hx] at s0
      rw [hy] at s1
      rw [hx, hy] at SV
      clear hx hy HO
      go_wp2_with fail
      refine bodyPost_ret (v := .agg #[.int .u64 x, .int .u64 y]) (by simp [results, Tryd.results17, go_sem, *]) rfl ⟨by rw [SV.out], (E.out.setCell (Nat.le_refl _) _).setCell (Nat.le_refl _) _⟩
end Go.Proofs.YtdcollehdhkngaaDoor
