/- The walk of RankTells: it answers true for every input, and leaves all old blocks as they were. No condition. -/
import Derived.Test.YtcofafiacpecnaaRows
import Derived.Test.YtcofafiacpecnaaRowKit
import Derived.Test.YtcofafiacpecnaaSlicesEq
import Derived.Test.YtcofafiacpecnaaSlicesEqM
import Derived.Test.YtcofafiacpecnaaRowL
import Derived.Test.YtcofafiacpecnaaMakeI
import Derived.Test.YtcofafiacpecnaaShelf
import Derived.Test.YtcofafiacpecnaaSeqA
import Derived.Test.YtcofafiacpecnaaSeqB
import Derived.Test.YtcofafiacpecnaaRankMath
import Derived.Test.YtcofafiacpecnaaRankA
import Derived.Test.YtcofafiacpecnaaRankB
import Derived.WalkKit
import Derived.ProofKit
import Derived.OpenShut
import Derived.Deep.QuietTactic
import Derived.BigQuiet
import Derived.Lib.SmallJoins
import Derived.Lib.Hide
import Derived.WalkSpells
import Derived.WalkLawsBesides
import Derived.IntWalk
import Derived.Deep.LoopGhost
namespace Go.Proofs.Ytcofafiacpecnaa.rankTells
open Go.ChangeShapes Go.WideShapes Go.ChangeAt Go.RowKit Go.Joins
set_option linter.unusedSimpArgs false
set_option linter.unusedVariables false

/-- is one of the first k the number? -/
def isB (zs : List Int) (x : Int) : Nat → Bool
  | 0 => false
  | k + 1 => isB zs x k || (zat zs k == x)
theorem isB_succ (zs : List Int) (x : Int) (k : Nat) : isB zs x (k + 1) = (isB zs x k || (zat zs k == x)) := rfl
theorem isB_of {zs : List Int} {x : Int} {i : Nat} (e : zat zs i = x) : ∀ {k : Nat}, i < k → isB zs x k = true
  | 0, h => absurd h (by omega)
  | k + 1, h => by
    rw [isB_succ]
    by_cases c : i = k
    · rw [← c, e]; simp
    · rw [isB_of e (show i < k by omega)]; rfl
theorem pl_ge {p : Int} {n t : Nat} (p1 : 1 ≤ p) (p2 : p ≤ 100) (n1 : 1 ≤ n) (ht : (plI p n).toNat - 1 = t) : t < n ∧ p * n ≤ 100 * ((t : Int) + 1) ∧ 100 * (t : Int) < p * n := by
  have R := pl_of p1 p2 (show (1 : Int) ≤ (n : Int) by omega)
  have k0 : 1 ≤ plI p n := R.k0
  have k1 : plI p n ≤ n := R.k1
  have e : plI p n = (n : Int) / 100 * p + ((n : Int) % 100 * p + 99) / 100 := rfl
  have s := R.s
  have b0 := R.b0
  obtain ⟨A, hA⟩ : ∃ A, (n : Int) / 100 * p = A := ⟨_, rfl⟩
  obtain ⟨B, hB⟩ : ∃ B, (n : Int) % 100 * p = B := ⟨_, rfl⟩
  rw [hA, hB] at e s
  rw [hB] at b0
  omega
set_option maxRecDepth 100000 in
set_option maxHeartbeats 4000000 in
theorem walk_no (p y : Int) (A : Option Addr) (c n : Nat) (zs : List Int) (w : World) (hn : zs.length = n) (hr : RdI w .i64 A zs) (hp : (Lit.int .i64 p).wf = true) (n1 : n ≤ 200) (h : p < 1 ∨ 100 < p ∨ n < 1) :
    Calls Try.prog 12 #[.int .i64 p, .slice A n c, .int .i64 y] w fun e w' => e = .returned (.bool true) ∧ Below w.heap.size w w' := by
  have K := Lib.hid (rof_no p A c n zs w hn hr hp (by omega) h)
  have HRR := Lib.hid hr
  have HN := Lib.hid hn
  obtain ⟨b, hb⟩ : ∃ b, blN zs y n = b := ⟨_, rfl⟩
  have K1 := Lib.hid (fun w (h : RdI w .i64 A zs) => rbelow_any y A c n zs w hn h (by omega))
  have K2 := Lib.hid (fun w (h : RdI w .i64 A zs) => lbelow_any y A c n zs w hn h (by omega))
  rw [hb] at K1 K2
  have q1 : ((b : Int) != (b : Int)) = false := by simp
  have q2 : (b != b) = false := by simp
  clear hn hr hb
  rcases (show p < 1 ∨ (¬ p < 1 ∧ 100 < p) ∨ (¬ p < 1 ∧ ¬ 100 < p ∧ n = 0) by omega) with h1 | ⟨h1, h2⟩ | ⟨h1, h2, h3⟩
  · clear h
    go_enter Try.func12, Try.ntmps12
    go_wp2_with fail
    refine K.out.mono ?_
    rintro e w1 ⟨rfl, hb1⟩
    go_wp2_with (first
      | (go_at_call 58; refine (K1.out _ (HRR.out.kept hb1)).mono ?_; rintro e w2 ⟨rfl, rfl⟩)
      | (go_at_call 59; refine (K2.out _ (HRR.out.kept hb1)).mono ?_; rintro e w2 ⟨rfl, rfl⟩)
      | (go_at_call 56; refine (rkalive _).mono ?_; rintro e w3 ⟨rfl, hb3⟩))
    go_ret
    exact ⟨rfl, hb1.trans (hb3.mono hb1.size)⟩
  · clear h
    go_enter Try.func12, Try.ntmps12
    go_wp2_with fail
    refine K.out.mono ?_
    rintro e w1 ⟨rfl, hb1⟩
    go_wp2_with (first
      | (go_at_call 58; refine (K1.out _ (HRR.out.kept hb1)).mono ?_; rintro e w2 ⟨rfl, rfl⟩)
      | (go_at_call 59; refine (K2.out _ (HRR.out.kept hb1)).mono ?_; rintro e w2 ⟨rfl, rfl⟩)
      | (go_at_call 56; refine (rkalive _).mono ?_; rintro e w3 ⟨rfl, hb3⟩))
    go_ret
    exact ⟨rfl, hb1.trans (hb3.mono hb1.size)⟩
  · subst h3
    clear h
    go_enter Try.func12, Try.ntmps12
    go_wp2_with fail
    refine K.out.mono ?_
    rintro e w1 ⟨rfl, hb1⟩
    go_wp2_with (first
      | (go_at_call 58; refine (K1.out _ (HRR.out.kept hb1)).mono ?_; rintro e w2 ⟨rfl, rfl⟩)
      | (go_at_call 59; refine (K2.out _ (HRR.out.kept hb1)).mono ?_; rintro e w2 ⟨rfl, rfl⟩)
      | (go_at_call 56; refine (rkalive _).mono ?_; rintro e w3 ⟨rfl, hb3⟩))
    go_ret
    exact ⟨rfl, hb1.trans (hb3.mono hb1.size)⟩
set_option maxRecDepth 100000 in
set_option maxHeartbeats 8000000 in
theorem walk_ok (p y P : Int) (A : Option Addr) (c n t : Nat) (zs : List Int) (w : World) (hn : zs.length = n) (hr : RdI w .i64 A zs) (n0 : 1 ≤ n) (n1 : n ≤ 200) (p1 : 1 ≤ p) (p2 : p ≤ 100) (ht : (plI p n).toNat - 1 = t) (hP : p * n = P) :
    Calls Try.prog 12 #[.int .i64 p, .slice A n c, .int .i64 y] w fun e w' => e = .returned (.bool true) ∧ Below w.heap.size w w' := by
  have K := rof_ok p A c n t zs w hn hr p1 p2 n0 (by omega) ht
  obtain ⟨t1, g1, g2⟩ := pl_ge p1 p2 n0 ht
  rw [hP] at g1 g2
  have ge : t + 1 ≤ blN zs (zat (srt zs) t) n := by have := bl_ge (zs := zs) (k := t + 1) (by omega) (by omega); rwa [Nat.add_sub_cancel, hn] at this
  have BL0 : ∀ u, u < zat (srt zs) t → blN zs u n < t + 1 := fun u hu => by have := bl_lt (zs := zs) (k := t + 1) (y := u) (by omega) (by omega) (by rwa [Nat.add_sub_cancel]); rwa [hn] at this
  obtain ⟨i, hi, ei⟩ := srt_in (zs := zs) (k := t) (by omega)
  have bx := bl_le zs (zat (srt zs) t) n
  obtain ⟨x, hx⟩ : ∃ x, zat (srt zs) t = x := ⟨_, rfl⟩
  rw [hx] at K ge BL0 ei bx
  have IB := Lib.hid (isB_of ei (show i < n by omega))
  have BL := Lib.hid BL0
  have HK := Lib.hid K
  have HRR := Lib.hid hr
  have HN := Lib.hid hn
  obtain ⟨b, hb⟩ : ∃ b, blN zs y n = b := ⟨_, rfl⟩
  have K1 := Lib.hid (fun w (h : RdI w .i64 A zs) => rbelow_any y A c n zs w hn h (by omega))
  have K2 := Lib.hid (fun w (h : RdI w .i64 A zs) => lbelow_any y A c n zs w hn h (by omega))
  have K3 := Lib.hid (fun w (h : RdI w .i64 A zs) => lbelow_any x A c n zs w hn h (by omega))
  rw [hb] at K1 K2
  obtain ⟨z, hz⟩ : ∃ z, blN zs x n = z := ⟨_, rfl⟩
  rw [hz] at K3 ge bx
  have q1 : ((b : Int) != (b : Int)) = false := by simp
  have q2 : (b != b) = false := by simp
  have hw : IntKind.i64.wrap (p * (n : Int)) = P := by rw [hP]; exact IntWalk.i64_in _ (by omega)
  have le1 : P ≤ 100 * (z : Int) := by omega
  have nz : (n == 0) = false := by rw [beq_eq_false_iff_ne]; omega
  have nz2 : ¬ n = 0 := by omega
  have nz3 : ((n : Int) == 0) = false := by rw [beq_eq_false_iff_ne]; omega
  obtain ⟨b0, off, rfl, hlt0, _⟩ := rdI_row hr (by omega)
  clear K hn hr hb hz hx BL0 ei hP ht
  go_enter Try.func12, Try.ntmps12
  go_wp2_with fail
  refine HK.out.mono ?_
  rintro e w1 ⟨rfl, hb1⟩
  have HR1 := Lib.hid (HRR.out.kept hb1)
  go_wp2_with (first
    | (go_at_call 58; refine (K1.out _ HR1.out).mono ?_; rintro e w2 ⟨rfl, rfl⟩)
    | (go_at_call 59; refine (K2.out _ HR1.out).mono ?_; rintro e w2 ⟨rfl, rfl⟩))
  go_loopg [9, 10] n (fun g is i wr => ∃ k : Nat, k ≤ n ∧ g = n - k ∧ i = .int .i64 k ∧ is = .bool (isB zs x k) ∧ wr = w1)
  case atStart => exact ⟨0, by omega, by omega, rfl, rfl, rfl⟩
  case round =>
    obtain ⟨k, hk, rfl, rfl, rfl, rfl⟩ := hrel
    by_cases h : k < n
    · obtain ⟨b9, off9, e9, _, hc⟩ := rdI_row HR1.out (by have := HN.out; omega)
      obtain ⟨rfl, rfl⟩ : b0 = b9 ∧ off = off9 := by cases e9; exact ⟨rfl, rfl⟩
      have ck := hc k (by have := HN.out; omega)
      obtain ⟨u, hu⟩ : ∃ u, zat zs k = u := ⟨_, rfl⟩
      rw [hu] at ck
      clear hc e9
      cases hi : isB zs x k
      · by_cases d : u < x
        · have EI := Lib.hid (show isB zs x (k + 1) = (u == x) by rw [isB_succ, hi, hu]; simp)
          have d1 : decide (u < x) = true := by simp [d]
          have bb := bl_le zs u n
          have bz := BL.out u d
          obtain ⟨v, hv⟩ : ∃ v, blN zs u n = v := ⟨_, rfl⟩
          have KV := Lib.hid (fun w (h : RdI w .i64 (some ⟨b0, off, none⟩) zs) => lbelow_any u (some ⟨b0, off, none⟩) c n zs w HN.out h (by omega))
          rw [hv] at bb bz KV
          have nle : ¬ P ≤ 100 * (v : Int) := by omega
          clear hv
          clear hi hu
          go_wp2_with (go_at_call 59; refine (KV.out _ HR1.out).mono ?_; rintro e w2 ⟨rfl, rfl⟩)
          go_roundg (n - (k + 1))
          case measure => omega
          case rel => exact ⟨k + 1, by omega, rfl, by go_num, by rw [EI.out], rfl⟩

        · have EI := Lib.hid (show isB zs x (k + 1) = (u == x) by rw [isB_succ, hi, hu]; simp)
          have d1 : decide (u < x) = false := by simp [d]
          clear hi hu
          go_wp2_with fail
          go_roundg (n - (k + 1))
          case measure => omega
          case rel => exact ⟨k + 1, by omega, rfl, by go_num, by rw [EI.out], rfl⟩

      · by_cases d : u < x
        · have EI := Lib.hid (show isB zs x (k + 1) = true by rw [isB_succ, hi, hu]; simp)
          have d1 : decide (u < x) = true := by simp [d]
          have bb := bl_le zs u n
          have bz := BL.out u d
          obtain ⟨v, hv⟩ : ∃ v, blN zs u n = v := ⟨_, rfl⟩
          have KV := Lib.hid (fun w (h : RdI w .i64 (some ⟨b0, off, none⟩) zs) => lbelow_any u (some ⟨b0, off, none⟩) c n zs w HN.out h (by omega))
          rw [hv] at bb bz KV
          have nle : ¬ P ≤ 100 * (v : Int) := by omega
          clear hv
          clear hi hu
          go_wp2_with (go_at_call 59; refine (KV.out _ HR1.out).mono ?_; rintro e w2 ⟨rfl, rfl⟩)
          go_roundg (n - (k + 1))
          case measure => omega
          case rel => exact ⟨k + 1, by omega, rfl, by go_num, by rw [EI.out], rfl⟩

        · have EI := Lib.hid (show isB zs x (k + 1) = true by rw [isB_succ, hi, hu]; simp)
          have d1 : decide (u < x) = false := by simp [d]
          clear hi hu
          go_wp2_with fail
          go_roundg (n - (k + 1))
          case measure => omega
          case rel => exact ⟨k + 1, by omega, rfl, by go_num, by rw [EI.out], rfl⟩

    · obtain rfl : k = n := by omega
      rw [IB.out]
      have B1 := hb1
      go_wp2_with (first
        | (go_at_call 59; refine (K3.out _ HR1.out).mono ?_; rintro e w2 ⟨rfl, rfl⟩)
        | (go_at_call 56; refine (rkalive _).mono ?_; rintro e w3 ⟨rfl, hb3⟩))
      go_ret
      exact ⟨rfl, B1.trans (hb3.mono B1.size)⟩
theorem walk {p y : Int} {A : Option Addr} {c : Nat} {zs : List Int} {w : World} (w0 : (Lit.int .i64 p).wf = true) (hl : zs.length ≤ c) (hm : c ≤ maxLen) (hr : RdI w .i64 A zs) (w2 : (Lit.int .i64 y).wf = true) :
    Calls Try.prog 12 #[.int .i64 p, .slice A zs.length c, .int .i64 y] w fun e w' => e = .returned (.bool true) ∧ Below w.heap.size w w' := by
  obtain ⟨n, hn⟩ : ∃ n, zs.length = n := ⟨_, rfl⟩
  rw [hn]
  by_cases h1 : n ≤ 200
  · by_cases h : p < 1 ∨ 100 < p ∨ n < 1
    · exact walk_no p y A c n zs w hn hr w0 h1 h
    · exact walk_ok p y _ A c n _ zs w hn hr (by omega) h1 (by omega) (by omega) rfl rfl
  · unfold maxLen at hm
    have h2 : 200 < n := by omega
    have h3 : n ≤ 4611686018427387904 ∨ True := Or.inr trivial
    clear hr hn
    go_enter Try.func12, Try.ntmps12
    go_wp2_with fail
    go_ret
    exact ⟨rfl, Below.refl _ _⟩

end Go.Proofs.Ytcofafiacpecnaa.rankTells
