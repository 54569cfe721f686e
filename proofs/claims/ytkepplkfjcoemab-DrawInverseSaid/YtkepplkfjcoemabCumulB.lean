/- Contracts of the document's Weights and Table. -/
import Derived.Test.YtkepplkfjcoemabRows
import Derived.Test.YtkepplkfjcoemabRowKit
import Derived.Test.YtkepplkfjcoemabSlicesEq
import Derived.Test.YtkepplkfjcoemabRowL
import Derived.Test.YtkepplkfjcoemabNumsMath
import Derived.Test.YtkepplkfjcoemabNumsA
import Derived.Test.YtkepplkfjcoemabNumsB
import Derived.Test.YtkepplkfjcoemabDivMath
import Derived.Test.YtkepplkfjcoemabDivA
import Derived.Test.YtkepplkfjcoemabCumulMath
import Derived.Test.YtkepplkfjcoemabCumulA
import Derived.WalkKit
import Derived.IntWalk
import Derived.Lib.Hide
import Derived.WalkSpells
import Derived.WalkLawsBesides
import Derived.Laws.CopyOwn
import Derived.Laws.MakeOwn
import Derived.Laws.OwnMore
import Derived.Deep.QuietTactic
import Derived.BigQuiet
namespace Go.Proofs.Ytkepplkfjcoemab
open Go.RowKit
set_option linter.unusedSimpArgs false
set_option linter.unusedVariables false
theorem ownR_base {w : World} {b b' : Nat} {e : TypeId} {v : Value} {n : Nat} {xs : List Value} (h : w.ownsRow b e 1 v n xs) (hb : b' ≤ b) : w.ownsRow b' e 1 v n xs := by
  refine ⟨h.1, ?_⟩
  rcases h.2 with h1 | ⟨g, cap, cur, rfl, hg, r⟩
  · exact .inl h1
  · exact .inr ⟨g, cap, cur, rfl, Nat.le_trans hb hg, r⟩
theorem ownR_shape {w : World} {b : Nat} {e : TypeId} {v : Value} {n : Nat} {xs : List Value} (h : w.ownsRow b e 1 v n xs) : ∃ (g : Option Addr) (cap : Nat), v = .slice g n cap := by
  rcases h.2 with ⟨rfl, h0⟩ | ⟨g, cap, _, rfl, _⟩
  · exact ⟨none, 0, by rw [h0]⟩
  · exact ⟨_, cap, rfl⟩
set_option maxHeartbeats 400000 in
theorem rtimes32 (y : Int) (w : World) (h0 : 0 ≤ y) (h1 : y ≤ 4294967295) :
    Calls Try.prog 60 #[.int .u64 y, .int .u64 4294967296] w fun e w' => e = .returned (.tuple #[.int .u64 0, .int .u64 (y * 4294967296)]) ∧ w = w' := by
  obtain ⟨x, rfl⟩ := Int.eq_ofNat_of_zero_le h0
  have h := times_any x 4294967296 w (by omega) (by omega)
  refine h.mono fun e w' ⟨h2, h3⟩ => ⟨?_, h3⟩
  rw [h2, Nat.div_eq_of_lt (by omega), Nat.mod_eq_of_lt (by omega), Int.natCast_mul]; rfl
set_option maxHeartbeats 400000 in
theorem rover32 (l c : Int) (w : World) (h0 : 0 ≤ l) (h1 : l ≤ 18446744073709551615) (h2 : 1 ≤ c) (h3 : c ≤ 4294967295) :
    Calls Try.prog 61 #[.int .u64 0, .int .u64 l, .int .u64 c] w fun e w' => (∃ m, e = .returned (.tuple #[.int .u64 (l / c), .int .u64 m])) ∧ ∃ k, w' = w.drewN k := by
  obtain ⟨x, rfl⟩ := Int.eq_ofNat_of_zero_le h0
  obtain ⟨d, rfl⟩ := Int.eq_ofNat_of_zero_le (show 0 ≤ c by omega)
  have h := over_any 0 x d w (by omega) (by omega) (by omega)
  refine h.mono fun e w' ⟨h4, h5⟩ => ⟨⟨(x % d : Nat), ?_⟩, h5⟩
  rw [h4, Nat.zero_mul, Nat.zero_add, Int.natCast_ediv]
set_option maxRecDepth 100000 in
set_option maxHeartbeats 1000000 in
theorem rweights_any (r n : Nat) (w : World) (hr : r ≤ 4000) (hn1 : 1 ≤ n) (hn : n ≤ 40) (hz : wk 67108864 r n = 0) (hp : ∀ i, i < n → 0 < wk 67108864 r i) (hs : ∀ k, k ≤ n → sm 67108864 r k < 4294967296) :
    Calls Try.prog 26 #[.int .i64 r] w (MadeS 31 (rowL (wkI r) n) w) := by
  obtain ⟨i0, hi, hz0, hz1, hz2⟩ := info_parts info64
  have HP := Lib.hid (fun i (hi : i < n) => show 0 < wkI r i ∧ wkI r i < 4294967296 from by
    have h1 := hp i hi
    have h2 := Nat.lt_of_le_of_lt (wk_le_sm 67108864 r i) (hs (i + 1) hi)
    unfold wkI; omega)
  have HZ : Hid (wkI r n = 0) := Lib.hid (by unfold wkI; rw [hz]; rfl)
  have h1 := World.ownsRow_lit (base := w.heap.size) (e := 31) (size := 1) w #[.int .u64 67108864] 1 (Nat.le_refl _) (by unfold maxLen; omega) rfl
  have H1 : Hid ((w.alloc (.cells #[.int .u64 67108864] 31)).ownsRow w.heap.size 31 1 (.slice (some ⟨w.heap.size, 0, none⟩) 1 1) 1 ((rowL (wkI r) 1).map (Value.int .u64))) := Lib.hid h1
  clear hp hz hs h1
  have hst := Lib.hid (wk_step r)
  go_enter Try.func26, Try.ntmps26
  go_wp2_with fail
  go_loopw [3, 4] (fun l i wr => ∃ j : Nat, j + 1 ≤ n ∧ i = .int .i64 (j + 1 : Nat) ∧ wr.ownsRow w.heap.size 31 1 l (j + 1) ((rowL (wkI r) (j + 1)).map (Value.int .u64)) ∧ Below w.heap.size w wr) (fun _ i _ => n + 1 - (intOf i).toNat)
  case atStart => exact ⟨0, by omega, rfl, H1.out, (Below.refl _ _).alloc (Nat.le_refl _) _⟩
  case round =>
    obtain ⟨j, hj, rfl, hown, hb⟩ := hrel
    obtain ⟨g, cap, rfl, hg, hcap⟩ := ownR_head hown (by omega)
    have c1 := ownR_cell hown (Nat.lt_succ_self j)
    obtain ⟨p0, p1⟩ := HP.out j (by omega)
    obtain ⟨q0, q1⟩ := wk_prod hr (show 0 ≤ wkI r j by omega) p1
    have hsk := Lib.hid (hst.out j)
    obtain ⟨x, hx⟩ : ∃ x, wkI r j = x := ⟨_, rfl⟩
    rw [hx] at c1 p0 p1 q0 q1 hsk
    clear hx
    have i2 : (0 : Int) ≤ (j : Int) + 1 := by omega
    have i3 : ((j : Int) + 1).toNat = j + 1 := by omega
    have w1 : IntKind.i64.wrap (j : Int) = j := IntWalk.i64_in _ (by omega)
    have hl0 : ((1000 * ((j : Int) + 1)) == 0) = false := by rw [beq_eq_false_iff_ne]; omega
    by_cases h : j + 1 < n
    · obtain ⟨p2, p3⟩ := HP.out (j + 1) h
      rw [hsk.out] at p2 p3
      obtain ⟨y, hy⟩ : ∃ y, x * (r : Int) / (1000 * ((j : Int) + 1)) = y := ⟨_, rfl⟩
      have hyw : wkI r (j + 1) = y := by rw [hsk.out]; exact hy
      have hrow := Lib.hid (rowL_succ (wkI r) (j + 1))
      rw [hyw] at hrow
      have hne : (y == 0) = false := by rw [beq_eq_false_iff_ne, ← hy]; omega
      rw [hy] at p2 p3
      clear hyw
      go_wp2_with (at_builtin; refine wpList_append_own _ rfl _ _ 33 rfl w.heap.size 31 i0 (.int .u64 0) 1 8 Try.underlying33 hi hz0 hz1 hz2 rfl (by decide) _ _ _ rfl (hown.alloc _) ⟨_, 0, none⟩ 1 1 [.int .u64 y] rfl rfl one_newR (by intro u hu; simp at hu; subst hu; rfl) (by unfold maxLen; omega) (by omega) (by have := hb.size; simp; omega) ?_; intro v' w1 hown' hgrow _)
      have hb1 : Below w.heap.size w w1 := by
        refine (hb.alloc hb.size _).grown hgrow (by have := hb.size; simp; omega) (fun g hg => ?_)
        first | exact ownR_ge hown hg | exact ownR_ge hown hg.symm
      have hown2 : w1.ownsRow w.heap.size 31 1 v' (j + 1 + 1) ((rowL (wkI r) (j + 1 + 1)).map (Value.int .u64)) := by
        rw [hrow.out, List.map_append]; exact hown'
      clear hown' hgrow
      go_wp2_with fail
      go_roundw
      case rel => exact ⟨j + 1, by omega, by go_num, hown2, hb1⟩
      case measure => simp [intOf]; omega
    · have hjn : j + 1 = n := by omega
      have e0 : x * (r : Int) / (1000 * ((j : Int) + 1)) = 0 := by rw [← hsk.out, hjn]; exact HZ.out
      have HJ := Lib.hid hjn
      clear hjn h
      go_wp2_with fail
      go_ret
      exact ⟨_, rfl, by rw [rowL_len, ← HJ.out]; exact hown, hb⟩
set_option maxRecDepth 100000 in
set_option maxHeartbeats 2000000 in
theorem rtable_any (r n : Nat) (w : World) (hr : r ≤ 4000) (hn1 : 1 ≤ n) (hn : n ≤ 40) (hz : wk 67108864 r n = 0) (hp : ∀ i, i < n → 0 < wk 67108864 r i) (hs : ∀ k, k ≤ n → sm 67108864 r k < 4294967296) (h0 : 0 < sm 67108864 r n) :
    Calls Try.prog 27 #[.int .i64 r] w (MadeS 31 (rowL (tbI r n) n) w) := by
  obtain ⟨i0, hi, hz0, hz1, hz2⟩ := info_parts info64
  have HW := Lib.hid (rweights_any r n w hr hn1 hn hz hp hs)
  have BS := Lib.hid (fun k (hk : k ≤ n) => show 0 ≤ soI r k ∧ soI r k ≤ 4294967295 ∧ 0 ≤ wkI r k from by
    have h2 := hs k hk
    unfold soI wkI; omega)
  have H0 : Hid (0 < soI r n) := Lib.hid (by unfold soI; omega)
  have S0 : Hid (soI r 0 = 0) := Lib.hid rfl
  have hst := Lib.hid (so_step r)
  clear hz hp hs h0
  go_enter Try.func27, Try.ntmps27
  go_wp2_with fail
  refine HW.out.mono ?_
  rintro e w0 ⟨v, rfl, hown0, hb0⟩
  rw [rowL_len] at hown0
  obtain ⟨g, cap, rfl, hg, hcap⟩ := ownR_head hown0 (by omega)
  have HC := Lib.hid (fun i (hi : i < n) => ownR_cell hown0 hi)
  have hgl : g < w0.heap.size := lt_of_cell (a := ⟨g, 0, none⟩) (HC.out 0 (by omega))
  have HB0 := Lib.hid hb0
  clear hown0 hb0
  go_wp2_with fail
  go_loop [4, 5] (fun s i => ∃ k : Nat, k ≤ n ∧ i = .int .i64 k ∧ s = .int .u64 (soI r k)) (fun _ i => n - (intOf i).toNat)
  case atStart => exact ⟨0, by omega, rfl, by rw [S0.out]⟩
  case round =>
    obtain ⟨k, hk, rfl, rfl⟩ := hrel
    by_cases h : k < n
    · have c1 := HC.out k h
      obtain ⟨b1, b2, b3⟩ := BS.out k hk
      obtain ⟨b4, b5, _⟩ := BS.out (k + 1) h
      have e1 := hst.out k
      have E1 := Lib.hid e1
      rw [e1] at b4 b5
      clear e1
      obtain ⟨x, hx⟩ : ∃ x, wkI r k = x := ⟨_, rfl⟩
      obtain ⟨y, hy⟩ : ∃ y, soI r k = y := ⟨_, rfl⟩
      rw [hx] at c1 b3 b4 b5 E1
      rw [hy] at b1 b2 b4 b5 E1
      rw [hy]
      clear hx hy
      go_wp2_with fail
      go_round
      case rel => exact ⟨k + 1, by omega, by go_num, by rw [E1.out]⟩
      case measure => simp [intOf]; omega
    · obtain rfl : k = n := by omega
      obtain ⟨t1, t2, _⟩ := BS.out k hk
      have t0 := H0.out
      obtain ⟨T, hT⟩ : ∃ T, soI r k = T := ⟨_, rfl⟩
      have HT := Lib.hid hT
      rw [hT] at t0 t1 t2
      rw [hT]
      clear hT
      go_wp2_with fail
      go_loopw [6, 7] (fun l i wr => ∃ j : Nat, j ≤ k ∧ i = .int .i64 j ∧ wr.ownsRow w0.heap.size 31 1 l j ((rowL (tbI r k) j).map (Value.int .u64)) ∧ Below w0.heap.size w0 wr) (fun _ i _ => k - (intOf i).toNat)
      case atStart => exact ⟨0, by omega, rfl, World.ownsRow_nil _ _ _ _, Below.refl _ _⟩
      case round =>
        obtain ⟨j, hj, rfl, hown, hb⟩ := hrel
        obtain ⟨A, ac, rfl⟩ := ownR_shape hown
        by_cases h : j < k
        · have HO := Lib.hid hown
          have HBr := Lib.hid hb
          clear hown hb
          go_wp2_with fail
          go_loop [8, 9] (fun s i => ∃ m : Nat, m ≤ j + 1 ∧ i = .int .i64 m ∧ s = .int .u64 (soI r m)) (fun _ i => j + 1 - (intOf i).toNat)
          case atStart => exact ⟨0, by omega, rfl, by rw [S0.out]⟩
          case round =>
            obtain ⟨m, hm, rfl, rfl⟩ := hrel
            by_cases h' : m ≤ j
            · have c1 := (HBr.out.cell (p := ⟨g, m, none⟩) hgl).trans (HC.out m (by omega))
              obtain ⟨b1, b2, b3⟩ := BS.out m (by omega)
              obtain ⟨b4, b5, _⟩ := BS.out (m + 1) (by omega)
              have e1 := hst.out m
              have E1 := Lib.hid e1
              rw [e1] at b4 b5
              clear e1
              obtain ⟨x, hx⟩ : ∃ x, wkI r m = x := ⟨_, rfl⟩
              obtain ⟨y, hy⟩ : ∃ y, soI r m = y := ⟨_, rfl⟩
              rw [hx] at c1 b3 b4 b5 E1
              rw [hy] at b1 b2 b4 b5 E1
              rw [hy]
              clear hx hy
              go_wp2_with fail
              go_round
              case rel => exact ⟨m + 1, by omega, by go_num, by rw [E1.out]⟩
              case measure => simp [intOf]; omega
            · obtain rfl : m = j + 1 := by omega
              obtain ⟨b1, b2, _⟩ := BS.out (j + 1) h
              have hrow := Lib.hid (rowL_succ (tbI r k) j)
              have htb := tb_so r k j
              rw [htb, HT.out] at hrow
              obtain ⟨x, hx⟩ : ∃ x, soI r (j + 1) = x := ⟨_, rfl⟩
              rw [hx] at b1 b2 hrow
              rw [hx]
              clear hx htb
              go_wp2_with fail
              refine (rtimes32 x _ b1 b2).mono ?_
              rintro e w' ⟨rfl, rfl⟩
              go_wp2_with fail
              refine (rover32 (x * 4294967296) T _ (by omega) (by omega) (by omega) t2).mono ?_
              rintro e w' ⟨⟨md, rfl⟩, q, rfl⟩
              obtain ⟨y, hy⟩ : ∃ y, x * 4294967296 / T = y := ⟨_, rfl⟩
              rw [hy] at hrow
              rw [hy]
              clear hy
              have hown : (wr.drewN q).ownsRow w0.heap.size 31 1 (.slice A j ac) j ((rowL (tbI r k) j).map (Value.int .u64)) := HO.out
              have hb : Below w0.heap.size w0 (wr.drewN q) := below_drewN HBr.out q
              go_wp2_with (at_builtin; refine wpList_append_own _ rfl _ _ 33 rfl w0.heap.size 31 i0 (.int .u64 0) 1 8 Try.underlying33 hi hz0 hz1 hz2 rfl (by decide) _ _ _ rfl (hown.alloc _) ⟨_, 0, none⟩ 1 1 [.int .u64 y] rfl rfl one_newR (by intro u hu; simp at hu; subst hu; rfl) (by unfold maxLen; omega) (by omega) (by have := hb.size; simp at this ⊢; omega) ?_; intro v' w1 hown' hgrow _)
              have hb1 : Below w0.heap.size w0 w1 := by
                refine (hb.alloc hb.size _).grown hgrow (by have := hb.size; simp at this ⊢; omega) (fun g hg => ?_)
                first | exact ownR_ge hown hg | exact ownR_ge hown hg.symm
              have hown2 : w1.ownsRow w0.heap.size 31 1 v' (j + 1) ((rowL (tbI r k) (j + 1)).map (Value.int .u64)) := by
                rw [hrow.out, List.map_append]; exact hown'
              clear hown' hgrow hown hb
              go_wp2_with fail
              go_roundw
              case rel => exact ⟨j + 1, by omega, by go_num, hown2, hb1⟩
              case measure => simp [intOf]; omega
        · obtain rfl : j = k := by omega
          go_wp2_with fail
          go_ret
          exact ⟨_, rfl, by rw [rowL_len]; exact ownR_base hown HB0.out.size, HB0.out.trans (hb.mono HB0.out.size)⟩
end Go.Proofs.Ytkepplkfjcoemab
