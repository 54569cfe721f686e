/- Contract of shuffle.Of at strings; shuffle.Order where its number may not be. -/
import Derived.Test.YteebeiflipfbkaaRows
import Derived.Test.YteebeiflipfbkaaRowKit
import Derived.Test.YteebeiflipfbkaaSlicesEq
import Derived.Test.YteebeiflipfbkaaSlicesEqM
import Derived.Test.YteebeiflipfbkaaRowL
import Derived.Test.YteebeiflipfbkaaMakeI
import Derived.Test.YteebeiflipfbkaaBlocks
import Derived.Test.YteebeiflipfbkaaWordsA
import Derived.Test.YteebeiflipfbkaaShufMath
import Derived.Test.YteebeiflipfbkaaShufA
import Derived.Test.YteebeiflipfbkaaShufB
import Derived.Test.YteebeiflipfbkaaShufD
import Derived.Test.YteebeiflipfbkaaShufE
import Derived.Test.YteebeiflipfbkaaShufF
import Derived.Test.YteebeiflipfbkaaShufO
import Derived.Test.YteebeiflipfbkaaShufP
import Derived.Test.YteebeiflipfbkaaRowT
import Derived.WalkKit
import Derived.IntWalk
import Derived.Lib.Hide
import Derived.Lib.SmallJoins
import Derived.WalkSpells
import Derived.WalkLawsBesides
import Derived.Laws.CopyOwn
import Derived.Laws.MakeOwn
import Derived.Laws.OwnMore
import Derived.OwnWalk
import Derived.Deep.QuietTactic
import Derived.Deep.RegionHeld3
import Derived.Deep.LoopGhost
import Derived.Deep.Onto
import Derived.BigQuiet
import Derived.BigRegion
namespace Go.Proofs.Yteebeiflipfbkaa
open Go.RowKit
set_option linter.unusedSimpArgs false
set_option linter.unusedVariables false
set_option maxHeartbeats 1000000 in
theorem porder_arg (n : Int) (W : Option Addr) (m c : Nat) (a : Int) (w : World) (h : n < 0 ∨ 65536 < n) :
    Calls Try.prog 36 #[.int .i64 n, .agg #[.slice W m c, .int .i64 a]] w fun e w' => e = .returned (.tuple #[.slice none 0 0, .agg #[.slice W m c, .int .i64 a], .int .i64 22]) ∧ Below w.heap.size w w' := by
  rcases (show n < 0 ∨ (¬ n < 0 ∧ 65536 < n) by omega) with h1 | ⟨h1, h2⟩
  all_goals (
    clear h
    go_enter Try.func36, Try.ntmps36
    go_wp2_with fail
    go_region
    go_wp2_with fail
    refine bodyPost_ret (v := .tuple #[.slice none 0 0, .agg #[.slice W m c, .int .i64 a], .int .i64 22]) (by simp [results, Try.results36, go_sem, *]) rfl ⟨rfl, ?_⟩
    exact (((Below.refl w.heap.size w).alloc (Nat.le_refl _) _).alloc (by simp) _).drew)
theorem strInfo : (Try.prog.info? 9).map (fun i => (i.zero, i.size, i.bytes)) = some (some (.string ByteArray.empty), 1, 16) := by kernel_rfl
/-- the blocks of shuffle.Of -/
structure OT (w X : World) (W : Option Addr) (m c : Nat) (a : Int) : Prop where
  b : Blk X w.heap.size 64 #[.slice W m c, .int .i64 a]
  r : Blk X (w.heap.size + 1) 64 #[.slice none 0 0, .int .i64 0]
  e : Below w.heap.size w X
theorem OT.next {w X Y : World} {W : Option Addr} {m c : Nat} {a : Int} (h : OT w X W m c a) (hb : Below X.heap.size X Y) : OT w Y W m c a := ⟨h.b.next hb, h.r.next hb, h.e.trans (hb.mono h.e.size)⟩
theorem OT.alloc {w X : World} {W : Option Addr} {m c : Nat} {a : Int} (h : OT w X W m c a) (o : Obj) : OT w (X.alloc o) W m c a := ⟨h.b.alloc o, h.r.alloc o, h.e.alloc h.e.size o⟩
theorem ot_start (w : World) (W : Option Addr) (m c : Nat) (a : Int) : OT w ((w.alloc (.cells #[.slice W m c, .int .i64 a] 64)).alloc (.cells #[.slice none 0 0, .int .i64 0] 64)) W m c a := by
  refine ⟨(Blk.new w _ _).alloc _, ?_, ((Below.refl _ _).alloc (Nat.le_refl _) _).alloc (by simp) _⟩
  have h := Blk.new (w.alloc (.cells #[.slice W m c, .int .i64 a] 64)) #[(.slice none 0 0 : Value), .int .i64 0] 64
  rw [World.size_alloc] at h
  exact h
set_option maxRecDepth 100000 in
set_option maxHeartbeats 4000000 in
theorem psof_dry (k m c tc : Nat) (a : Int) (W T : Option Addr) (ws : Nat → Int) (t : Nat → ByteArray) (w : World) (hk : k ≤ 300) (hm : m ≤ 1000) (ha : -9223372036854775808 ≤ a) (ha' : a ≤ 1099511627776) (hw : ∀ j : Nat, (j : Int) < lf m a → 0 ≤ ws j ∧ ws j ≤ 4294967295) (hW : ∀ X, Below w.heap.size w X → ∀ j : Nat, (j : Int) < lf m a → ∃ b o ka : Nat, W = some ⟨b, o, none⟩ ∧ a + j = (ka : Nat) ∧ ka < m ∧ X.cell? ⟨b, o + ka, none⟩ = some (.int .u32 (ws j))) (hd : lf m a < ((k - 1 : Nat) : Int)) :
    Calls Try.prog 41 #[.slice T k tc, .agg #[.slice W m c, .int .i64 a]] w fun e w' => e = .returned (.tuple #[.slice none 0 0, .agg #[.slice W m c, .int .i64 a], .int .i64 50]) ∧ Below w.heap.size w w' := by
  have O0 := Lib.hid (ot_start w W m c a)
  have P := Lib.hid (porder_loop (k - 1) k m c a W ws ((w.alloc (.cells #[.slice W m c, .int .i64 a] 64)).alloc (.cells #[.slice none 0 0, .int .i64 0] 64)) (by omega) (by omega) hk hm ha ha' hw (fun Y hb j hj => hW Y (O0.out.e.trans (hb.mono O0.out.e.size)) j hj) (fun e w' => e = .returned (.tuple #[.slice none 0 0, .agg #[.slice W m c, .int .i64 a], .int .i64 50]) ∧ Below (((w.alloc (.cells #[.slice W m c, .int .i64 a] 64)).alloc (.cells #[.slice none 0 0, .int .i64 0] 64))).heap.size ((w.alloc (.cells #[.slice W m c, .int .i64 a] 64)).alloc (.cells #[.slice none 0 0, .int .i64 0] 64)) w') (fun h => by omega) (fun _ w' hb => ⟨rfl, hb⟩))
  clear hW hw hd
  go_enter Try.func41, Try.ntmps41
  go_wp2_with fail
  refine P.out.mono ?_
  rintro e w1 ⟨rfl, hb1⟩
  have O1 := (O0.out.next hb1).alloc (.cells #[.slice W m c, .int .i64 a] 64)
  clear hb1 P
  go_wp2_with fail
  obtain ⟨V, hV⟩ : ∃ V, w1.alloc (.cells #[.slice W m c, .int .i64 a] 64) = V := ⟨_, rfl⟩
  rw [hV] at O1 ⊢
  clear hV
  obtain ⟨p0, p1, _, _⟩ := O1.b.pair
  obtain ⟨r0, r1, f0, f1⟩ := O1.r.pair
  have EV := Lib.hid O1.e
  have RV := Lib.hid O1.r
  clear O0 O1
  go_region
  obtain ⟨Y, hY⟩ : ∃ Y, ((V.setCell ⟨w.heap.size + 1, 0, none⟩ (.slice W m c)).setCell ⟨w.heap.size + 1, 1, none⟩ (.int .i64 a)).drew = Y := ⟨_, rfl⟩
  rw [hY]
  have RY : Blk Y (w.heap.size + 1) 64 #[.slice W m c, .int .i64 a] := by rw [← hY]; exact Blk.dr (RV.out.put2 _ _)
  have EY : Below w.heap.size w Y := by rw [← hY]; exact ((EV.out.setCell (by show w.heap.size ≤ w.heap.size + 1; omega) _).setCell (by show w.heap.size ≤ w.heap.size + 1; omega) _).drew
  obtain ⟨q0, q1, _, _⟩ := RY.pair
  have EYh := Lib.hid EY
  clear RY EY hY p0 p1 r0 r1 f0 f1
  go_wp2_with fail
  exact bodyPost_ret (v := .tuple #[.slice none 0 0, .agg #[.slice W m c, .int .i64 a], .int .i64 50]) (by simp [results, Try.results41, go_sem, *]) rfl ⟨rfl, EYh.out⟩
/-- the things in order -/
def thF (ws : Nat → Int) (k : Nat) (t : Nat → ByteArray) (i : Nat) : ByteArray := t (ordF ws k (k - 1) i).toNat
def mixT (s t : Nat → ByteArray) (j i : Nat) : ByteArray := if i < j then s i else t i
/-- things, the words that are left -/
def OfR (k : Nat) (s : Nat → ByteArray) (W : Option Addr) (m c : Nat) (a : Int) (w : World) (e : Ending) (w' : World) : Prop := ∃ A c', e = .returned (.tuple #[.slice A k c', .agg #[.slice W m c, .int .i64 a], .int .i64 0]) ∧ RdT w' A k s ∧ Below w.heap.size w w'
set_option maxRecDepth 100000 in
set_option maxHeartbeats 8000000 in
theorem psof_ok (k m c tc : Nat) (a : Int) (W T : Option Addr) (ws : Nat → Int) (t : Nat → ByteArray) (w : World) (hk : k ≤ 300) (hm : m ≤ 1000) (ha : -9223372036854775808 ≤ a) (ha' : a ≤ 1099511627776) (hw : ∀ j : Nat, (j : Int) < lf m a → 0 ≤ ws j ∧ ws j ≤ 4294967295) (hW : ∀ X, Below w.heap.size w X → ∀ j : Nat, (j : Int) < lf m a → ∃ b o ka : Nat, W = some ⟨b, o, none⟩ ∧ a + j = (ka : Nat) ∧ ka < m ∧ X.cell? ⟨b, o + ka, none⟩ = some (.int .u32 (ws j))) (hT : RdT w T k t) (hd : ((k - 1 : Nat) : Int) ≤ lf m a) :
    Calls Try.prog 41 #[.slice T k tc, .agg #[.slice W m c, .int .i64 a]] w (OfR k (thF ws k t) W m c (a + ((k - 1 : Nat) : Int)) w) := by
  obtain ⟨i0, hi, hz0, hz1, hz2⟩ := info_parts strInfo
  have O0 := Lib.hid (ot_start w W m c a)
  have P := Lib.hid (porder_loop (k - 1) k m c a W ws ((w.alloc (.cells #[.slice W m c, .int .i64 a] 64)).alloc (.cells #[.slice none 0 0, .int .i64 0] 64)) (by omega) (by omega) hk hm ha ha' hw (fun Y hb j hj => hW Y (O0.out.e.trans (hb.mono O0.out.e.size)) j hj) (fun e w' => ∃ A c', e = .returned (.tuple #[.slice A k c', .agg #[.slice W m c, .int .i64 (a + ((k - 1 : Nat) : Int))], .int .i64 0]) ∧ RdI w' .i64 A (rowL (ordF ws k (k - 1)) k) ∧ Below (((w.alloc (.cells #[.slice W m c, .int .i64 a] 64)).alloc (.cells #[.slice none 0 0, .int .i64 0] 64))).heap.size ((w.alloc (.cells #[.slice W m c, .int .i64 a] 64)).alloc (.cells #[.slice none 0 0, .int .i64 0] 64)) w' ∧ k ≤ c' ∧ c' ≤ 300) (fun _ A w' hA hb c' h1 h2 => ⟨A, c', rfl, hA, hb, h1, h2⟩) (fun h => by omega))
  have OB := Lib.hid (fun i (hi : i < k) => ord_bd (ws := ws) (n := k) (k - 1) (fun j hj => ⟨by omega, hw j (by omega)⟩) i hi)
  have HT := Lib.hid hT
  have HZ := Lib.hid (rowS_zeros k)
  have TS := Lib.hid (fun i (hi : i < k) => show (thF ws k t i).size ≤ maxLen from by
    have b := OB.out i hi
    obtain ⟨_, _, _, _, h⟩ := hT (ordF ws k (k - 1) i).toNat (by omega)
    exact h)
  obtain ⟨a', hae⟩ : ∃ a', a + ((k - 1 : Nat) : Int) = a' := ⟨_, rfl⟩
  rw [hae] at P ⊢
  clear hW hw hd hT hae
  go_enter Try.func41, Try.ntmps41
  go_wp2_with fail
  refine P.out.mono ?_
  rintro e w1 ⟨A, c', rfl, hA, hb1, hc1, hc2⟩
  have O1 := (O0.out.next hb1).alloc (.cells #[.slice W m c, .int .i64 a'] 64)
  have RO := hA.kept ((Below.refl w1.heap.size w1).alloc (Nat.le_refl _) (.cells #[.slice W m c, .int .i64 a'] 64))
  have NB := Blk.new w1 #[(.slice W m c : Value), .int .i64 a'] 64
  obtain ⟨V, hV⟩ : ∃ V, w1.alloc (.cells #[.slice W m c, .int .i64 a'] 64) = V := ⟨_, rfl⟩
  obtain ⟨nb, hnb⟩ : ∃ nb, w1.heap.size = nb := ⟨_, rfl⟩
  rw [hV] at O1 RO NB
  rw [hnb] at NB
  have O1h := Lib.hid O1; have ROh := Lib.hid RO; have NBh := Lib.hid NB; have hVh := Lib.hid hV; have hnbh := Lib.hid hnb
  have hnw : Hid (w.heap.size + 1 < nb) := Lib.hid (by
    have := (O0.out.next hb1).r.lt
    rw [hnb] at this; exact this)
  clear hb1 P hA O1 RO NB hV hnb O0
  go_wp2_with (
    at_make
    rw [hVh.out, hnbh.out]
    refine wpList_make_full _ rfl _ _ 65 rfl V.heap.size 9 i0 (.string ByteArray.empty) 1 Try.underlying65 hi hz0 hz1 _ _ _ _ k rfl rfl (by omega) (by omega) (by rw [hz2]; omega) (by unfold maxLen; omega) (Nat.le_refl _) ?_
    intro w2 hown0 hgrow0
  )
  rw [HZ.out] at hown0
  have hb0 : Below V.heap.size V w2 := (Below.refl _ _).grown hgrow0 (Nat.le_refl _) (fun k h => by cases h)
  have HO := Lib.hid (show w2.ownsRow V.heap.size 9 1 (.slice (some ⟨V.heap.size, 0, none⟩) k k) k (rowS (mixT (thF ws k t) (fun _ => ByteArray.empty) 0) k) from by
    rw [rowS_congr (u := fun _ => ByteArray.empty) (fun i _ => by unfold mixT; rw [if_neg (by omega)])]
    exact hown0)
  have HB := Lib.hid hb0
  clear hgrow0 hown0 hb0 HZ
  go_wp2_with fail
  go_loopg [34] k (fun gh iv wr => ∃ j : Nat, j ≤ k ∧ gh = k - j ∧ iv = .int .i64 j ∧ Hid (wr.ownsRow V.heap.size 9 1 (.slice (some ⟨V.heap.size, 0, none⟩) k k) k (rowS (mixT (thF ws k t) (fun _ => ByteArray.empty) j) k)) ∧ Hid (Below V.heap.size V wr))
  case atStart => exact ⟨0, by omega, rfl, rfl, HO, HB⟩
  case round =>
    clear HO HB
    obtain ⟨j, hj, rfl, rfl, HO, HB⟩ := hrel
    by_cases h : j < k
    · have hjI : (j : Int) < k := by omega
      obtain ⟨bo, oo, rfl, _, hco⟩ := rdI_row (ROh.out.kept HB.out) (by rw [rowL_len]; omega)
      have co := hco j (by rw [rowL_len]; exact h)
      rw [rowL_at _ h] at co
      obtain ⟨b0, b1⟩ := OB.out j h
      have TE : thF ws k t j = t (ordF ws k (k - 1) j).toNat := rfl
      obtain ⟨q, hq⟩ := Int.eq_ofNat_of_zero_le b0
      rw [hq] at co b1 TE
      rw [Int.toNat_natCast] at TE
      obtain ⟨bt, ot, rfl, hbt, hct⟩ := rdT_row (HT.out.kept (O1h.out.e.trans (HB.out.mono O1h.out.e.size))) (by omega)
      have ct := hct q (by omega)
      have cg := ownS_cell HO.out h
      have fg := HO.out.frozenAt j
      have HO2 := Lib.hid (show (wr.setCell ⟨V.heap.size, j, none⟩ (.string (t q))).ownsRow V.heap.size 9 1 (.slice (some ⟨V.heap.size, 0, none⟩) k k) k (rowS (mixT (thF ws k t) (fun _ => ByteArray.empty) (j + 1)) k) from by
        have h1 := ownS_put HO.out j (t q)
        rw [rowS_congr (u := mixT (thF ws k t) (fun _ => ByteArray.empty) (j + 1)) (fun i hi => ?_)] at h1
        · exact h1
        · show (if i = j then t q else mixT _ _ j i) = _
          unfold mixT
          by_cases c : i = j
          · subst c; rw [if_pos rfl, if_pos (by omega), TE]
          · rw [if_neg c]
            by_cases c2 : i < j
            · rw [if_pos c2, if_pos (by omega)]
            · rw [if_neg c2, if_neg (by omega)])
      have HB2 := Lib.hid (HB.out.setCell (p := ⟨V.heap.size, j, none⟩) (Nat.le_refl _) (.string (t q)))
      clear hco hct HO HB TE hq b0
      go_wp2_with fail
      go_roundg (k - (j + 1))
      case measure => omega
      case rel => exact ⟨j + 1, by omega, rfl, by go_num, HO2, HB2⟩
    · obtain rfl : j = k := by omega
      have O2 := O1h.out.next HB.out
      have N2 := NBh.out.next HB.out
      obtain ⟨r0, r1, f0, f1⟩ := O2.r.pair
      obtain ⟨n0, n1, _, _⟩ := N2.pair
      have nn : nb ≠ w.heap.size + 1 := by have := hnw.out; omega
      have RT := Lib.hid (show RdT ((wr.setCell ⟨w.heap.size + 1, 0, none⟩ (.slice W m c)).setCell ⟨w.heap.size + 1, 1, none⟩ (.int .i64 a')) (some ⟨V.heap.size, 0, none⟩) j (thF ws j t) from by
        have h1 := HO.out
        rw [rowS_congr (u := thF ws j t) (fun i hi => by unfold mixT; rw [if_pos hi])] at h1
        have hv : w.heap.size + 1 < V.heap.size := O1h.out.r.lt
        exact ownS_rd (own_far (own_far h1 (by show some V.heap.size ≠ some (w.heap.size + 1); intro c; have := Option.some.inj c; omega) _) (by show some V.heap.size ≠ some (w.heap.size + 1); intro c; have := Option.some.inj c; omega) _) TS.out)
      have EV := Lib.hid O2.e
      have RV := Lib.hid O2.r
      clear O2 N2 HO HB O1h NBh ROh
      go_wp2_with fail
      go_region
      obtain ⟨Y, hY⟩ : ∃ Y, ((wr.setCell ⟨w.heap.size + 1, 0, none⟩ (.slice W m c)).setCell ⟨w.heap.size + 1, 1, none⟩ (.int .i64 a')).drew = Y := ⟨_, rfl⟩
      rw [hY]
      have RY : Blk Y (w.heap.size + 1) 64 #[.slice W m c, .int .i64 a'] := by rw [← hY]; exact Blk.dr (RV.out.put2 _ _)
      have TY : Hid (RdT Y (some ⟨V.heap.size, 0, none⟩) j (thF ws j t)) := Lib.hid (by rw [← hY]; exact RT.out)
      have EY : Below w.heap.size w Y := by rw [← hY]; exact ((EV.out.setCell (by show w.heap.size ≤ w.heap.size + 1; omega) _).setCell (by show w.heap.size ≤ w.heap.size + 1; omega) _).drew
      obtain ⟨q0, q1, _, _⟩ := RY.pair
      have EYh := Lib.hid EY
      clear RY EY hY r0 r1 f0 f1 n0 n1 RT
      go_wp2_with fail
      exact bodyPost_ret (v := .tuple #[.slice (some ⟨V.heap.size, 0, none⟩) j j, .agg #[.slice W m c, .int .i64 a'], .int .i64 0]) (by simp [results, Try.results41, go_sem, *]) rfl ⟨_, _, rfl, TY.out, EYh.out⟩
end Go.Proofs.Yteebeiflipfbkaa
