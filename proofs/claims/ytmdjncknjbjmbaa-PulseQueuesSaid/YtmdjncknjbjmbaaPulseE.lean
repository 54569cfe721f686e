/- Contract of pulse.Queue. -/
import Derived.Test.YtmdjncknjbjmbaaRows
import Derived.Test.YtmdjncknjbjmbaaRowKit
import Derived.Test.YtmdjncknjbjmbaaRowS
import Derived.Test.YtmdjncknjbjmbaaRowZ
import Derived.Test.YtmdjncknjbjmbaaSlicesEq
import Derived.Test.YtmdjncknjbjmbaaSlicesEqM
import Derived.Test.YtmdjncknjbjmbaaRowL
import Derived.Test.YtmdjncknjbjmbaaMakeI
import Derived.Test.YtmdjncknjbjmbaaPulseQMath
import Derived.WalkKit
import Derived.IntWalk
import Derived.Lib.Hide
import Derived.WalkSpells
import Derived.WalkLawsBesides
import Derived.Laws.CopyOwn
import Derived.Laws.MakeOwn
import Derived.Laws.OwnMore
import Derived.OwnWalk
import Derived.Deep.QuietTactic
import Derived.Deep.LoopGhost
import Derived.BigQuiet
import Derived.BigRegion
namespace Go.Proofs.Ytmdjncknjbjmbaa
open Go.RowKit
set_option linter.unusedSimpArgs false
set_option linter.unusedVariables false
/-- the first loop's relation -/
def QRow (z : Nat → Nat → Int) (H k : Nat) (w wr : World) : Prop := wr.ownsRow w.heap.size 3 1 (.slice (some ⟨w.heap.size, 0, none⟩) (H + 1) (H + 1)) (H + 1) ((rowL (dlt z H k) (H + 1)).map (Value.int .i64)) ∧ Below w.heap.size w wr
theorem qrow_on {z : Nat → Nat → Int} {H k : Nat} {w wr : World} {o : Obj} {p q : Int} (hp : bgV z k = p) (hq : enV z H k = q) (hpq : ¬ p < q) (hown : wr.ownsRow w.heap.size 3 1 (.slice (some ⟨w.heap.size, 0, none⟩) (H + 1) (H + 1)) (H + 1) ((rowL (dlt z H k) (H + 1)).map (Value.int .i64))) (hb : Below w.heap.size w wr) : QRow z H (k + 1) w (wr.alloc o) := by
  have e : dlt z H (k + 1) = dlt z H k := funext fun s => by
    show (if bgV z k < enV z H k then _ else _) = _
    rw [hp, hq, if_neg hpq]
  exact ⟨by rw [e]; exact hown.alloc _, hb.alloc hb.size _⟩
theorem qrow_put {z : Nat → Nat → Int} {H k : Nat} {w wr : World} {p q : Nat} {u v : Int} (hp : bgV z k = p) (hq : enV z H k = q) (hpq : p < q) (hu : u = dlt z H k p + 1) (hv : v = dlt z H k q - 1) (hown : wr.ownsRow w.heap.size 3 1 (.slice (some ⟨w.heap.size, 0, none⟩) (H + 1) (H + 1)) (H + 1) ((rowL (dlt z H k) (H + 1)).map (Value.int .i64))) (hb : Below w.heap.size w wr) : QRow z H (k + 1) w ((wr.setCell ⟨w.heap.size, p, none⟩ (.int .i64 u)).setCell ⟨w.heap.size, q, none⟩ (.int .i64 v)) := by
  have h1 := mkRow_put hown (j := p) (u := u) (rowL_set _ _ _ _)
  have h2 := mkRow_put h1 (j := q) (u := v) (rowL_set _ _ _ _)
  refine ⟨?_, (hb.setCell (Nat.le_refl _) _).setCell (Nat.le_refl _) _⟩
  rw [rowL_congr (b := fun i => if i = q then v else if i = p then u else dlt z H k i)]
  · exact h2
  · intro i _
    show (if bgV z k < enV z H k then _ else _) = _
    rw [hp, hq, if_pos (by omega)]
    by_cases e1 : i = q
    · subst e1; rw [if_pos rfl, if_neg (by omega), if_pos rfl, hv]
    · rw [if_neg e1]
      by_cases e2 : i = p
      · subst e2; rw [if_pos rfl, if_pos rfl, hu]
      · rw [if_neg e2, if_neg (by omega), if_neg (by omega)]
/-- the second loop's relation -/
def Q2 (z : Nat → Nat → Int) (H n m : Nat) (w wr : World) : Prop := wr.ownsRow w.heap.size 3 1 (.slice (some ⟨w.heap.size, 0, none⟩) (H + 1) (H + 1)) (H + 1) ((rowL (row2 (dlt z H n) m) (H + 1)).map (Value.int .i64)) ∧ Below w.heap.size w wr
theorem q2_drew {z : Nat → Nat → Int} {H n m : Nat} {w wr : World} (h : Q2 z H n m w wr) : Q2 z H n m w wr.drew := ⟨h.1, ⟨h.2.os, h.2.tape, h.2.output, h.2.size, h.2.block⟩⟩
theorem q2_rd {z : Nat → Nat → Int} {H n m : Nat} {w wr : World} (hm : H ≤ m) (hn : n ≤ 1000) (h : Q2 z H n m w wr) : RdI wr .i64 (some ⟨w.heap.size, 0, none⟩) (rowL (fun t => cntW z t n) H) := by
  apply rdI_mk
  intro i hi
  rw [rowL_len] at hi
  rw [rowL_at _ hi]
  have := ownR_cell h.1 (i := i) (by omega)
  unfold row2 at this
  rw [if_pos (by omega), sumD_cnt z H i hi] at this
  refine ⟨?_, WalkArith.wf_i64 (by have := cntW_bd z i n; omega)⟩
  rw [Nat.zero_add]; exact this
set_option maxRecDepth 100000 in
set_option maxHeartbeats 8000000 in
theorem queue_pos (A : Option Addr) (c n H : Nat) (hH : 0 < H) (hH2 : H ≤ 300) (z : Nat → Nat → Int) (w : World) (hr : RdZ w 7 A n z) (hn : n ≤ 1000) :
    Calls Try.prog 32 #[.slice A n c, .int .i64 (H : Int)] w (MadeS H (rowL (fun t => cntW z t n) H) w) := by
  obtain ⟨i0, hi, hz0, hz1, hz2⟩ := info_parts mkInfo
  have HZ := Lib.hid (mkZeros (H + 1))
  have DB := Lib.hid (dlt_bd z H)
  have h1 : (H : Int) < 1048576 := by omega
  have h2 : (0 : Int) < H := by omega
  go_enter Try.func32, Try.ntmps32
  go_wp2_with (at_make; refine wpList_make_full _ rfl _ _ 34 rfl w.heap.size 3 i0 (.int .i64 0) 1 Try.underlying34 hi hz0 hz1 _ _ _ _ (H + 1) rfl rfl (by omega) (by omega) (by rw [hz2]; omega) (by unfold maxLen; omega) (Nat.le_refl _) ?_; intro w0 hown0 hgrow0)
  rw [HZ.out] at hown0
  have hb0 : Below w.heap.size w w0 := (Below.refl _ _).grown hgrow0 (Nat.le_refl _) (fun k h => by cases h)
  have HS : QRow z H 0 w w0 := ⟨hown0, hb0⟩
  clear hgrow0 hown0 hb0
  go_wp2_with fail
  go_loopw [19] (fun i wr => ∃ k : Nat, k ≤ n ∧ i = .int .i64 k ∧ QRow z H k w wr) (fun i _ => n - (intOf i).toNat)
  case atStart => exact ⟨0, by omega, rfl, HS⟩
  case round =>
    obtain ⟨k, hk, rfl, hown, hb⟩ := hrel
    by_cases h : k < n
    · obtain ⟨b, off, rfl, hlt, hc⟩ := rdZ_row (hr.kept hb) (by omega) (by omega)
      have c0 : wr.cell? ⟨b, off + k * 7, none⟩ = _ := hc k 0 h (by omega)
      have c1 := hc k 1 h (by omega)
      have c2 := hc k 2 h (by omega)
      have c3 := hc k 3 h (by omega)
      have c4 := hc k 4 h (by omega)
      have c5 := hc k 5 h (by omega)
      have c6 := hc k 6 h (by omega)
      have wf1 := rdZ_wf (hr.kept hb) h (show 1 < 7 by omega)
      have wf5 := rdZ_wf (hr.kept hb) h (show 5 < 7 by omega)
      clear hc
      have dbk := Lib.hid (fun t => DB.out k t)
      by_cases a1 : (0 : Int) < z k 1
      · skip
        obtain ⟨p, hp⟩ : ∃ p : Nat, z k 1 = p := ⟨(z k 1).toNat, by omega⟩
        have EB : bgV z k = (p : Int) := by unfold bgV; omega
        rw [hp] at a1 c1 wf1
        have P0 : 0 < p := by omega
        by_cases a2 : 0 ≤ z k 5
        · by_cases a3 : z k 5 < (H : Int)
          · skip
            obtain ⟨q, hq⟩ : ∃ q : Nat, z k 5 = q := ⟨(z k 5).toNat, by omega⟩
            have EE : enV z H k = (q : Int) := by unfold enV; rw [if_pos a2]; omega
            rw [hq] at a2 a3 c5 wf5
            clear hp
            clear hq
            by_cases a4 : p < q
            · skip
              have own' := hown.alloc (.cells #[.int .i64 (z k 0), .int .i64 (p : Int), .int .i64 (z k 2), .int .i64 (z k 3), .int .i64 (z k 4), .int .i64 (q : Int), .int .i64 (z k 6)] 45)
              have hb' := hb.alloc hb.size (.cells #[.int .i64 (z k 0), .int .i64 (p : Int), .int .i64 (z k 2), .int .i64 (z k 3), .int .i64 (z k 4), .int .i64 (q : Int), .int .i64 (z k 6)] 45)
              have cp := ownR_cell own' (i := p) (by omega)
              have cq := ownR_cell own' (i := q) (by omega)
              have fp := own'.frozenAt p
              have fq := own'.frozenAt q
              have S := Lib.hid (fun u v hu hv => qrow_put (u := u) (v := v) EB EE (show p < q by omega) hu hv own' hb')
              have b1 := dbk.out p
              have b2 := dbk.out q
              obtain ⟨dp, hdp⟩ : ∃ x, dlt z H k p = x := ⟨_, rfl⟩
              obtain ⟨dq, hdq⟩ : ∃ x, dlt z H k q = x := ⟨_, rfl⟩
              rw [hdp] at cp b1 S
              rw [hdq] at cq b2 S
              have n1 : p ≠ q := by omega
              have n2 : q ≠ p := by omega
              clear hdp hdq EB EE hown hb own' hb'
              go_wp2_with fail
              go_roundw
              case rel => exact ⟨k + 1, by omega, by go_num, S.out _ _ rfl rfl⟩
              case measure => simp [intOf]; omega
            · skip
              have S := Lib.hid (qrow_on (o := (.cells #[.int .i64 (z k 0), .int .i64 (p : Int), .int .i64 (z k 2), .int .i64 (z k 3), .int .i64 (z k 4), .int .i64 (q : Int), .int .i64 (z k 6)] 45)) EB EE (show ¬ ((p : Nat) : Int) < ((q : Nat) : Int) by omega) hown hb)
              clear EB EE
              go_wp2_with fail
              go_roundw
              case rel => exact ⟨k + 1, by omega, by go_num, S.out⟩
              case measure => simp [intOf]; omega
          · skip
            have EE : enV z H k = ((H : Nat) : Int) := by unfold enV; rw [if_pos a2]; omega
            clear hp
            by_cases a4 : p < H
            · skip
              have own' := hown.alloc (.cells #[.int .i64 (z k 0), .int .i64 (p : Int), .int .i64 (z k 2), .int .i64 (z k 3), .int .i64 (z k 4), .int .i64 (z k 5), .int .i64 (z k 6)] 45)
              have hb' := hb.alloc hb.size (.cells #[.int .i64 (z k 0), .int .i64 (p : Int), .int .i64 (z k 2), .int .i64 (z k 3), .int .i64 (z k 4), .int .i64 (z k 5), .int .i64 (z k 6)] 45)
              have cp := ownR_cell own' (i := p) (by omega)
              have cq := ownR_cell own' (i := H) (by omega)
              have fp := own'.frozenAt p
              have fq := own'.frozenAt H
              have S := Lib.hid (fun u v hu hv => qrow_put (u := u) (v := v) EB EE (show p < H by omega) hu hv own' hb')
              have b1 := dbk.out p
              have b2 := dbk.out H
              obtain ⟨dp, hdp⟩ : ∃ x, dlt z H k p = x := ⟨_, rfl⟩
              obtain ⟨dq, hdq⟩ : ∃ x, dlt z H k H = x := ⟨_, rfl⟩
              rw [hdp] at cp b1 S
              rw [hdq] at cq b2 S
              have n1 : p ≠ H := by omega
              have n2 : H ≠ p := by omega
              clear hdp hdq EB EE hown hb own' hb'
              go_wp2_with fail
              go_roundw
              case rel => exact ⟨k + 1, by omega, by go_num, S.out _ _ rfl rfl⟩
              case measure => simp [intOf]; omega
            · skip
              have S := Lib.hid (qrow_on (o := (.cells #[.int .i64 (z k 0), .int .i64 (p : Int), .int .i64 (z k 2), .int .i64 (z k 3), .int .i64 (z k 4), .int .i64 (z k 5), .int .i64 (z k 6)] 45)) EB EE (show ¬ ((p : Nat) : Int) < ((H : Nat) : Int) by omega) hown hb)
              clear EB EE
              go_wp2_with fail
              go_roundw
              case rel => exact ⟨k + 1, by omega, by go_num, S.out⟩
              case measure => simp [intOf]; omega
        · skip
          have EE : enV z H k = ((H : Nat) : Int) := by unfold enV; rw [if_neg a2]
          clear hp
          by_cases a4 : p < H
          · skip
            have own' := hown.alloc (.cells #[.int .i64 (z k 0), .int .i64 (p : Int), .int .i64 (z k 2), .int .i64 (z k 3), .int .i64 (z k 4), .int .i64 (z k 5), .int .i64 (z k 6)] 45)
            have hb' := hb.alloc hb.size (.cells #[.int .i64 (z k 0), .int .i64 (p : Int), .int .i64 (z k 2), .int .i64 (z k 3), .int .i64 (z k 4), .int .i64 (z k 5), .int .i64 (z k 6)] 45)
            have cp := ownR_cell own' (i := p) (by omega)
            have cq := ownR_cell own' (i := H) (by omega)
            have fp := own'.frozenAt p
            have fq := own'.frozenAt H
            have S := Lib.hid (fun u v hu hv => qrow_put (u := u) (v := v) EB EE (show p < H by omega) hu hv own' hb')
            have b1 := dbk.out p
            have b2 := dbk.out H
            obtain ⟨dp, hdp⟩ : ∃ x, dlt z H k p = x := ⟨_, rfl⟩
            obtain ⟨dq, hdq⟩ : ∃ x, dlt z H k H = x := ⟨_, rfl⟩
            rw [hdp] at cp b1 S
            rw [hdq] at cq b2 S
            have n1 : p ≠ H := by omega
            have n2 : H ≠ p := by omega
            clear hdp hdq EB EE hown hb own' hb'
            go_wp2_with fail
            go_roundw
            case rel => exact ⟨k + 1, by omega, by go_num, S.out _ _ rfl rfl⟩
            case measure => simp [intOf]; omega
          · skip
            have S := Lib.hid (qrow_on (o := (.cells #[.int .i64 (z k 0), .int .i64 (p : Int), .int .i64 (z k 2), .int .i64 (z k 3), .int .i64 (z k 4), .int .i64 (z k 5), .int .i64 (z k 6)] 45)) EB EE (show ¬ ((p : Nat) : Int) < ((H : Nat) : Int) by omega) hown hb)
            clear EB EE
            go_wp2_with fail
            go_roundw
            case rel => exact ⟨k + 1, by omega, by go_num, S.out⟩
            case measure => simp [intOf]; omega
      · skip
        have EB : bgV z k = ((0 : Nat) : Int) := by unfold bgV; omega
        by_cases a2 : 0 ≤ z k 5
        · by_cases a3 : z k 5 < (H : Int)
          · skip
            obtain ⟨q, hq⟩ : ∃ q : Nat, z k 5 = q := ⟨(z k 5).toNat, by omega⟩
            have EE : enV z H k = (q : Int) := by unfold enV; rw [if_pos a2]; omega
            rw [hq] at a2 a3 c5 wf5
            skip
            clear hq
            by_cases a4 : 0 < q
            · skip
              have own' := hown.alloc (.cells #[.int .i64 (z k 0), .int .i64 (z k 1), .int .i64 (z k 2), .int .i64 (z k 3), .int .i64 (z k 4), .int .i64 (q : Int), .int .i64 (z k 6)] 45)
              have hb' := hb.alloc hb.size (.cells #[.int .i64 (z k 0), .int .i64 (z k 1), .int .i64 (z k 2), .int .i64 (z k 3), .int .i64 (z k 4), .int .i64 (q : Int), .int .i64 (z k 6)] 45)
              have cp := ownR_cell own' (i := 0) (by omega)
              have cq := ownR_cell own' (i := q) (by omega)
              have fp := own'.frozenAt 0
              have fq := own'.frozenAt q
              have S := Lib.hid (fun u v hu hv => qrow_put (u := u) (v := v) EB EE (show 0 < q by omega) hu hv own' hb')
              have b1 := dbk.out 0
              have b2 := dbk.out q
              obtain ⟨dp, hdp⟩ : ∃ x, dlt z H k 0 = x := ⟨_, rfl⟩
              obtain ⟨dq, hdq⟩ : ∃ x, dlt z H k q = x := ⟨_, rfl⟩
              rw [hdp] at cp b1 S
              rw [hdq] at cq b2 S
              have n1 : 0 ≠ q := by omega
              have n2 : q ≠ 0 := by omega
              clear hdp hdq EB EE hown hb own' hb'
              go_wp2_with fail
              go_roundw
              case rel => exact ⟨k + 1, by omega, by go_num, S.out _ _ rfl rfl⟩
              case measure => simp [intOf]; omega
            · skip
              have S := Lib.hid (qrow_on (o := (.cells #[.int .i64 (z k 0), .int .i64 (z k 1), .int .i64 (z k 2), .int .i64 (z k 3), .int .i64 (z k 4), .int .i64 (q : Int), .int .i64 (z k 6)] 45)) EB EE (show ¬ ((0 : Nat) : Int) < ((q : Nat) : Int) by omega) hown hb)
              clear EB EE
              go_wp2_with fail
              go_roundw
              case rel => exact ⟨k + 1, by omega, by go_num, S.out⟩
              case measure => simp [intOf]; omega
          · skip
            have EE : enV z H k = ((H : Nat) : Int) := by unfold enV; rw [if_pos a2]; omega
            skip
            by_cases a4 : 0 < H
            · skip
              have own' := hown.alloc (.cells #[.int .i64 (z k 0), .int .i64 (z k 1), .int .i64 (z k 2), .int .i64 (z k 3), .int .i64 (z k 4), .int .i64 (z k 5), .int .i64 (z k 6)] 45)
              have hb' := hb.alloc hb.size (.cells #[.int .i64 (z k 0), .int .i64 (z k 1), .int .i64 (z k 2), .int .i64 (z k 3), .int .i64 (z k 4), .int .i64 (z k 5), .int .i64 (z k 6)] 45)
              have cp := ownR_cell own' (i := 0) (by omega)
              have cq := ownR_cell own' (i := H) (by omega)
              have fp := own'.frozenAt 0
              have fq := own'.frozenAt H
              have S := Lib.hid (fun u v hu hv => qrow_put (u := u) (v := v) EB EE (show 0 < H by omega) hu hv own' hb')
              have b1 := dbk.out 0
              have b2 := dbk.out H
              obtain ⟨dp, hdp⟩ : ∃ x, dlt z H k 0 = x := ⟨_, rfl⟩
              obtain ⟨dq, hdq⟩ : ∃ x, dlt z H k H = x := ⟨_, rfl⟩
              rw [hdp] at cp b1 S
              rw [hdq] at cq b2 S
              have n1 : 0 ≠ H := by omega
              have n2 : H ≠ 0 := by omega
              clear hdp hdq EB EE hown hb own' hb'
              go_wp2_with fail
              go_roundw
              case rel => exact ⟨k + 1, by omega, by go_num, S.out _ _ rfl rfl⟩
              case measure => simp [intOf]; omega
            · skip
              omega
        · skip
          have EE : enV z H k = ((H : Nat) : Int) := by unfold enV; rw [if_neg a2]
          skip
          by_cases a4 : 0 < H
          · skip
            have own' := hown.alloc (.cells #[.int .i64 (z k 0), .int .i64 (z k 1), .int .i64 (z k 2), .int .i64 (z k 3), .int .i64 (z k 4), .int .i64 (z k 5), .int .i64 (z k 6)] 45)
            have hb' := hb.alloc hb.size (.cells #[.int .i64 (z k 0), .int .i64 (z k 1), .int .i64 (z k 2), .int .i64 (z k 3), .int .i64 (z k 4), .int .i64 (z k 5), .int .i64 (z k 6)] 45)
            have cp := ownR_cell own' (i := 0) (by omega)
            have cq := ownR_cell own' (i := H) (by omega)
            have fp := own'.frozenAt 0
            have fq := own'.frozenAt H
            have S := Lib.hid (fun u v hu hv => qrow_put (u := u) (v := v) EB EE (show 0 < H by omega) hu hv own' hb')
            have b1 := dbk.out 0
            have b2 := dbk.out H
            obtain ⟨dp, hdp⟩ : ∃ x, dlt z H k 0 = x := ⟨_, rfl⟩
            obtain ⟨dq, hdq⟩ : ∃ x, dlt z H k H = x := ⟨_, rfl⟩
            rw [hdp] at cp b1 S
            rw [hdq] at cq b2 S
            have n1 : 0 ≠ H := by omega
            have n2 : H ≠ 0 := by omega
            clear hdp hdq EB EE hown hb own' hb'
            go_wp2_with fail
            go_roundw
            case rel => exact ⟨k + 1, by omega, by go_num, S.out _ _ rfl rfl⟩
            case measure => simp [intOf]; omega
          · skip
            omega
    · obtain rfl : k = n := by omega
      have HQ1 : Q2 z H k 1 w wr := ⟨by rw [row2_one]; exact hown, hb⟩
      clear hown hb
      go_wp2_with fail
      go_loopg [10] (H - 1) (fun g i wr => ∃ m : Nat, 1 ≤ m ∧ m ≤ H ∧ g = H - m ∧ i = .int .i64 m ∧ Q2 z H k m w wr)
      case atStart => exact ⟨1, by omega, by omega, by omega, rfl, HQ1⟩
      case round =>
        obtain ⟨m, hm1, hm, rfl, rfl, hown, hb⟩ := hrel
        by_cases hmH : m < H
        · obtain ⟨p, hp⟩ : ∃ p, m - 1 = p := ⟨_, rfl⟩
          have hpm : (m : Int) - 1 = (p : Int) := by omega
          have hpm2 : p ≤ m := by omega
          have hpm3 : p < H + 1 := by omega
          have cp := ownR_cell hown (i := m) (by omega)
          have cq := ownR_cell hown (i := p) (by omega)
          have fp := hown.frozenAt m
          have S := Lib.hid (fun (u : Int) (hu : u = row2 (dlt z H k) m m + row2 (dlt z H k) m p) => show Q2 z H k (m + 1) w (wr.setCell ⟨w.heap.size, m, none⟩ (.int .i64 u)) from ⟨mkRow_put hown (by rw [hu, ← hp]; exact row2_next (dlt z H k) m (H + 1) hm1), hb.setCell (Nat.le_refl _) _⟩)
          have b1 : -1000 ≤ row2 (dlt z H k) m m ∧ row2 (dlt z H k) m m ≤ 1000 := by
            unfold row2; rw [if_neg (by omega)]; have := DB.out k m; omega
          have b2 : -1000 ≤ row2 (dlt z H k) m p ∧ row2 (dlt z H k) m p ≤ 1000 := by
            unfold row2; rw [if_pos (by omega), sumD_cnt z H p (by omega)]; have := cntW_bd z p k; omega
          obtain ⟨x, hx⟩ : ∃ x, row2 (dlt z H k) m m = x := ⟨_, rfl⟩
          obtain ⟨y, hy⟩ : ∃ y, row2 (dlt z H k) m p = y := ⟨_, rfl⟩
          rw [hx] at cp b1 S
          rw [hy] at cq b2 S
          clear hx hy hown hb hp
          go_wp2_with fail
          go_region
          go_wp2_with fail
          go_roundg (H - (m + 1))
          case measure => omega
          case rel => exact ⟨m + 1, by omega, by omega, rfl, by go_num, q2_drew (S.out _ rfl)⟩
        · obtain rfl : m = H := by omega
          have R := Lib.hid (q2_rd (Nat.le_refl _) hn ⟨hown, hb⟩)
          go_wp2_with fail
          go_ret
          exact ⟨_, _, rfl, R.out, hb⟩
set_option maxRecDepth 100000 in
set_option maxHeartbeats 8000000 in
theorem queue_neg (A : Option Addr) (c n : Nat) (h : Int) (hh : h ≤ 0) (z : Nat → Nat → Int) (w : World) (hr : RdZ w 7 A n z) (hn : n ≤ 1000) :
    Calls Try.prog 32 #[.slice A n c, .int .i64 h] w (MadeS 0 (rowL (fun t => cntW z t n) 0) w) := by
  obtain ⟨i0, hi, hz0, hz1, hz2⟩ := info_parts mkInfo
  have HZ := Lib.hid (mkZeros (0 + 1))
  have DB := Lib.hid (dlt_bd z 0)
  have h1 : h < 1048576 := by omega
  have h2 : ¬ (0 : Int) < h := by omega
  go_enter Try.func32, Try.ntmps32
  go_wp2_with (at_make; refine wpList_make_full _ rfl _ _ 34 rfl w.heap.size 3 i0 (.int .i64 0) 1 Try.underlying34 hi hz0 hz1 _ _ _ _ (0 + 1) rfl rfl (by omega) (by omega) (by rw [hz2]; omega) (by unfold maxLen; omega) (Nat.le_refl _) ?_; intro w0 hown0 hgrow0)
  rw [HZ.out] at hown0
  have hb0 : Below w.heap.size w w0 := (Below.refl _ _).grown hgrow0 (Nat.le_refl _) (fun k h => by cases h)
  have HS : QRow z 0 0 w w0 := ⟨hown0, hb0⟩
  clear hgrow0 hown0 hb0
  go_wp2_with fail
  go_loopw [19] (fun i wr => ∃ k : Nat, k ≤ n ∧ i = .int .i64 k ∧ QRow z 0 k w wr) (fun i _ => n - (intOf i).toNat)
  case atStart => exact ⟨0, by omega, rfl, HS⟩
  case round =>
    obtain ⟨k, hk, rfl, hown, hb⟩ := hrel
    by_cases h : k < n
    · obtain ⟨b, off, rfl, hlt, hc⟩ := rdZ_row (hr.kept hb) (by omega) (by omega)
      have c0 : wr.cell? ⟨b, off + k * 7, none⟩ = _ := hc k 0 h (by omega)
      have c1 := hc k 1 h (by omega)
      have c2 := hc k 2 h (by omega)
      have c3 := hc k 3 h (by omega)
      have c4 := hc k 4 h (by omega)
      have c5 := hc k 5 h (by omega)
      have c6 := hc k 6 h (by omega)
      have wf1 := rdZ_wf (hr.kept hb) h (show 1 < 7 by omega)
      have wf5 := rdZ_wf (hr.kept hb) h (show 5 < 7 by omega)
      clear hc
      have dbk := Lib.hid (fun t => DB.out k t)
      by_cases a1 : (0 : Int) < z k 1
      · skip
        obtain ⟨p, hp⟩ : ∃ p : Nat, z k 1 = p := ⟨(z k 1).toNat, by omega⟩
        have EB : bgV z k = (p : Int) := by unfold bgV; omega
        rw [hp] at a1 c1 wf1
        have P0 : 0 < p := by omega
        by_cases a2 : 0 ≤ z k 5
        · by_cases a3 : z k 5 < (0 : Int)
          · skip
            obtain ⟨q, hq⟩ : ∃ q : Nat, z k 5 = q := ⟨(z k 5).toNat, by omega⟩
            have EE : enV z 0 k = (q : Int) := by unfold enV; rw [if_pos a2]; omega
            rw [hq] at a2 a3 c5 wf5
            clear hp
            clear hq
            by_cases a4 : p < q
            · skip
              omega
            · skip
              omega
          · skip
            have EE : enV z 0 k = ((0 : Nat) : Int) := by unfold enV; rw [if_pos a2]; omega
            clear hp
            by_cases a4 : p < 0
            · skip
              omega
            · skip
              have S := Lib.hid (qrow_on (o := (.cells #[.int .i64 (z k 0), .int .i64 (p : Int), .int .i64 (z k 2), .int .i64 (z k 3), .int .i64 (z k 4), .int .i64 (z k 5), .int .i64 (z k 6)] 45)) EB EE (show ¬ ((p : Nat) : Int) < ((0 : Nat) : Int) by omega) hown hb)
              clear EB EE
              go_wp2_with fail
              go_roundw
              case rel => exact ⟨k + 1, by omega, by go_num, S.out⟩
              case measure => simp [intOf]; omega
        · skip
          have EE : enV z 0 k = ((0 : Nat) : Int) := by unfold enV; rw [if_neg a2]
          clear hp
          by_cases a4 : p < 0
          · skip
            omega
          · skip
            have S := Lib.hid (qrow_on (o := (.cells #[.int .i64 (z k 0), .int .i64 (p : Int), .int .i64 (z k 2), .int .i64 (z k 3), .int .i64 (z k 4), .int .i64 (z k 5), .int .i64 (z k 6)] 45)) EB EE (show ¬ ((p : Nat) : Int) < ((0 : Nat) : Int) by omega) hown hb)
            clear EB EE
            go_wp2_with fail
            go_roundw
            case rel => exact ⟨k + 1, by omega, by go_num, S.out⟩
            case measure => simp [intOf]; omega
      · skip
        have EB : bgV z k = ((0 : Nat) : Int) := by unfold bgV; omega
        by_cases a2 : 0 ≤ z k 5
        · by_cases a3 : z k 5 < (0 : Int)
          · skip
            obtain ⟨q, hq⟩ : ∃ q : Nat, z k 5 = q := ⟨(z k 5).toNat, by omega⟩
            have EE : enV z 0 k = (q : Int) := by unfold enV; rw [if_pos a2]; omega
            rw [hq] at a2 a3 c5 wf5
            skip
            clear hq
            by_cases a4 : 0 < q
            · skip
              omega
            · skip
              omega
          · skip
            have EE : enV z 0 k = ((0 : Nat) : Int) := by unfold enV; rw [if_pos a2]; omega
            skip
            by_cases a4 : 0 < 0
            · skip
              omega
            · skip
              have S := Lib.hid (qrow_on (o := (.cells #[.int .i64 (z k 0), .int .i64 (z k 1), .int .i64 (z k 2), .int .i64 (z k 3), .int .i64 (z k 4), .int .i64 (z k 5), .int .i64 (z k 6)] 45)) EB EE (show ¬ ((0 : Nat) : Int) < ((0 : Nat) : Int) by omega) hown hb)
              clear EB EE
              go_wp2_with fail
              go_roundw
              case rel => exact ⟨k + 1, by omega, by go_num, S.out⟩
              case measure => simp [intOf]; omega
        · skip
          have EE : enV z 0 k = ((0 : Nat) : Int) := by unfold enV; rw [if_neg a2]
          skip
          by_cases a4 : 0 < 0
          · skip
            omega
          · skip
            have S := Lib.hid (qrow_on (o := (.cells #[.int .i64 (z k 0), .int .i64 (z k 1), .int .i64 (z k 2), .int .i64 (z k 3), .int .i64 (z k 4), .int .i64 (z k 5), .int .i64 (z k 6)] 45)) EB EE (show ¬ ((0 : Nat) : Int) < ((0 : Nat) : Int) by omega) hown hb)
            clear EB EE
            go_wp2_with fail
            go_roundw
            case rel => exact ⟨k + 1, by omega, by go_num, S.out⟩
            case measure => simp [intOf]; omega
    · obtain rfl : k = n := by omega
      have HQ1 : Q2 z 0 k 1 w wr := ⟨by rw [row2_one]; exact hown, hb⟩
      clear hown hb
      go_wp2_with fail
      go_loopg [10] 0 (fun g i wr => i = .int .i64 1 ∧ Q2 z 0 k 1 w wr)
      case atStart => exact ⟨rfl, HQ1⟩
      case round =>
        obtain ⟨rfl, hown, hb⟩ := hrel
        have R := Lib.hid (q2_rd (Nat.zero_le _) hn ⟨hown, hb⟩)
        go_wp2_with fail
        go_ret
        exact ⟨_, _, rfl, R.out, hb⟩
end Go.Proofs.Ytmdjncknjbjmbaa
