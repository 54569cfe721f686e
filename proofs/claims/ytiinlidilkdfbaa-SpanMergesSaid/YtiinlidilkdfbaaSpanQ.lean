/- span.Merge at any spans: slices.Clone, slices.IndexFunc, slices.DeleteFunc at a row of any length. -/
import Derived.Test.YtiinlidilkdfbaaSpanP
import Derived.WalkKit
import Derived.IntWalk
import Derived.Lib.Hide
import Derived.WalkSpells
import Derived.WalkLawsBesides
import Derived.Laws.CopyOwn
import Derived.Laws.MakeOwn
import Derived.Laws.OwnMore
import Derived.Laws.AppendOwnNone
import Derived.OwnWalk
import Derived.BigRegion
import Derived.Deep.LoopGhost
import Derived.Deep.RegionHeld3
import Derived.Deep.QuietTactic
import Derived.BigQuiet
namespace Go.Proofs.Ytiinlidilkdfbaa
open Go.RowKit
set_option linter.unusedVariables false
set_option linter.unusedSimpArgs false
set_option maxHeartbeats 8000000 in
theorem clone_any (b o c : Nat) (L : List (Int × Int)) (w : World) (hr : RdZ w 2 (some ⟨b, o, none⟩) L.length (zS L)) (hn : 0 < L.length) (hl : L.length ≤ 1000) (hc : L.length ≤ c) :
    Calls Try.prog 25 #[.slice (some ⟨b, o, none⟩) L.length c] w fun e w' => ∃ h c, e = .returned (.slice (some ⟨h, 0, none⟩) L.length c) ∧ L.length ≤ c ∧ c ≤ maxLen ∧ OwS w' h L ∧ w.heap.size ≤ h ∧ Below w.heap.size w w' := by
  obtain ⟨n, hL⟩ : ∃ n, L.length = n := ⟨_, rfl⟩
  have HL := Lib.hid hL
  rw [hL] at hr hn hl hc ⊢
  have HR := Lib.hid hr
  have hnil : ∀ w, (binOp .eql 22 (.slice (some ⟨b, o, none⟩) n c) (.slice none 0 0)).run Try.prog w = .ok (.bool false) w := fun w => Lib.run_eql_slice_nil w 22 26 (some ⟨b, o, none⟩) n c 0 0 Try.underlying22
  have ha0 : Below w.heap.size w (w.alloc (.cells #[] 26)) := (Below.refl w.heap.size w).alloc (Nat.le_refl _) _
  clear hr hL
  go_enter Try.func25, Try.ntmps25
  go_wp2_with (at_builtin; refine append_spans rfl _ _ rfl w.heap.size _ 0 [] rfl (own0S w) (some ⟨b, o, none⟩) n c (zS L) rfl (RdZ.kept HR.out ha0) hc (fun e => by cases e) (by omega) (by simp) ?_; intro v1 w1 o1 q1)
  have o2 : w1.ownsRow w.heap.size 26 2 v1 n (rowM 2 (zS L) n) := by simpa using o1
  obtain ⟨h, cap, rfl, hge, hcap⟩ := ownM_head o2 (by omega)
  have hcm : cap ≤ maxLen := by
    rcases o2.2 with ⟨hv, _⟩ | ⟨g', cap', cur, hv, _, _, _, hc, _⟩
    · cases hv
    · simp only [Value.slice.injEq] at hv; omega
  have HO : Hid (OwS w1 h L) := Lib.hid (by
    have hc0 := ownM_at o2 (i := 0) (j := 0) (by omega) (by omega)
    refine ⟨lt_of_cell hc0, fun i j hi hj => ⟨ownM_at o2 (by rw [← HL.out]; exact hi) hj, o2.frozenAt _⟩⟩)
  clear o1 o2
  go_wp2_with fail
  go_ret
  exact ⟨h, cap, rfl, hcap, hcm, HO.out, hge, ha0.trans q1⟩
/-- has a span no number? -/
def emS (p : Int × Int) : Bool := decide (p.2 ≤ p.1)
theorem take_all {L : List (Int × Int)} {k : Nat} (hk : k < L.length) (f : Int × Int → Bool) (h : ∀ p ∈ L.take k, f p = false) (h0 : f (zS L k 0, zS L k 1) = false) : ∀ p ∈ L.take (k + 1), f p = false := by
  have e : L[k] = (zS L k 0, zS L k 1) := by
    unfold zS
    rw [List.getD_eq_getElem?_getD, List.getElem?_eq_getElem hk]; rfl
  intro p hp
  rw [List.take_succ_eq_append_getElem hk, List.mem_append, List.mem_singleton] at hp
  rcases hp with hp | rfl
  · exact h p hp
  · rw [e]; exact h0
/-- where the first span without a number is -/
def IdxR (L : List (Int × Int)) (w : World) (e : Ending) (w' : World) : Prop := (∃ x : Int, e = .returned (.int .i64 x) ∧ ((x = -1 ∧ ∀ p ∈ L, emS p = false) ∨ ∃ k : Nat, x = k ∧ k < L.length ∧ emS (zS L k 0, zS L k 1) = true ∧ ∀ p ∈ L.take k, emS p = false)) ∧ Below w.heap.size w w'
set_option maxRecDepth 100000 in
set_option maxHeartbeats 4000000 in
theorem idx_any (g c : Nat) (L : List (Int × Int)) (w : World) (h : OwS w g L) (hl : L.length ≤ 1000) :
    Calls Try.prog 40 #[.slice (some ⟨g, 0, none⟩) L.length c, .func (.func 26) #[] #[]] w (IdxR L w) := by
  obtain ⟨n, hL⟩ : ∃ n, L.length = n := ⟨_, rfl⟩
  have HL := Lib.hid hL
  rw [hL] at hl ⊢
  obtain ⟨R, hR⟩ : ∃ R : Ending → World → Prop, IdxR L w = R := ⟨_, rfl⟩
  have HR := Lib.hid hR
  rw [hR]
  have HO := Lib.hid h
  clear h hL hR
  go_enter Try.func40, Try.ntmps40
  go_wp2_with fail
  go_loopw [8] (fun i wr => ∃ k : Nat, k ≤ n ∧ i = .int .i64 k ∧ Hid (Below w.heap.size w wr ∧ ∀ p ∈ L.take k, emS p = false)) (fun i _ => n - (intOf i).toNat)
  case atStart => exact ⟨0, by omega, rfl, Lib.hid ⟨Below.refl _ _, fun p hp => by simp at hp⟩⟩
  case round =>
    obtain ⟨k, hk, rfl, HI⟩ := hrel
    by_cases hkn : k < n
    · have k0 := cell_on HI.out.1 (HO.out.2 k 0 (by rw [HL.out]; exact hkn) (by omega)).1
      have k0 : wr.cell? ⟨g, k * 2, none⟩ = _ := k0
      have k1 := cell_on HI.out.1 (HO.out.2 k 1 (by rw [HL.out]; exact hkn) (by omega)).1
      obtain ⟨p, hp⟩ : ∃ p, zS L k 0 = p := ⟨_, rfl⟩
      obtain ⟨q, hq⟩ : ∃ q, zS L k 1 = q := ⟨_, rfl⟩
      have HP := Lib.hid hp; have HQ := Lib.hid hq
      rw [hp] at k0
      rw [hq] at k1
      clear hp hq
      go_wp2_with fail
      refine (fempty_any p q wr).mono ?_
      rintro e w1 ⟨rfl, hb⟩
      have HB1 : Hid (Below w.heap.size w w1) := Lib.hid (HI.out.1.trans (hb.mono HI.out.1.size))
      clear k0 k1 hb
      by_cases he : q ≤ p
      · have hd : decide (q ≤ p) = true := by simpa using he
        rw [hd]
        go_wp2_with fail
        rw [← HR.out]
        exact ⟨⟨k, rfl, Or.inr ⟨k, rfl, by rw [HL.out]; exact hkn, by rw [HP.out, HQ.out]; exact hd, HI.out.2⟩⟩, HB1.out⟩
      · have hd : decide (q ≤ p) = false := by simpa using he
        rw [hd]
        go_wp2_with fail
        go_roundw
        case rel => exact ⟨k + 1, by omega, by go_num, Lib.hid ⟨HB1.out, take_all (by rw [HL.out]; exact hkn) emS HI.out.2 (by rw [HP.out, HQ.out]; exact hd)⟩⟩
        case measure => simp [intOf]; omega
    · go_wp2_with fail
      rw [← HR.out]
      refine ⟨⟨-1, rfl, Or.inl ⟨rfl, fun p hp => HI.out.2 p ?_⟩⟩, HI.out.1⟩
      rw [List.take_of_length_le (by rw [HL.out]; omega)]
      exact hp
end Go.Proofs.Ytiinlidilkdfbaa
