/- The walk of PulseQueues: it answers true for every input, and leaves all old blocks as they were. No condition. -/
import Derived.Test.YtmdjncknjbjmbaaRows
import Derived.Test.YtmdjncknjbjmbaaRowKit
import Derived.Test.YtmdjncknjbjmbaaRowS
import Derived.Test.YtmdjncknjbjmbaaRowZ
import Derived.Test.YtmdjncknjbjmbaaSlicesEq
import Derived.Test.YtmdjncknjbjmbaaSlicesEqM
import Derived.Test.YtmdjncknjbjmbaaRowL
import Derived.Test.YtmdjncknjbjmbaaMakeI
import Derived.Test.YtmdjncknjbjmbaaPulseMath
import Derived.Test.YtmdjncknjbjmbaaPulseA
import Derived.Test.YtmdjncknjbjmbaaPulseB
import Derived.Test.YtmdjncknjbjmbaaTripMath
import Derived.Test.YtmdjncknjbjmbaaTripA
import Derived.Test.YtmdjncknjbjmbaaTripB
import Derived.Test.YtmdjncknjbjmbaaTripC
import Derived.Test.YtmdjncknjbjmbaaPulseQMath
import Derived.Test.YtmdjncknjbjmbaaPulseD
import Derived.Test.YtmdjncknjbjmbaaPulseE
import Derived.WalkKit
import Derived.ProofKit
import Derived.OpenShut
import Derived.Deep.QuietTactic
import Derived.BigQuiet
import Derived.Lib.SmallJoins
import Derived.Lib.Hide
import Derived.WalkSpells
import Derived.WalkLawsBesides
import Derived.IntWalk
import Derived.OwnWalk
import Derived.Laws.CopyOwn
import Derived.Laws.MakeOwn
import Derived.Laws.OwnMore
import Derived.Deep.LoopGhost
import Derived.Maps.AppendAt
namespace Go.Proofs.Ytmdjncknjbjmbaa.pulseQueues
open Go.ChangeShapes Go.WideShapes Go.ChangeAt Go.RowKit Go.Joins
set_option linter.unusedSimpArgs false
set_option linter.unusedVariables false

/-- no block of the one is the other's -/
def Sep (a b : Value) : Prop := ∀ g, a.ownBlock = some g → b.ownBlock = some g → False
theorem sep_flip {a b : Value} (h : Sep a b) : Sep b a := fun g h1 h2 => h g h2 h1
theorem sep_step {w w' : World} {base : Nat} {e : TypeId} {size : Nat} {u v v' : Value} {m : Nat} {ys : List Value} (h6 : w.ownsRow base e size u m ys) (hs : Sep v u) (hg : w.grownBy w' v.ownBlock) (hat : v'.ownBlock = v.ownBlock ∨ v'.ownBlock = some w.heap.size) : w'.ownsRow base e size u m ys ∧ Sep v' u := by
  refine ⟨h6.kept hg ?_, fun g h1 h2 => ?_⟩
  · cases hu : u.ownBlock with
    | none => exact .inl rfl
    | some g => exact .inr fun hc => hs g (by rw [← hc]) hu
  · rcases hat with hat | hat
    · exact hs g (by rw [← hat]; exact h1) h2
    · rw [hat] at h1
      have := (h6.lt g h2).2
      cases h1
      omega
theorem below_app {W w w' : World} {o : Obj} {base : Nat} {e : TypeId} {size : Nat} {v : Value} {n : Nat} {xs : List Value} (hb : Below W.heap.size W w) (hown : w.ownsRow W.heap.size e size v n xs) (hg : (w.alloc o).grownBy w' v.ownBlock) : Below W.heap.size W w' := by
  refine (hb.alloc hb.size _).grown hg (by have := hb.size; simp; omega) (fun g hg => ?_)
  first | exact ownR_ge hown hg | exact ownR_ge hown hg.symm
theorem queue_of (A : Option Addr) (c n H : Nat) (h : Int) (hH : H = h.toNat) (hh : h ≤ 300) (z : Nat → Nat → Int) (w : World) (hr : RdZ w 7 A n z) (hn : n ≤ 1000) :
    Calls Try.prog 32 #[.slice A n c, .int .i64 h] w (MadeS H (rowL (fun t => cntW z t n) H) w) := by
  by_cases h0 : h ≤ 0
  · obtain rfl : H = 0 := by omega
    exact queue_neg A c n h h0 z w hr hn
  · obtain rfl : h = (H : Int) := by omega
    exact queue_pos A c n H (by omega) (by omega) z w hr hn
/-- the first loop's relation -/
def CO (z : Nat → Nat → Int) (k : Nat) (v u : Value) (w wr : World) : Prop := wr.ownsRow w.heap.size 3 1 v k ((rowL (fun i => z i 1) k).map (Value.int .i64)) ∧ wr.ownsRow w.heap.size 3 1 u (outsV z k).length ((outsV z k).map (Value.int .i64)) ∧ Sep v u ∧ Below w.heap.size w wr
/-- the second loop's -/
def WQ (z : Nat → Nat → Int) (n t : Nat) (v : Value) (w wr : World) : Prop := wr.ownsRow w.heap.size 3 1 v t ((rowL (fun t => cntW z t n) t).map (Value.int .i64)) ∧ Below w.heap.size w wr
theorem cntrow_wf (z : Nat → Nat → Int) (n H : Nat) (hn : n ≤ 1000) : ∀ i, i < (rowL (fun t => cntW z t n) H).length → (Lit.int .i64 (zat (rowL (fun t => cntW z t n) H) i)).wf = true := by
  intro i hi
  rw [rowL_len] at hi
  rw [rowL_at _ hi]
  exact WalkArith.wf_i64 (by have := cntW_bd z i n; omega)
set_option maxHeartbeats 1000000 in
theorem walk_far (A : Option Addr) (c n : Nat) (h : Int) (z : Nat → Nat → Int) (w : World) (hr : RdZ w 7 A n z) (hm : n ≤ 9223372036854775807) (hh : 300 < h) :
    Calls Try.prog 7 #[.slice A n c, .int .i64 h] w fun e w' => e = .returned (.bool true) ∧ Below w.heap.size w w' := by
  have HG := Lib.hid (great_any A c n z w hr hm)
  go_enter Try.func7, Try.ntmps7
  go_wp2_with fail
  refine HG.out.mono ?_
  rintro e w1 ⟨b, rfl, hb1, hg⟩
  cases b
  · go_wp2_with fail
    go_ret
    exact ⟨rfl, hb1⟩
  · go_wp2_with fail
    go_ret
    exact ⟨rfl, hb1⟩
set_option maxRecDepth 100000 in
set_option maxHeartbeats 8000000 in
theorem walk_near (A : Option Addr) (c n H : Nat) (h : Int) (z : Nat → Nat → Int) (w : World) (hr : RdZ w 7 A n z) (hm : n ≤ 9223372036854775807) (hh : h ≤ 300) (hH : H = h.toNat) (hlo : -9223372036854775808 ≤ h) :
    Calls Try.prog 7 #[.slice A n c, .int .i64 h] w fun e w' => e = .returned (.bool true) ∧ Below w.heap.size w w' := by
  have HG := Lib.hid (great_any A c n z w hr hm)
  obtain ⟨i0, hi, hz0, hz1, hz2⟩ := info_parts mkInfo
  have HHf : Hid (∀ t : Nat, (t : Int) < h ↔ t < H) := Lib.hid fun t => by omega
  have HHh := Lib.hid hH
  have hH3 : H ≤ 300 := by omega
  have WF := Lib.hid (arr_wf hr)
  have WO := Lib.hid (outs_wf hr)
  clear hH
  go_enter Try.func7, Try.ntmps7
  go_wp2_with fail
  refine HG.out.mono ?_
  rintro e w1 ⟨b, rfl, hb1, hg⟩
  cases b
  case true =>
    go_wp2_with fail
    go_ret
    exact ⟨rfl, hb1⟩
  case false =>
    obtain ⟨hn, _⟩ := hg rfl
    have hr1 := hr.kept hb1
    have HR1 := Lib.hid hr1
    have HB1 := Lib.hid hb1
    have HA := Lib.hid (fun w' (hr : RdZ w' 7 A n z) => arrivals_any A c n z w' hr (by omega))
    have HO := Lib.hid (fun w' (hr : RdZ w' 7 A n z) => outs_any A c n z w' hr (by omega))
    have HQ := Lib.hid (fun w' (hr : RdZ w' 7 A n z) => queue_of A c n H h HHh.out hh z w' hr (by omega))
    clear hg hb1 hr1
    go_wp2_with fail
    go_loopg [5, 6, 8] n (fun g v u i wr => ∃ k : Nat, k ≤ n ∧ g = n - k ∧ i = .int .i64 k ∧ CO z k v u w1 wr)
    case atStart => exact ⟨0, by omega, rfl, rfl, World.ownsRow_nil _ _ _ _, World.ownsRow_nil _ _ _ _, (fun g h _ => by cases h), Below.refl _ _⟩
    case round =>
      obtain ⟨k, hk, rfl, rfl, hownA, hownO, hsep, hb⟩ := hrel
      obtain ⟨vA, vc, hv⟩ := mkSlice hownA
      subst hv
      obtain ⟨uA, uc, hv⟩ := mkSlice hownO
      subst hv
      by_cases hkn : k < n
      · obtain ⟨b, off, rfl, hlt, hc⟩ := rdZ_row (HR1.out.kept hb) (by omega) (by omega)
        have c1 := hc k 1 hkn (by omega)
        have c6 := hc k 6 hkn (by omega)
        have hlt2 : b < w1.heap.size := lt_of_cell (v := .int .i64 (z k 1)) (a := ⟨b, off + k * 7 + 1, none⟩) (by
          obtain ⟨b', off', e', hlt', hc'⟩ := rdZ_row HR1.out (by omega) (show 0 < n by omega)
          cases e'
          exact hc' k 1 hkn (by omega))
        clear hc
        have hLl := outs_len z k
        by_cases h6 : 0 ≤ z k 6
        · have EO := Lib.hid (outs_yes h6)
          obtain ⟨L, hL⟩ : ∃ L, outsV z k = L := ⟨_, rfl⟩
          rw [hL] at hLl hownO hsep EO ⊢
          obtain ⟨x, hx⟩ : ∃ x, z k 6 = x := ⟨_, rfl⟩
          rw [hx] at h6 c6 EO
          obtain ⟨y, hy⟩ : ∃ y, z k 1 = y := ⟨_, rfl⟩
          rw [hy] at c1
          have HY := Lib.hid hy
          clear hL hx hy
          go_wp2_with (first
            | (at_builtin; refine wpList_append_own_at _ rfl _ _ 34 rfl w1.heap.size 3 i0 (.int .i64 0) 1 8 Try.underlying34 hi hz0 hz1 hz2 rfl (by decide) _ _ _ rfl (hownA.alloc _) ⟨_, 0, none⟩ 1 1 [.int .i64 y] rfl rfl one_newR (by intro u hu; simp at hu; subst hu; rfl) (by unfold maxLen; omega) (by omega) (by have := hb.size; simp; omega) ?_; intro v' w2 hownA' hgrow1 _ hat1; obtain ⟨ownO1, sep1⟩ := sep_step (hownO.alloc _) hsep hgrow1 hat1; have hb2 := below_app (base := 0) hb hownA hgrow1; have c6' := (hb2.cell (p := ⟨b, off + k * 7 + 6, none⟩) hlt2).trans ((hb.cell (p := ⟨b, off + k * 7 + 6, none⟩) hlt2).symm.trans c6))
            | (at_builtin; refine wpList_append_own_at _ rfl _ _ 34 rfl w1.heap.size 3 i0 (.int .i64 0) 1 8 Try.underlying34 hi hz0 hz1 hz2 rfl (by decide) _ _ _ rfl (ownO1.alloc _) ⟨_, 0, none⟩ 1 1 [.int .i64 x] rfl rfl one_newR (by intro u hu; simp at hu; subst hu; rfl) (by unfold maxLen; omega) (by omega) (by have := hb2.size; simp; omega) ?_; intro u' w3 hownO' hgrow2 _ hat2; obtain ⟨ownA2, sep2⟩ := sep_step (hownA'.alloc _) (sep_flip sep1) hgrow2 hat2; have hb3 := below_app (base := 0) hb2 ownO1 hgrow2))
          have HC : CO z (k + 1) v' u' w1 w3 := ⟨by rw [rowL_succ, List.map_append, HY.out]; exact ownA2, by rw [EO.out, List.length_append, List.map_append]; exact hownO', sep_flip sep2, hb3⟩
          clear hownO' ownA2 sep2 hb3 hownA' ownO1 sep1 hb2 hgrow1 hgrow2
          go_wp2_with fail
          go_roundg (n - (k + 1))
          case measure => omega
          case rel => exact ⟨k + 1, by omega, rfl, by go_num, HC⟩
        · have EO := Lib.hid (outs_no h6)
          obtain ⟨L, hL⟩ : ∃ L, outsV z k = L := ⟨_, rfl⟩
          rw [hL] at hLl hownO hsep EO ⊢
          obtain ⟨x, hx⟩ : ∃ x, z k 6 = x := ⟨_, rfl⟩
          rw [hx] at h6 c6
          obtain ⟨y, hy⟩ : ∃ y, z k 1 = y := ⟨_, rfl⟩
          rw [hy] at c1
          have HY := Lib.hid hy
          clear hL hx hy
          go_wp2_with (at_builtin; refine wpList_append_own_at _ rfl _ _ 34 rfl w1.heap.size 3 i0 (.int .i64 0) 1 8 Try.underlying34 hi hz0 hz1 hz2 rfl (by decide) _ _ _ rfl (hownA.alloc _) ⟨_, 0, none⟩ 1 1 [.int .i64 y] rfl rfl one_newR (by intro u hu; simp at hu; subst hu; rfl) (by unfold maxLen; omega) (by omega) (by have := hb.size; simp; omega) ?_; intro v' w2 hownA' hgrow1 _ hat1; obtain ⟨ownO1, sep1⟩ := sep_step (hownO.alloc _) hsep hgrow1 hat1; have hb2 := below_app (base := 0) hb hownA hgrow1; have c6' := (hb2.cell (p := ⟨b, off + k * 7 + 6, none⟩) hlt2).trans ((hb.cell (p := ⟨b, off + k * 7 + 6, none⟩) hlt2).symm.trans c6))
          have HC : CO z (k + 1) v' (.slice uA L.length uc) w1 w2 := ⟨by rw [rowL_succ, List.map_append, HY.out]; exact hownA', by rw [EO.out]; exact ownO1, sep1, hb2⟩
          clear hownA' ownO1 sep1 hb2 hgrow1
          go_wp2_with fail
          go_roundg (n - (k + 1))
          case measure => omega
          case rel => exact ⟨k + 1, by omega, rfl, by go_num, HC⟩
      · obtain rfl : k = n := by omega
        obtain ⟨B, cc, hv, hRA⟩ := ownR_rd (ownR_len hownA (rowL_len _ _)) WF.out
        rw [rowL_len] at hv
        obtain ⟨B2, cc2, hv2, hRO⟩ := ownR_rd hownO WO.out
        have HRA := Lib.hid hRA
        have HRO := Lib.hid hRO
        have HRw := Lib.hid (HR1.out.kept hb)
        have HB2 := Lib.hid (HB1.out.trans (hb.mono HB1.out.size))
        cases hv
        cases hv2
        clear hownA hownO hsep hb hRA hRO
        rename World => w2
        obtain ⟨L, hL⟩ : ∃ L, outsV z k = L := ⟨_, rfl⟩
        rw [hL] at HRO HO ⊢
        have HLl : Hid (L.length ≤ k) := Lib.hid (by rw [← hL]; exact outs_len z k)
        clear hL
        go_wp2_with fail
        go_loopg [7, 9] H (fun g v i wr => ∃ t : Nat, t ≤ H ∧ g = H - t ∧ i = .int .i64 t ∧ WQ z k t v w2 wr)
        case atStart => exact ⟨0, by omega, rfl, rfl, World.ownsRow_nil _ _ _ _, Below.refl _ _⟩
        case round =>
          obtain ⟨t, ht, rfl, rfl, hownW, hb⟩ := hrel
          obtain ⟨xA, xc, hv⟩ := mkSlice hownW
          subst hv
          by_cases htH : t < H
          · have htI := (HHf.out t).2 htH
            go_wp2_with fail
            go_loopg [10, 11] k (fun g s i w3 => wr = w3 ∧ ∃ j : Nat, j ≤ k ∧ g = k - j ∧ i = .int .i64 j ∧ s = .int .i64 (cntW z t j))
            case atStart => exact ⟨rfl, 0, by omega, rfl, rfl, rfl⟩
            case round =>
              obtain ⟨rfl, j, hj, rfl, rfl, rfl⟩ := hrel
              by_cases hjk : j < k
              · obtain ⟨b, off, rfl, hlt, hc⟩ := rdZ_row (HRw.out.kept hb) (by omega) (show 0 < k by omega)
                have c1 := hc j 1 hjk (by omega)
                have c5 := hc j 5 hjk (by omega)
                have sb := cntW_bd z t j
                clear hc
                by_cases g1 : z j 1 ≤ t
                · by_cases g2 : z j 5 < 0
                  · have E := Lib.hid (cntW_yes (z := z) ⟨g1, .inl g2⟩)
                    obtain ⟨s, hs⟩ : ∃ s, cntW z t j = s := ⟨_, rfl⟩
                    rw [hs] at E sb
                    rw [hs]
                    obtain ⟨x, hx⟩ : ∃ x, z j 1 = x := ⟨_, rfl⟩
                    obtain ⟨y, hy⟩ : ∃ y, z j 5 = y := ⟨_, rfl⟩
                    rw [hx] at c1 g1
                    rw [hy] at c5 g2
                    clear hs hx hy
                    go_wp2_with fail
                    go_roundg (k - (j + 1))
                    case measure => omega
                    case rel => exact ⟨rfl, j + 1, by omega, rfl, by go_num, qvint (by rw [E.out])⟩
                  · by_cases g3 : (t : Int) < z j 5
                    · have E := Lib.hid (cntW_yes (z := z) ⟨g1, .inr g3⟩)
                      obtain ⟨s, hs⟩ : ∃ s, cntW z t j = s := ⟨_, rfl⟩
                      rw [hs] at E sb
                      rw [hs]
                      obtain ⟨x, hx⟩ : ∃ x, z j 1 = x := ⟨_, rfl⟩
                      obtain ⟨y, hy⟩ : ∃ y, z j 5 = y := ⟨_, rfl⟩
                      rw [hx] at c1 g1
                      rw [hy] at c5 g2 g3
                      clear hs hx hy
                      go_wp2_with fail
                      go_roundg (k - (j + 1))
                      case measure => omega
                      case rel => exact ⟨rfl, j + 1, by omega, rfl, by go_num, qvint (by rw [E.out])⟩
                    · have E := Lib.hid (cntW_no (z := z) (t := t) (k := j) (fun hc => by omega))
                      obtain ⟨s, hs⟩ : ∃ s, cntW z t j = s := ⟨_, rfl⟩
                      rw [hs] at E sb
                      rw [hs]
                      obtain ⟨x, hx⟩ : ∃ x, z j 1 = x := ⟨_, rfl⟩
                      obtain ⟨y, hy⟩ : ∃ y, z j 5 = y := ⟨_, rfl⟩
                      rw [hx] at c1 g1
                      rw [hy] at c5 g2 g3
                      clear hs hx hy
                      go_wp2_with fail
                      go_roundg (k - (j + 1))
                      case measure => omega
                      case rel => exact ⟨rfl, j + 1, by omega, rfl, by go_num, qvint (by rw [E.out])⟩
                · have E := Lib.hid (cntW_no (z := z) (t := t) (k := j) (fun hc => g1 hc.1))
                  obtain ⟨s, hs⟩ : ∃ s, cntW z t j = s := ⟨_, rfl⟩
                  rw [hs] at E sb
                  rw [hs]
                  obtain ⟨x, hx⟩ : ∃ x, z j 1 = x := ⟨_, rfl⟩
                  obtain ⟨y, hy⟩ : ∃ y, z j 5 = y := ⟨_, rfl⟩
                  rw [hx] at c1 g1
                  rw [hy] at c5
                  clear hs hx hy
                  go_wp2_with fail
                  go_roundg (k - (j + 1))
                  case measure => omega
                  case rel => exact ⟨rfl, j + 1, by omega, rfl, by go_num, qvint (by rw [E.out])⟩
              · obtain rfl : j = k := by omega
                obtain ⟨s, hs⟩ : ∃ s, cntW z t j = s := ⟨_, rfl⟩
                have HSx := Lib.hid hs
                rw [hs]
                clear hs
                go_wp2_with (at_builtin; refine wpList_append_own_at _ rfl _ _ 34 rfl w2.heap.size 3 i0 (.int .i64 0) 1 8 Try.underlying34 hi hz0 hz1 hz2 rfl (by decide) _ _ _ rfl (hownW.alloc _) ⟨_, 0, none⟩ 1 1 [.int .i64 s] rfl rfl one_newR (by intro u hu; simp at hu; subst hu; rfl) (by unfold maxLen; omega) (by omega) (by have := hb.size; simp; omega) ?_; intro v' w4 hownW' hgrow3 _ hat3)
                have HC : WQ z j (t + 1) v' w2 w4 := ⟨by rw [rowL_succ, List.map_append, HSx.out]; exact hownW', below_app (base := 0) hb hownW hgrow3⟩
                clear hownW' hgrow3
                go_wp2_with fail
                go_roundg (H - (t + 1))
                case measure => omega
                case rel => exact ⟨t + 1, by omega, rfl, by go_num, HC⟩
          · obtain rfl : t = H := by omega
            have htI : ¬ (t : Int) < h := fun hc => htH ((HHf.out t).1 hc)
            obtain ⟨B3, cc3, hv, hRW⟩ := ownR_rd (ownR_len hownW (rowL_len _ _)) (cntrow_wf z k t (by omega))
            rw [rowL_len] at hv
            cases hv
            have HRW := Lib.hid hRW
            have RA := Lib.hid (HRA.out.kept hb)
            have RO := Lib.hid (HRO.out.kept hb)
            have RZ := Lib.hid (HRw.out.kept hb)
            have HB3 := Lib.hid (HB2.out.trans (hb.mono HB2.out.size))
            have htI2 : h ≤ t := by omega
            clear hownW hb hRW
            go_wp2_with fail
            refine (HA.out _ RZ.out).mono ?_
            rintro e w5 ⟨G1, gc1, rfl, hG1, hb5⟩
            have HE1 := Lib.hid (fun B d (hB : RdI wr .i64 B (rowL (fun i => z i 1) k)) => equal_int_n G1 B gc1 d k _ w5 (rowL_len _ _) hG1 (hB.kept hb5) (by omega))
            have HB5 := Lib.hid (HB3.out.trans (hb5.mono HB3.out.size))
            have RO5 := Lib.hid (RO.out.kept hb5)
            have RZ5 := Lib.hid (RZ.out.kept hb5)
            have RW5 := Lib.hid (HRW.out.kept hb5)
            clear hG1 hb5
            go_wp2_with fail
            refine (HE1.out _ _ RA.out).mono ?_
            rintro e w6 ⟨rfl, q1, rfl⟩
            go_wp2_with fail
            refine (HO.out (w5.drewN q1) RZ5.out).mono ?_
            rintro e w7 ⟨G2, gc2, rfl, hG2, hb7⟩
            have HE2 := Lib.hid (fun B d (hB : RdI w5 .i64 B L) => equal_int_n G2 B gc2 d L.length L w7 rfl hG2 (RdI.kept (w := w5.drewN q1) hB hb7) (by have := HLl.out; omega))
            have HB7 := Lib.hid ((below_drewN HB5.out q1).trans (hb7.mono HB5.out.size))
            have RZ7 := Lib.hid (RdZ.kept (w := w5.drewN q1) RZ5.out hb7)
            have RW7 := Lib.hid (RdI.kept (w := w5.drewN q1) RW5.out hb7)
            clear hG2 hb7
            go_wp2_with fail
            refine (HE2.out _ _ RO5.out).mono ?_
            rintro e w8 ⟨rfl, q2, rfl⟩
            go_wp2_with fail
            refine (HQ.out (w7.drewN q2) RZ7.out).mono ?_
            rintro e w9 ⟨G3, gc3, rfl, hG3, hb9⟩
            have HE3 := Lib.hid (fun B d (hB : RdI w7 .i64 B (rowL (fun t => cntW z t k) t)) => equal_int_n G3 B gc3 d t _ w9 (rowL_len _ _) hG3 (RdI.kept (w := w7.drewN q2) hB hb9) (by omega))
            have HB9 := Lib.hid ((below_drewN HB7.out q2).trans (hb9.mono HB7.out.size))
            clear hG3 hb9
            go_wp2_with fail
            refine (HE3.out _ _ RW7.out).mono ?_
            rintro e w10 ⟨rfl, q3, rfl⟩
            go_wp2_with (go_at_call 25; refine (palive _).mono ?_; rintro e w11 ⟨rfl, hb11⟩)
            go_ret
            exact ⟨rfl, (below_drewN HB9.out q3).trans (hb11.mono HB9.out.size)⟩
theorem walk {w : World} {a1 : Int} {A : Option Addr} {c n : Nat} {z : Nat → Nat → Int} (hl : n ≤ c) (hm : c ≤ maxLen) (hr : RdZ w 7 A n z) (hnx : A = none → c = 0) (h1 : (Lit.int .i64 a1).wf = true) :
    Calls Try.prog 7 #[.slice A n c, .int .i64 a1] w fun e w' => e = .returned (.bool true) ∧ Below w.heap.size w w' := by
  have hn : n ≤ 9223372036854775807 := by unfold maxLen at hm; omega
  have hlo := (bounds_i64 h1).1
  by_cases hh : 300 < a1
  · exact walk_far A c n a1 z w hr hn hh
  · exact walk_near A c n a1.toNat a1 z w hr hn (by omega) rfl hlo

end Go.Proofs.Ytmdjncknjbjmbaa.pulseQueues
