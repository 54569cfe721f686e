/- Contract of shuffle.Order. -/
import Derived.Test.YteebeiflipfbkaaRows
import Derived.Test.YteebeiflipfbkaaRowKit
import Derived.Test.YteebeiflipfbkaaSlicesEq
import Derived.Test.YteebeiflipfbkaaSlicesEqM
import Derived.Test.YteebeiflipfbkaaRowL
import Derived.Test.YteebeiflipfbkaaMakeI
import Derived.Test.YteebeiflipfbkaaBlocks
import Derived.Test.YteebeiflipfbkaaWordsA
import Derived.Test.YteebeiflipfbkaaShufMath
import Derived.Test.YteebeiflipfbkaaShufA
import Derived.Test.YteebeiflipfbkaaShufB
import Derived.Test.YteebeiflipfbkaaShufD
import Derived.Test.YteebeiflipfbkaaShufE
import Derived.Test.YteebeiflipfbkaaShufF
import Derived.Test.YteebeiflipfbkaaShufO
import Derived.WalkKit
import Derived.IntWalk
import Derived.Lib.Hide
import Derived.Lib.SmallJoins
import Derived.WalkSpells
import Derived.WalkLawsBesides
import Derived.Laws.CopyOwn
import Derived.Laws.MakeOwn
import Derived.Laws.OwnMore
import Derived.OwnWalk
import Derived.Deep.QuietTactic
import Derived.Deep.RegionHeld3
import Derived.Deep.LoopGhost
import Derived.Deep.Onto
import Derived.BigQuiet
import Derived.BigRegion
namespace Go.Proofs.Yteebeiflipfbkaa
open Go.RowKit
set_option linter.unusedSimpArgs false
set_option linter.unusedVariables false
set_option maxRecDepth 100000 in
set_option maxHeartbeats 8000000 in
theorem porder_loop (k n m c : Nat) (a : Int) (W : Option Addr) (ws : Nat → Int) (w : World) (hk1 : n ≤ k + 1) (hk2 : k + 1 ≤ n ∨ k = 0 ∧ n = 0) (hn : n ≤ 300) (hm : m ≤ 1000) (ha : -9223372036854775808 ≤ a) (ha' : a ≤ 1099511627776) (hw : ∀ j : Nat, (j : Int) < lf m a → 0 ≤ ws j ∧ ws j ≤ 4294967295) (hW : ∀ X, Below w.heap.size w X → ∀ j : Nat, (j : Int) < lf m a → ∃ b o ka : Nat, W = some ⟨b, o, none⟩ ∧ a + j = (ka : Nat) ∧ ka < m ∧ X.cell? ⟨b, o + ka, none⟩ = some (.int .u32 (ws j))) (E : Ending → World → Prop)
    (hok : (k : Int) ≤ lf m a → ∀ A w', RdI w' .i64 A (rowL (ordF ws n k) n) → Below w.heap.size w w' → ∀ c', n ≤ c' → c' ≤ 300 → E (.returned (.tuple #[.slice A n c', .agg #[.slice W m c, .int .i64 (a + k)], .int .i64 0])) w')
    (hdry : lf m a < k → ∀ w', Below w.heap.size w w' → E (.returned (.tuple #[.slice none 0 0, .agg #[.slice W m c, .int .i64 a], .int .i64 50])) w') :
    Calls Try.prog 36 #[.int .i64 n, .agg #[.slice W m c, .int .i64 a]] w E := by
  have HR := Lib.hid (fun W => srow_any n W (by omega))
  have hl0 : ((0 : Nat) : Int) ≤ lf m a := by unfold lf; split <;> omega
  have HW := Lib.hid hW
  have HWD := Lib.hid hw
  have HOK := Lib.hid hok
  have HDRY := Lib.hid hdry
  clear hok hdry hw hW
  go_enter Try.func36, Try.ntmps36
  go_wp2_with fail
  go_region_held3 (fun X => X.cell? ⟨w.heap.size, 0, none⟩ = some (.slice W m c) ∧ X.cell? ⟨w.heap.size, 1, none⟩ = some (.int .i64 a))
    (first | go_keep | exact ⟨far2 k0 (by show w.heap.size ≠ w.heap.size + 1 + 1; omega) (by show w.heap.size ≠ w.heap.size + 1 + 1; omega), far2 k1 (by show w.heap.size ≠ w.heap.size + 1 + 1; omega) (by show w.heap.size ≠ w.heap.size + 1 + 1; omega)⟩)
    (first
      | (go_at_call 82; refine (HR.out _).mono ?_; rintro e w1 ⟨rfl, hown, hb1⟩; have k0 : w1.cell? ⟨w.heap.size, 0, none⟩ = some (.slice W m c) := (hb1.cell (p := ⟨w.heap.size, 0, none⟩) (by simp <;> omega)).trans (by first | assumption | go_simp); have k1 : w1.cell? ⟨w.heap.size, 1, none⟩ = some (.int .i64 a) := (hb1.cell (p := ⟨w.heap.size, 1, none⟩) (by simp <;> omega)).trans (by first | assumption | go_simp); have MB := third_blk hb1; have m0 := MB.cell 0; have m1 := MB.cell 1; have n0 := MB.frozen 0; have n1 := MB.frozen 1; have MBh := Lib.hid MB; clear MB)
      | (go_at_call 82; refine (HR.out _).mono ?_; rintro e w1 ⟨rfl, hown, hb1⟩; have k0 : w1.cell? ⟨w.heap.size, 0, none⟩ = some (.slice W m c) := (hb1.cell (p := ⟨w.heap.size, 0, none⟩) (by simp <;> omega)).trans (by first | assumption | go_simp); have k1 : w1.cell? ⟨w.heap.size, 1, none⟩ = some (.int .i64 a) := (hb1.cell (p := ⟨w.heap.size, 1, none⟩) (by simp <;> omega)).trans (by first | assumption | go_simp)))
  · obtain ⟨hX, hgl0⟩ := on_first (f := ordF ws n 0) hown hb1
    clear hown hb1 k0 k1
    obtain ⟨g, hg⟩ : ∃ g, w.heap.size + 1 + 1 = g := ⟨_, rfl⟩
    obtain ⟨l, hl⟩ : ∃ l, w1.heap.size = l := ⟨_, rfl⟩
    have hgl : g ≠ l ∧ g ≠ w.heap.size + 1 ∧ l ≠ w.heap.size + 1 ∧ g ≠ w.heap.size ∧ l ≠ w.heap.size ∧ w.heap.size ≤ g ∧ w.heap.size ≤ l := by omega
    obtain ⟨X, hXe⟩ : ∃ X, w1.alloc (.cells #[.slice W m c, .int .i64 a] 64) = X := ⟨_, rfl⟩
    rw [hXe] at hX ⊢
    rw [hg, hl] at hX ⊢
    clear hgl0
    have HG := Lib.hid hgl
    have HX := Lib.hid hX
    clear hX hXe hg hl hgl
    go_wp2_with fail
    go_loopg [9] k (fun gh iv wr => ∃ (j : Nat) (I : Int), j ≤ k ∧ (j : Int) ≤ lf m a ∧ gh = k - j ∧ iv = .int .i64 I ∧ I ≤ (n : Int) - 1 - j ∧ (n : Int) - 1 - j ≤ I ∧ Hid (ON w wr n g l (ordF ws n j) W m c (a + j) a))
    case atStart => exact ⟨0, _, by omega, hl0, by omega, rfl, by omega, by omega, Lib.hid (by have := HX.out; rw [show a + ((0 : Nat) : Int) = a by omega]; exact this)⟩
    case round =>
      obtain ⟨j, I, hjk, hjl, rfl, rfl, hI1, hI2, HO⟩ := hrel
      obtain ⟨x0, x1, y0, y1⟩ := HO.out.s.pair
      by_cases hjp : 0 < I
      · obtain ⟨i, rfl⟩ := Int.eq_ofNat_of_zero_le (show 0 ≤ I by omega)
        have hj : j < k := by omega
        have hi : n - 1 - j = i := by omega
        have hin : i < n := by omega
        have hjp2 : (0 : Int) < i := hjp
        have hi300 : (i : Int) ≤ 300 := by omega
        obtain ⟨d, hd⟩ : ∃ d, (i : Int) + 1 = d := ⟨_, rfl⟩
        have hdn : (n : Int) - j = d := by omega
        have d1 : 1 ≤ d := by omega
        have d2 : d ≤ 300 := by omega
        by_cases hjm : (j : Int) < lf m a
        · obtain ⟨bw, ow, ka, hWe, hka, hkm, hcw⟩ := HW.out wr HO.out.e j hjm
          obtain ⟨v0, v1⟩ := HWD.out j hjm
          obtain ⟨e1, e2', e3⟩ := oat_eq3 (n := n) v0 v1 (show j < n by omega)
          have e2 : oatF ws n j < n := by omega
          have B := below_some bw ow m c ka (ws j) d wr (by omega) hkm hcw v0 v1 d1 (by omega)
          rw [← hWe] at B
          have SS : Hid (swF (ordF ws n j) i (oatF ws n j) = ordF ws n (j + 1)) := Lib.hid (by rw [← hi]; rfl)
          rw [hka] at x1
          rw [hdn] at e1 e3
          obtain ⟨t, ht⟩ : ∃ t, oatF ws n j = t := ⟨_, rfl⟩
          rw [ht] at e1 e2 e2' SS
          obtain ⟨x, hx⟩ : ∃ x, ws j * d / 4294967296 = x := ⟨_, rfl⟩
          rw [hx] at e1 e3 B
          rw [e1] at B
          have B := Lib.hid B
          have x2 : (t : Int) ≤ 300 := by omega
          clear e1 e3 hdn hi
          have hka2 : Hid ((ka : Int) + 1 = a + ((j + 1 : Nat) : Int)) := Lib.hid (by omega)
          have hka3 : (ka : Int) ≤ 1000 := by omega
          obtain ⟨f, hf⟩ : ∃ f, ordF ws n j = f := ⟨_, rfl⟩
          have HO2 := HO.out
          rw [hf] at HO2 SS
          have HO3 := Lib.hid HO2
          have HS3 : Hid (Blk wr l 64 #[.slice W m c, .int .i64 ka]) := Lib.hid (by rw [← hka]; exact HO3.out.s)
          clear hcw v0 v1 ht hx hf HO2 HX hWe hka
          go_wp2_with fail
          refine B.out.mono ?_
          rintro e w2 ⟨rfl, hb2⟩
          have hsz : g < w2.heap.size := Nat.lt_of_lt_of_le (HO3.out.o.lt g rfl).2 hb2.size
          have O2 := (mkOwn_below HO3.out.o hb2).alloc (.cells #[.slice W m c, .int .i64 ((ka : Int) + 1)] 64)
          have S2 := (HS3.out.next hb2).alloc (.cells #[.slice W m c, .int .i64 ((ka : Int) + 1)] 64)
          have P2 := (HO3.out.b.next hb2).alloc (.cells #[.slice W m c, .int .i64 ((ka : Int) + 1)] 64)
          have R2 := (HO3.out.r.next hb2).alloc (.cells #[.slice W m c, .int .i64 ((ka : Int) + 1)] 64)
          have N2 := Blk.new w2 #[(.slice W m c : Value), .int .i64 ((ka : Int) + 1)] 64
          have hsl : l < w2.heap.size := (HO3.out.s.next hb2).lt
          have EB : Below w.heap.size w w2 := HO3.out.e.trans (hb2.mono HO3.out.e.size)
          have EV := EB.alloc EB.size (.cells #[.slice W m c, .int .i64 ((ka : Int) + 1)] 64)
          obtain ⟨nb, hnb⟩ : ∃ nb, w2.heap.size = nb := ⟨_, rfl⟩
          clear EB x0 x1 y0 y1 hb2
          go_wp2_with fail
          obtain ⟨V, hV⟩ : ∃ V, w2.alloc (.cells #[.slice W m c, .int .i64 ((ka : Int) + 1)] 64) = V := ⟨_, rfl⟩
          rw [hV] at O2 S2 P2 R2 N2 EV ⊢
          rw [hnb] at N2 hsz hsl
          have c1 := ownR_cell O2 hin
          have c2 := ownR_cell O2 e2
          have f1 := O2.frozenAt i
          have f2 := O2.frozenAt t
          have O3 := mkRow_put (j := i) (u := f t) O2 (rowL_set _ _ _ _)
          obtain ⟨t', c3⟩ : ∃ t', (V.setCell ⟨g, i, none⟩ (.int .i64 (f t))).cell? ⟨g, t, none⟩ = some (.int .i64 t') := ⟨_, ownR_cell O3 e2⟩
          have f3 := O3.frozenAt t
          have O4 := mkRow_put (j := t) (u := f i) O3 (rowL_set _ _ _ _)
          have E4 : (fun q => if q = t then f i else if q = i then f t else f q) = ordF ws n (j + 1) := by rw [← SS.out]; rfl
          rw [E4] at O4
          have OH := Lib.hid O4
          have SB := Lib.hid S2
          have PB := Lib.hid P2
          have RB := Lib.hid R2
          have NB := Lib.hid N2
          have EH := Lib.hid EV
          have hjn : (i : Int) < n := by omega
          have htn : (t : Int) < n := by omega
          obtain ⟨p, hp⟩ : ∃ p, f i = p := ⟨_, rfl⟩
          obtain ⟨q, hq⟩ : ∃ q, f t = q := ⟨_, rfl⟩
          rw [hp] at c1 OH
          rw [hq] at c2 c3 f3 OH
          clear O2 S2 P2 R2 N2 EV O3 O4 E4 hV hnb hp hq
          go_region
          obtain ⟨Y, hY⟩ : ∃ Y, ((V.setCell ⟨g, i, none⟩ (.int .i64 q)).setCell ⟨g, t, none⟩ (.int .i64 p)).drew = Y := ⟨_, rfl⟩
          rw [hY]
          have OY : Y.ownsRow w.heap.size 3 1 (.slice (some ⟨g, 0, none⟩) n n) n ((rowL (ordF ws n (j + 1)) n).map (Value.int .i64)) := by rw [← hY]; exact own_dr OH.out
          have SY : Blk Y l 64 #[.slice W m c, .int .i64 ka] := by rw [← hY]; exact Blk.dr ((SB.out.far (fun c => HG.out.1 c.symm) _).far (fun c => HG.out.1 c.symm) _)
          have PY : Blk Y w.heap.size 64 #[.slice W m c, .int .i64 a] := by rw [← hY]; exact Blk.dr ((PB.out.far (fun c => HG.out.2.2.2.1 c.symm) _).far (fun c => HG.out.2.2.2.1 c.symm) _)
          have RY : Blk Y (w.heap.size + 1) 64 #[.slice none 0 0, .int .i64 0] := by rw [← hY]; exact Blk.dr ((RB.out.far (fun c => HG.out.2.1 c.symm) _).far (fun c => HG.out.2.1 c.symm) _)
          have NY : Blk Y nb 64 #[.slice W m c, .int .i64 ((ka : Int) + 1)] := by rw [← hY]; exact Blk.dr ((NB.out.far (fun c => by have c' : nb = g := c; omega) _).far (fun c => by have c' : nb = g := c; omega) _)
          have EY : Below w.heap.size w Y := by rw [← hY]; exact ((EH.out.setCell (by show w.heap.size ≤ g; exact HG.out.2.2.2.2.2.1) _).setCell (by show w.heap.size ≤ g; exact HG.out.2.2.2.2.2.1) _).drew
          obtain ⟨n0, n1, _, _⟩ := NY.pair
          obtain ⟨x0, x1, y0, y1⟩ := SY.pair
          have Q := Lib.hid (show ON w ((Y.setCell ⟨l, 0, none⟩ (.slice W m c)).setCell ⟨l, 1, none⟩ (.int .i64 ((ka : Int) + 1))) n g l (ordF ws n (j + 1)) W m c (a + ((j + 1 : Nat) : Int)) a from ⟨own_far (own_far OY (by show some g ≠ some l; intro c; exact HG.out.1 (Option.some.inj c)) _) (by show some g ≠ some l; intro c; exact HG.out.1 (Option.some.inj c)) _, by rw [← hka2.out]; exact SY.put2 _ _, (PY.far (fun c => HG.out.2.2.2.2.1 c.symm) _).far (fun c => HG.out.2.2.2.2.1 c.symm) _, (RY.far (fun c => HG.out.2.2.1 c.symm) _).far (fun c => HG.out.2.2.1 c.symm) _, (EY.setCell (by show w.heap.size ≤ l; exact HG.out.2.2.2.2.2.2) _).setCell (by show w.heap.size ≤ l; exact HG.out.2.2.2.2.2.2) _⟩)
          clear OY SY PY RY NY EY hY OH SB PB RB NB EH c1 c2 c3 f1 f2 f3
          go_wp2_with fail
          go_roundg (k - (j + 1))
          case measure => omega
          case rel => exact ⟨j + 1, _, by omega, by omega, rfl, rfl, by omega, by omega, Q⟩
        · have hz : lf m (a + j) = 0 := by
            unfold lf at hjl hjm ⊢
            split at hjl
            · rw [if_pos (by assumption)] at hjm
              split <;> omega
            · rw [if_neg (by assumption)] at hjm
              split <;> omega
          have B := Lib.hid (below_dry W m c (a + j) d wr (by omega) (by omega) (by omega) hz d1 (by omega))
          have HF := Lib.hid (HDRY.out (by omega))
          clear hz
          go_wp2_with fail
          refine B.out.mono ?_
          rintro e w2 ⟨rfl, hb2⟩
          have P2 := Lib.hid ((HO.out.b.next hb2).alloc (.cells #[.slice W m c, .int .i64 (a + j)] 64))
          have R2 := Lib.hid ((HO.out.r.next hb2).alloc (.cells #[.slice W m c, .int .i64 (a + j)] 64))
          have EB : Below w.heap.size w w2 := HO.out.e.trans (hb2.mono HO.out.e.size)
          have EV := Lib.hid (EB.alloc EB.size (.cells #[.slice W m c, .int .i64 (a + j)] 64))
          clear EB x0 x1 y0 y1 hb2
          go_wp2_with fail
          obtain ⟨V, hV⟩ : ∃ V, w2.alloc (.cells #[.slice W m c, .int .i64 (a + j)] 64) = V := ⟨_, rfl⟩
          rw [hV] at P2 R2 EV ⊢
          obtain ⟨p0, p1, _, _⟩ := P2.out.pair
          obtain ⟨r0, r1, f0, f1⟩ := R2.out.pair
          clear hV
          go_region
          obtain ⟨Y, hY⟩ : ∃ Y, ((V.setCell ⟨w.heap.size + 1, 0, none⟩ (.slice W m c)).setCell ⟨w.heap.size + 1, 1, none⟩ (.int .i64 a)).drew = Y := ⟨_, rfl⟩
          rw [hY]
          have RY : Blk Y (w.heap.size + 1) 64 #[.slice W m c, .int .i64 a] := by rw [← hY]; exact Blk.dr (R2.out.put2 _ _)
          have EY : Below w.heap.size w Y := by rw [← hY]; exact ((EV.out.setCell (by show w.heap.size ≤ w.heap.size + 1; omega) _).setCell (by show w.heap.size ≤ w.heap.size + 1; omega) _).drew
          obtain ⟨q0, q1, _, _⟩ := RY.pair
          have EYh := Lib.hid EY
          clear RY EY hY p0 p1 r0 r1 f0 f1
          go_wp2_with fail
          exact bodyPost_ret (v := .tuple #[.slice none 0 0, .agg #[.slice W m c, .int .i64 a], .int .i64 50]) (by simp [results, Try.results36, go_sem, *]) rfl (HF.out _ EYh.out)
      · obtain rfl : j = k := by omega
        have hjp3 : I ≤ 0 := by omega
        have HF := Lib.hid (HOK.out hjl)
        obtain ⟨r0, r1, f0, f1⟩ := HO.out.r.pair
        have RDw : Hid (∀ i, i < n → (Lit.int .i64 (ordF ws n j i)).wf = true) := Lib.hid fun i hi => by
          have := ord_bd (ws := ws) (n := n) j (fun j' hj' => ⟨by omega, HWD.out j' (by omega)⟩) i (by omega)
          exact WalkArith.wf_i64 (by omega)
        go_wp2_with fail
        go_region
        obtain ⟨Y, hY⟩ : ∃ Y, ((wr.setCell ⟨w.heap.size + 1, 0, none⟩ (.slice W m c)).setCell ⟨w.heap.size + 1, 1, none⟩ (.int .i64 (a + j))).drew = Y := ⟨_, rfl⟩
        rw [hY]
        have RY : Blk Y (w.heap.size + 1) 64 #[.slice W m c, .int .i64 (a + j)] := by rw [← hY]; exact Blk.dr (HO.out.r.put2 _ _)
        have OY : Y.ownsRow w.heap.size 3 1 (.slice (some ⟨g, 0, none⟩) n n) n ((rowL (ordF ws n j) n).map (Value.int .i64)) := by rw [← hY]; exact own_dr (own_far (own_far HO.out.o (by show some g ≠ some (w.heap.size + 1); intro c; exact HG.out.2.1 (Option.some.inj c)) _) (by show some g ≠ some (w.heap.size + 1); intro c; exact HG.out.2.1 (Option.some.inj c)) _)
        have EY : Below w.heap.size w Y := by rw [← hY]; exact ((HO.out.e.setCell (by show w.heap.size ≤ w.heap.size + 1; omega) _).setCell (by show w.heap.size ≤ w.heap.size + 1; omega) _).drew
        obtain ⟨q0, q1, _, _⟩ := RY.pair
        have RD : Hid (RdI Y .i64 (some ⟨g, 0, none⟩) (rowL (ordF ws n j) n)) := Lib.hid (by
          apply rdI_mk
          intro i hi
          rw [rowL_len] at hi
          rw [rowL_at _ hi, Nat.zero_add]
          exact ⟨ownR_cell OY (by omega), RDw.out i hi⟩)
        have EYh := Lib.hid EY
        clear RY EY OY hY r0 r1 f0 f1 x0 x1 y0 y1
        go_wp2_with fail
        exact bodyPost_ret (v := .tuple #[.slice (some ⟨g, 0, none⟩) n n, .agg #[.slice W m c, .int .i64 (a + j)], .int .i64 0]) (by simp [results, Try.results36, go_sem, *]) rfl (HF.out _ _ RD.out EYh.out _ (Nat.le_refl _) hn)
  · have hX := on_second (f := ordF ws n 0) hown hb1
    clear hown hb1 k0 k1 m0 m1 n0 n1 MBh
    obtain ⟨X, hXe⟩ : ∃ X, (w1.setCell ⟨w.heap.size + 1 + 1, 0, none⟩ (.slice W m c)).setCell ⟨w.heap.size + 1 + 1, 1, none⟩ (.int .i64 a) = X := ⟨_, rfl⟩
    rw [hXe] at hX ⊢
    obtain ⟨g, hg⟩ : ∃ g, w.heap.size + 1 + 1 + 1 = g := ⟨_, rfl⟩
    rw [hg] at hX ⊢
    obtain ⟨l, hl⟩ : ∃ l, w.heap.size + 1 + 1 = l := ⟨_, rfl⟩
    have hgl : g ≠ l ∧ g ≠ w.heap.size + 1 ∧ l ≠ w.heap.size + 1 ∧ g ≠ w.heap.size ∧ l ≠ w.heap.size ∧ w.heap.size ≤ g ∧ w.heap.size ≤ l := by omega
    rw [hl] at hX ⊢
    have HG := Lib.hid hgl
    have HX := Lib.hid hX
    clear hX hXe hg hl hgl
    go_wp2_with fail
    go_loopg [9] k (fun gh iv wr => ∃ (j : Nat) (I : Int), j ≤ k ∧ (j : Int) ≤ lf m a ∧ gh = k - j ∧ iv = .int .i64 I ∧ I ≤ (n : Int) - 1 - j ∧ (n : Int) - 1 - j ≤ I ∧ Hid (ON w wr n g l (ordF ws n j) W m c (a + j) a))
    case atStart => exact ⟨0, _, by omega, hl0, by omega, rfl, by omega, by omega, Lib.hid (by have := HX.out; rw [show a + ((0 : Nat) : Int) = a by omega]; exact this)⟩
    case round =>
      obtain ⟨j, I, hjk, hjl, rfl, rfl, hI1, hI2, HO⟩ := hrel
      obtain ⟨x0, x1, y0, y1⟩ := HO.out.s.pair
      by_cases hjp : 0 < I
      · obtain ⟨i, rfl⟩ := Int.eq_ofNat_of_zero_le (show 0 ≤ I by omega)
        have hj : j < k := by omega
        have hi : n - 1 - j = i := by omega
        have hin : i < n := by omega
        have hjp2 : (0 : Int) < i := hjp
        have hi300 : (i : Int) ≤ 300 := by omega
        obtain ⟨d, hd⟩ : ∃ d, (i : Int) + 1 = d := ⟨_, rfl⟩
        have hdn : (n : Int) - j = d := by omega
        have d1 : 1 ≤ d := by omega
        have d2 : d ≤ 300 := by omega
        by_cases hjm : (j : Int) < lf m a
        · obtain ⟨bw, ow, ka, hWe, hka, hkm, hcw⟩ := HW.out wr HO.out.e j hjm
          obtain ⟨v0, v1⟩ := HWD.out j hjm
          obtain ⟨e1, e2', e3⟩ := oat_eq3 (n := n) v0 v1 (show j < n by omega)
          have e2 : oatF ws n j < n := by omega
          have B := below_some bw ow m c ka (ws j) d wr (by omega) hkm hcw v0 v1 d1 (by omega)
          rw [← hWe] at B
          have SS : Hid (swF (ordF ws n j) i (oatF ws n j) = ordF ws n (j + 1)) := Lib.hid (by rw [← hi]; rfl)
          rw [hka] at x1
          rw [hdn] at e1 e3
          obtain ⟨t, ht⟩ : ∃ t, oatF ws n j = t := ⟨_, rfl⟩
          rw [ht] at e1 e2 e2' SS
          obtain ⟨x, hx⟩ : ∃ x, ws j * d / 4294967296 = x := ⟨_, rfl⟩
          rw [hx] at e1 e3 B
          rw [e1] at B
          have B := Lib.hid B
          have x2 : (t : Int) ≤ 300 := by omega
          clear e1 e3 hdn hi
          have hka2 : Hid ((ka : Int) + 1 = a + ((j + 1 : Nat) : Int)) := Lib.hid (by omega)
          have hka3 : (ka : Int) ≤ 1000 := by omega
          obtain ⟨f, hf⟩ : ∃ f, ordF ws n j = f := ⟨_, rfl⟩
          have HO2 := HO.out
          rw [hf] at HO2 SS
          have HO3 := Lib.hid HO2
          have HS3 : Hid (Blk wr l 64 #[.slice W m c, .int .i64 ka]) := Lib.hid (by rw [← hka]; exact HO3.out.s)
          clear hcw v0 v1 ht hx hf HO2 HX hWe hka
          go_wp2_with fail
          refine B.out.mono ?_
          rintro e w2 ⟨rfl, hb2⟩
          have hsz : g < w2.heap.size := Nat.lt_of_lt_of_le (HO3.out.o.lt g rfl).2 hb2.size
          have O2 := (mkOwn_below HO3.out.o hb2).alloc (.cells #[.slice W m c, .int .i64 ((ka : Int) + 1)] 64)
          have S2 := (HS3.out.next hb2).alloc (.cells #[.slice W m c, .int .i64 ((ka : Int) + 1)] 64)
          have P2 := (HO3.out.b.next hb2).alloc (.cells #[.slice W m c, .int .i64 ((ka : Int) + 1)] 64)
          have R2 := (HO3.out.r.next hb2).alloc (.cells #[.slice W m c, .int .i64 ((ka : Int) + 1)] 64)
          have N2 := Blk.new w2 #[(.slice W m c : Value), .int .i64 ((ka : Int) + 1)] 64
          have hsl : l < w2.heap.size := (HO3.out.s.next hb2).lt
          have EB : Below w.heap.size w w2 := HO3.out.e.trans (hb2.mono HO3.out.e.size)
          have EV := EB.alloc EB.size (.cells #[.slice W m c, .int .i64 ((ka : Int) + 1)] 64)
          obtain ⟨nb, hnb⟩ : ∃ nb, w2.heap.size = nb := ⟨_, rfl⟩
          clear EB x0 x1 y0 y1 hb2
          go_wp2_with fail
          obtain ⟨V, hV⟩ : ∃ V, w2.alloc (.cells #[.slice W m c, .int .i64 ((ka : Int) + 1)] 64) = V := ⟨_, rfl⟩
          rw [hV] at O2 S2 P2 R2 N2 EV ⊢
          rw [hnb] at N2 hsz hsl
          have c1 := ownR_cell O2 hin
          have c2 := ownR_cell O2 e2
          have f1 := O2.frozenAt i
          have f2 := O2.frozenAt t
          have O3 := mkRow_put (j := i) (u := f t) O2 (rowL_set _ _ _ _)
          obtain ⟨t', c3⟩ : ∃ t', (V.setCell ⟨g, i, none⟩ (.int .i64 (f t))).cell? ⟨g, t, none⟩ = some (.int .i64 t') := ⟨_, ownR_cell O3 e2⟩
          have f3 := O3.frozenAt t
          have O4 := mkRow_put (j := t) (u := f i) O3 (rowL_set _ _ _ _)
          have E4 : (fun q => if q = t then f i else if q = i then f t else f q) = ordF ws n (j + 1) := by rw [← SS.out]; rfl
          rw [E4] at O4
          have OH := Lib.hid O4
          have SB := Lib.hid S2
          have PB := Lib.hid P2
          have RB := Lib.hid R2
          have NB := Lib.hid N2
          have EH := Lib.hid EV
          have hjn : (i : Int) < n := by omega
          have htn : (t : Int) < n := by omega
          obtain ⟨p, hp⟩ : ∃ p, f i = p := ⟨_, rfl⟩
          obtain ⟨q, hq⟩ : ∃ q, f t = q := ⟨_, rfl⟩
          rw [hp] at c1 OH
          rw [hq] at c2 c3 f3 OH
          clear O2 S2 P2 R2 N2 EV O3 O4 E4 hV hnb hp hq
          go_region
          obtain ⟨Y, hY⟩ : ∃ Y, ((V.setCell ⟨g, i, none⟩ (.int .i64 q)).setCell ⟨g, t, none⟩ (.int .i64 p)).drew = Y := ⟨_, rfl⟩
          rw [hY]
          have OY : Y.ownsRow w.heap.size 3 1 (.slice (some ⟨g, 0, none⟩) n n) n ((rowL (ordF ws n (j + 1)) n).map (Value.int .i64)) := by rw [← hY]; exact own_dr OH.out
          have SY : Blk Y l 64 #[.slice W m c, .int .i64 ka] := by rw [← hY]; exact Blk.dr ((SB.out.far (fun c => HG.out.1 c.symm) _).far (fun c => HG.out.1 c.symm) _)
          have PY : Blk Y w.heap.size 64 #[.slice W m c, .int .i64 a] := by rw [← hY]; exact Blk.dr ((PB.out.far (fun c => HG.out.2.2.2.1 c.symm) _).far (fun c => HG.out.2.2.2.1 c.symm) _)
          have RY : Blk Y (w.heap.size + 1) 64 #[.slice none 0 0, .int .i64 0] := by rw [← hY]; exact Blk.dr ((RB.out.far (fun c => HG.out.2.1 c.symm) _).far (fun c => HG.out.2.1 c.symm) _)
          have NY : Blk Y nb 64 #[.slice W m c, .int .i64 ((ka : Int) + 1)] := by rw [← hY]; exact Blk.dr ((NB.out.far (fun c => by have c' : nb = g := c; omega) _).far (fun c => by have c' : nb = g := c; omega) _)
          have EY : Below w.heap.size w Y := by rw [← hY]; exact ((EH.out.setCell (by show w.heap.size ≤ g; exact HG.out.2.2.2.2.2.1) _).setCell (by show w.heap.size ≤ g; exact HG.out.2.2.2.2.2.1) _).drew
          obtain ⟨n0, n1, _, _⟩ := NY.pair
          obtain ⟨x0, x1, y0, y1⟩ := SY.pair
          have Q := Lib.hid (show ON w ((Y.setCell ⟨l, 0, none⟩ (.slice W m c)).setCell ⟨l, 1, none⟩ (.int .i64 ((ka : Int) + 1))) n g l (ordF ws n (j + 1)) W m c (a + ((j + 1 : Nat) : Int)) a from ⟨own_far (own_far OY (by show some g ≠ some l; intro c; exact HG.out.1 (Option.some.inj c)) _) (by show some g ≠ some l; intro c; exact HG.out.1 (Option.some.inj c)) _, by rw [← hka2.out]; exact SY.put2 _ _, (PY.far (fun c => HG.out.2.2.2.2.1 c.symm) _).far (fun c => HG.out.2.2.2.2.1 c.symm) _, (RY.far (fun c => HG.out.2.2.1 c.symm) _).far (fun c => HG.out.2.2.1 c.symm) _, (EY.setCell (by show w.heap.size ≤ l; exact HG.out.2.2.2.2.2.2) _).setCell (by show w.heap.size ≤ l; exact HG.out.2.2.2.2.2.2) _⟩)
          clear OY SY PY RY NY EY hY OH SB PB RB NB EH c1 c2 c3 f1 f2 f3
          go_wp2_with fail
          go_roundg (k - (j + 1))
          case measure => omega
          case rel => exact ⟨j + 1, _, by omega, by omega, rfl, rfl, by omega, by omega, Q⟩
        · have hz : lf m (a + j) = 0 := by
            unfold lf at hjl hjm ⊢
            split at hjl
            · rw [if_pos (by assumption)] at hjm
              split <;> omega
            · rw [if_neg (by assumption)] at hjm
              split <;> omega
          have B := Lib.hid (below_dry W m c (a + j) d wr (by omega) (by omega) (by omega) hz d1 (by omega))
          have HF := Lib.hid (HDRY.out (by omega))
          clear hz
          go_wp2_with fail
          refine B.out.mono ?_
          rintro e w2 ⟨rfl, hb2⟩
          have P2 := Lib.hid ((HO.out.b.next hb2).alloc (.cells #[.slice W m c, .int .i64 (a + j)] 64))
          have R2 := Lib.hid ((HO.out.r.next hb2).alloc (.cells #[.slice W m c, .int .i64 (a + j)] 64))
          have EB : Below w.heap.size w w2 := HO.out.e.trans (hb2.mono HO.out.e.size)
          have EV := Lib.hid (EB.alloc EB.size (.cells #[.slice W m c, .int .i64 (a + j)] 64))
          clear EB x0 x1 y0 y1 hb2
          go_wp2_with fail
          obtain ⟨V, hV⟩ : ∃ V, w2.alloc (.cells #[.slice W m c, .int .i64 (a + j)] 64) = V := ⟨_, rfl⟩
          rw [hV] at P2 R2 EV ⊢
          obtain ⟨p0, p1, _, _⟩ := P2.out.pair
          obtain ⟨r0, r1, f0, f1⟩ := R2.out.pair
          clear hV
          go_region
          obtain ⟨Y, hY⟩ : ∃ Y, ((V.setCell ⟨w.heap.size + 1, 0, none⟩ (.slice W m c)).setCell ⟨w.heap.size + 1, 1, none⟩ (.int .i64 a)).drew = Y := ⟨_, rfl⟩
          rw [hY]
          have RY : Blk Y (w.heap.size + 1) 64 #[.slice W m c, .int .i64 a] := by rw [← hY]; exact Blk.dr (R2.out.put2 _ _)
          have EY : Below w.heap.size w Y := by rw [← hY]; exact ((EV.out.setCell (by show w.heap.size ≤ w.heap.size + 1; omega) _).setCell (by show w.heap.size ≤ w.heap.size + 1; omega) _).drew
          obtain ⟨q0, q1, _, _⟩ := RY.pair
          have EYh := Lib.hid EY
          clear RY EY hY p0 p1 r0 r1 f0 f1
          go_wp2_with fail
          exact bodyPost_ret (v := .tuple #[.slice none 0 0, .agg #[.slice W m c, .int .i64 a], .int .i64 50]) (by simp [results, Try.results36, go_sem, *]) rfl (HF.out _ EYh.out)
      · obtain rfl : j = k := by omega
        have hjp3 : I ≤ 0 := by omega
        have HF := Lib.hid (HOK.out hjl)
        obtain ⟨r0, r1, f0, f1⟩ := HO.out.r.pair
        have RDw : Hid (∀ i, i < n → (Lit.int .i64 (ordF ws n j i)).wf = true) := Lib.hid fun i hi => by
          have := ord_bd (ws := ws) (n := n) j (fun j' hj' => ⟨by omega, HWD.out j' (by omega)⟩) i (by omega)
          exact WalkArith.wf_i64 (by omega)
        go_wp2_with fail
        go_region
        obtain ⟨Y, hY⟩ : ∃ Y, ((wr.setCell ⟨w.heap.size + 1, 0, none⟩ (.slice W m c)).setCell ⟨w.heap.size + 1, 1, none⟩ (.int .i64 (a + j))).drew = Y := ⟨_, rfl⟩
        rw [hY]
        have RY : Blk Y (w.heap.size + 1) 64 #[.slice W m c, .int .i64 (a + j)] := by rw [← hY]; exact Blk.dr (HO.out.r.put2 _ _)
        have OY : Y.ownsRow w.heap.size 3 1 (.slice (some ⟨g, 0, none⟩) n n) n ((rowL (ordF ws n j) n).map (Value.int .i64)) := by rw [← hY]; exact own_dr (own_far (own_far HO.out.o (by show some g ≠ some (w.heap.size + 1); intro c; exact HG.out.2.1 (Option.some.inj c)) _) (by show some g ≠ some (w.heap.size + 1); intro c; exact HG.out.2.1 (Option.some.inj c)) _)
        have EY : Below w.heap.size w Y := by rw [← hY]; exact ((HO.out.e.setCell (by show w.heap.size ≤ w.heap.size + 1; omega) _).setCell (by show w.heap.size ≤ w.heap.size + 1; omega) _).drew
        obtain ⟨q0, q1, _, _⟩ := RY.pair
        have RD : Hid (RdI Y .i64 (some ⟨g, 0, none⟩) (rowL (ordF ws n j) n)) := Lib.hid (by
          apply rdI_mk
          intro i hi
          rw [rowL_len] at hi
          rw [rowL_at _ hi, Nat.zero_add]
          exact ⟨ownR_cell OY (by omega), RDw.out i hi⟩)
        have EYh := Lib.hid EY
        clear RY EY OY hY r0 r1 f0 f1 x0 x1 y0 y1
        go_wp2_with fail
        exact bodyPost_ret (v := .tuple #[.slice (some ⟨g, 0, none⟩) n n, .agg #[.slice W m c, .int .i64 (a + j)], .int .i64 0]) (by simp [results, Try.results36, go_sem, *]) rfl (HF.out _ _ RD.out EYh.out _ (Nat.le_refl _) hn)
end Go.Proofs.Yteebeiflipfbkaa
