/- Parking: rows of rows of plans; how one car waits, for all floors. -/
import Derived.Test.YtloplambpfjioaaRows
import Derived.Test.YtloplambpfjioaaRowKit
import Derived.Test.YtloplambpfjioaaRowS
import Derived.Test.YtloplambpfjioaaRowZ
import Derived.Test.YtloplambpfjioaaSlicesEq
import Derived.Test.YtloplambpfjioaaSlicesEqM
import Derived.Test.YtloplambpfjioaaRowL
import Derived.Test.YtloplambpfjioaaRowM
import Derived.Test.YtloplambpfjioaaMakeI
import Derived.Test.YtloplambpfjioaaBlocks
import Derived.Test.YtloplambpfjioaaParkD
import Derived.Test.YtloplambpfjioaaParkPlan
import Derived.Test.YtloplambpfjioaaRowM
import Derived.Test.YtloplambpfjioaaPlaceA
import Derived.Test.YtloplambpfjioaaShelf
import Derived.WalkKit
import Derived.IntWalk
import Derived.Lib.Hide
import Derived.WalkSpells
import Derived.WalkLawsBesides
import Derived.Laws.CopyOwn
import Derived.Laws.MakeOwn
import Derived.Laws.OwnMore
import Derived.OwnWalk
import Derived.Deep.QuietTactic
import Derived.BigQuiet
import Derived.Deep.RegionHeld3
import Derived.Deep.LoopGhost
import Derived.BigRegion
import Derived.Deep.AppendLies
import Derived.Maps.AppendAt
import Derived.Below
namespace Go.Proofs.Ytloplambpfjioaa
open Go.RowKit
set_option linter.unusedSimpArgs false
set_option linter.unusedVariables false
theorem plInfo : (Try.prog.info? 43).map (fun i => (i.zero, i.size, i.bytes)) = some (some (.agg #[.int .i64 0, .int .i64 0, .int .i64 0]), 3, 24) := by kernel_rfl
theorem rwInfo : (Try.prog.info? 41).map (fun i => (i.zero, i.size, i.bytes)) = some (some (.slice none 0 0), 1, 24) := by kernel_rfl
/-- a block that holds a row of plans -/
def rowQ (z : Nat → Nat → Int) (n : Nat) : Array Value := (rowM 3 z n).toArray
theorem rowQ_at {z : Nat → Nat → Int} {n i j : Nat} (hi : i < n) (hj : j < 3) : (rowQ z n)[i * 3 + j]? = some (.int .i64 (z i j)) := by
  unfold rowQ; rw [List.getElem?_toArray]; exact rowM_get hi hj
def put3 (z : Nat → Nat → Int) (i : Nat) (a b c : Int) : Nat → Nat → Int := fun p j => if p = i then (if j = 0 then a else if j = 1 then b else c) else z p j
theorem put3_at (z : Nat → Nat → Int) (i : Nat) (a b c : Int) : put3 z i a b c i 0 = a ∧ put3 z i a b c i 1 = b ∧ put3 z i a b c i 2 = c := by simp [put3]
theorem put3_ne (z : Nat → Nat → Int) {i p : Nat} (a b c : Int) (j : Nat) (h : p ≠ i) : put3 z i a b c p j = z p j := by simp [put3, h]
theorem rowQ_congr {a b : Nat → Nat → Int} {n : Nat} (h : ∀ i j, i < n → j < 3 → a i j = b i j) : rowQ a n = rowQ b n := by unfold rowQ; rw [rowM_congr h]
theorem rowQ_set (z : Nat → Nat → Int) (n i : Nat) {j : Nat} (u : Int) (hj : j < 3) : (rowQ z n).setIfInBounds (i * 3 + j) (.int .i64 u) = rowQ (fun a b => if a = i ∧ b = j then u else z a b) n := by
  unfold rowQ; rw [List.setIfInBounds_toArray, rowM_set hj]
theorem rowQ_set3 (z : Nat → Nat → Int) (n i : Nat) (a b c : Int) : (((rowQ z n).setIfInBounds (i * 3) (.int .i64 a)).setIfInBounds (i * 3 + 1) (.int .i64 b)).setIfInBounds (i * 3 + 2) (.int .i64 c) = rowQ (put3 z i a b c) n := by
  have e0 := rowQ_set z n i (j := 0) a (by omega)
  rw [Nat.add_zero] at e0
  rw [e0, rowQ_set _ n i (j := 1) b (by omega), rowQ_set _ n i (j := 2) c (by omega)]
  refine rowQ_congr fun p j _ hj => ?_
  unfold put3
  by_cases hp : p = i
  · rcases (by omega : j = 0 ∨ j = 1 ∨ j = 2) with rfl | rfl | rfl <;> simp [hp]
  · simp [hp]
theorem blk_q {w : World} {g : Nat} {t : TypeId} {z : Nat → Nat → Int} {N e j : Nat} (h : Blk w g t (rowQ z N)) (he : e < N) (hj : j < 3) : w.cell? ⟨g, e * 3 + j, none⟩ = some (.int .i64 (z e j)) := by
  rw [h.cell]; exact rowQ_at he hj
theorem blk_put3 {w : World} {g : Nat} {t : TypeId} {z : Nat → Nat → Int} {N : Nat} (h : Blk w g t (rowQ z N)) (e : Nat) (a b c : Int) : Blk (((w.setCell ⟨g, e * 3, none⟩ (.int .i64 a)).setCell ⟨g, e * 3 + 1, none⟩ (.int .i64 b)).setCell ⟨g, e * 3 + 2, none⟩ (.int .i64 c)) g t (rowQ (put3 z e a b c) N) := by
  have h1 := ((h.set (e * 3) (.int .i64 a)).set (e * 3 + 1) (.int .i64 b)).set (e * 3 + 2) (.int .i64 c)
  rw [rowQ_set3] at h1; exact h1
theorem own_blk3 {w : World} {base g n : Nat} {e : TypeId} {xs : List Value} (h : w.ownsRow base e 3 (.slice (some ⟨g, 0, none⟩) n n) n xs) (hl : xs.length = n * 3) : Blk w g e xs.toArray := by
  rcases h.2 with ⟨h0, _⟩ | ⟨g', cap', cur, hv, hg, hh, hnc, hcm, hcs, htake⟩
  · simp at h0
  · simp at hv
    obtain ⟨rfl, rfl⟩ := hv
    have e1 : cur.toList = xs := by
      rw [← htake, List.take_of_length_le]
      rw [Array.length_toList, hcs]; exact Nat.le_refl _
    have e2 : cur = xs.toArray := by rw [← e1]
    rw [← e2]; exact hh
theorem made_q {w : World} {base g n : Nat} (h : w.ownsRow base 43 3 (.slice (some ⟨g, 0, none⟩) n n) n (madeCells (Value.cells (.agg #[.int .i64 0, .int .i64 0, .int .i64 0])) (n * 3)).toList) : Blk w g 43 (rowQ (fun _ _ => 0) n) := by
  have e := madeM (n := n) (m := 3) (zc := Value.cells (.agg #[.int .i64 0, .int .i64 0, .int .i64 0])) (by rfl) (fun j hj => by
    rcases (by omega : j = 0 ∨ j = 1 ∨ j = 2) with rfl | rfl | rfl <;> rfl)
  rw [e] at h
  exact own_blk3 h (by rw [rowM_len])
theorem own_ne {w : World} {base : Nat} {e : TypeId} {size n : Nat} {v : Value} {xs : List Value} {g : Nat} {t : TypeId} {cs : Array Value} (h : w.ownsRow base e size v n xs) (hb : Blk w g t cs) (hne : e ≠ t) : ∀ k, v.ownBlock = some k → g ≠ k := by
  intro k hk hgk
  subst hgk
  rcases h.2 with ⟨rfl, _⟩ | ⟨q, cap, cur, rfl, hg, hh, _⟩
  · simp [Value.ownBlock] at hk
  · simp [Value.ownBlock] at hk
    subst hk
    unfold Blk at hb
    rw [hh] at hb
    injection hb with hb
    injection hb with _ h2
    exact hne h2
theorem blkq_grown {w w' : World} {g : Nat} {t : TypeId} {cs : Array Value} {row : Option Nat} (h : Blk w g t cs) (hg : w.grownBy w' row) (hne : ∀ k, row = some k → g ≠ k) : Blk w' g t cs := (hg.block g h.lt (fun e => hne g e.symm rfl)).trans h
def slQ (n : Nat) (G : Nat → Nat) (i : Nat) : Value := .slice (some ⟨G i, 0, none⟩) (n + 1) (n + 1)
/-- a row of k rows of plans, each with n + 1 of them -/
structure RwS (w : World) (B n : Nat) (v : Value) (k : Nat) (G : Nat → Nat) (A : Nat → Nat → Nat → Int) : Prop where
  row : w.ownsRow B 41 1 v k ((List.range k).map (slQ n G))
  blk : ∀ i, i < k → Blk w (G i) 43 (rowQ (A i) (n + 1))
theorem RwS.next {w w' : World} {B n k : Nat} {v : Value} {G : Nat → Nat} {A : Nat → Nat → Nat → Int} (h : RwS w B n v k G A) (hb : Below w.heap.size w w') : RwS w' B n v k G A := ⟨ownM_below h.row hb, fun i hi => (h.blk i hi).next hb⟩
theorem RwS.alloc {w : World} {B n k : Nat} {v : Value} {G : Nat → Nat} {A : Nat → Nat → Nat → Int} (h : RwS w B n v k G A) (o : Obj) : RwS (w.alloc o) B n v k G A := h.next ((Below.refl _ _).alloc (Nat.le_refl _) o)
theorem RwS.drew {w : World} {B n k : Nat} {v : Value} {G : Nat → Nat} {A : Nat → Nat → Nat → Int} (h : RwS w B n v k G A) : RwS w.drew B n v k G A := h.next (Below.refl w.heap.size w).drew
theorem RwS.less {w : World} {B n k : Nat} {v : Value} {G : Nat → Nat} {A : Nat → Nat → Nat → Int} (h : RwS w B n v k G A) {i : Nat} (hi : i < k) : G i < w.heap.size := (h.blk i hi).lt
/-- a cell elsewhere is written -/
theorem RwS.far {w : World} {B n k : Nat} {v : Value} {G : Nat → Nat} {A : Nat → Nat → Nat → Int} (h : RwS w B n v k G A) {p : Addr} (h1 : ∀ q, v.ownBlock = some q → q ≠ p.block) (h2 : ∀ i, i < k → G i ≠ p.block) (u : Value) : RwS (w.setCell p u) B n v k G A :=
  ⟨h.row.kept (row := some p.block) ⟨rfl, rfl, rfl, ((Below.refl 0 w).setCell (p := p) (Nat.zero_le _) u).size, fun i _ hne => Below.heap_setCell w p u i (fun e => hne (by rw [e]))⟩ (by
    cases hv : v.ownBlock with
    | none => exact Or.inl rfl
    | some q => right; intro e; injection e with e; exact h1 q hv e), fun i hi => (h.blk i hi).far (h2 i hi) u⟩
theorem RwS.nil (w : World) (B n : Nat) (G : Nat → Nat) (A : Nat → Nat → Nat → Int) : RwS w B n (.slice none 0 0) 0 G A := ⟨World.ownsRow_nil .., fun i hi => absurd hi (Nat.not_lt_zero _)⟩
theorem RwS.at {w : World} {B n k : Nat} {v : Value} {G : Nat → Nat} {A : Nat → Nat → Nat → Int} (h : RwS w B n v k G A) (hk : 0 < k) : ∃ q cap, v = .slice (some ⟨q, 0, none⟩) k cap ∧ k ≤ cap ∧ B ≤ q ∧ ∀ i, i < k → w.cell? ⟨q, i, none⟩ = some (.slice (some ⟨G i, 0, none⟩) (n + 1) (n + 1)) := by
  obtain ⟨q, cap, rfl, hq, hc⟩ := ownR_head h.row hk
  refine ⟨q, cap, rfl, hc, hq, fun i hi => ?_⟩
  rw [h.row.cellAt i (by simpa using hi), List.getElem?_map, List.getElem?_range hi]; rfl
theorem RwS.push {w w' : World} {B n k g : Nat} {v v' : Value} {G : Nat → Nat} {A : Nat → Nat → Nat → Int} {z : Nat → Nat → Int} (h : RwS w B n v k G A) (hb : Blk w g 43 (rowQ z (n + 1)))
    (hown : w'.ownsRow B 41 1 v' (k + 1) ((List.range k).map (slQ n G) ++ [.slice (some ⟨g, 0, none⟩) (n + 1) (n + 1)])) (hg : w.grownBy w' v.ownBlock) : RwS w' B n v' (k + 1) (fun i => if i = k then g else G i) (fun i => if i = k then z else A i) := by
  refine ⟨?_, fun i hi => ?_⟩
  · have e : (List.range (k + 1)).map (slQ n (fun i => if i = k then g else G i)) = (List.range k).map (slQ n G) ++ [.slice (some ⟨g, 0, none⟩) (n + 1) (n + 1)] := by
      rw [List.range_succ, List.map_append]
      congr 1
      · refine List.map_congr_left fun i hi => ?_
        have := List.mem_range.1 hi
        show Value.slice (some ⟨(if i = k then g else G i), 0, none⟩) (n + 1) (n + 1) = Value.slice (some ⟨G i, 0, none⟩) (n + 1) (n + 1)
        rw [if_neg (by omega)]
      · simp [slQ]
    rw [e]; exact hown
  · have hne : (41 : TypeId) ≠ 43 := by decide
    by_cases q : i = k
    · subst q
      show Blk w' (if i = i then g else G i) 43 (rowQ (if i = i then z else A i) (n + 1))
      rw [if_pos rfl, if_pos rfl]
      exact blkq_grown hb hg (own_ne h.row hb hne)
    · show Blk w' (if i = k then g else G i) 43 (rowQ (if i = k then z else A i) (n + 1))
      rw [if_neg q, if_neg q]
      exact blkq_grown (h.blk i (by omega)) hg (own_ne h.row (h.blk i (by omega)) hne)
/-- a row of one car's plans, up to q -/
def SgR (zs : List Int) (b q : Nat) (z : Nat → Nat → Int) : Prop := (∀ j, j < 3 → z 0 j = 0) ∧ ∀ e, b < e → e < q → z e 0 = b ∧ ∃ m : Nat, IsMed (zat zs) b (e - b) m ∧ z e 1 = m ∧ z e 2 = sgl (zat zs) m b (e - b)
theorem SgR.put {zs : List Int} {b q m : Nat} {z : Nat → Nat → Int} (h : SgR zs b q z) (hq : b < q) (hm : IsMed (zat zs) b (q - b) m) : SgR zs b (q + 1) (put3 z q b m (sgl (zat zs) m b (q - b))) := by
  refine ⟨fun j hj => ?_, fun e h1 h2 => ?_⟩
  · rw [put3_ne _ _ _ _ _ (by omega)]; exact h.1 j hj
  · by_cases he : e = q
    · subst he
      obtain ⟨p0, p1, p2⟩ := put3_at z e b m (sgl (zat zs) m b (e - b))
      exact ⟨p0, m, hm, p1, p2⟩
    · rw [put3_ne _ _ _ _ _ he, put3_ne _ _ _ _ _ he, put3_ne _ _ _ _ _ he]
      exact h.2 e h1 (by omega)
def SsR (zs : List Int) (n : Nat) (w : World) (e : Ending) (w' : World) : Prop := ∃ v G A, e = .returned v ∧ RwS w' w.heap.size n v n G A ∧ Sgs (zat zs) n A ∧ Below w.heap.size w w'
set_option maxRecDepth 100000 in
set_option maxHeartbeats 20000000 in
theorem singles_any (A : Option Addr) (c n : Nat) (zs : List Int) (w : World) (hn : zs.length = n) (hq : RgP zs n) (hnc : n ≤ c) (hcm : c ≤ maxLen) (hr : RdI w .i64 A zs) :
    Calls Try.prog 18 #[.slice A n c] w (SsR zs n w) := by
  obtain ⟨i0, hi, hz0, hz1, hz2⟩ := info_parts plInfo
  obtain ⟨i1, gi, gz0, gz1, gz2⟩ := info_parts rwInfo
  have h1 := hq.1
  have h128 := hq.2.1
  have HQ := Lib.hid hq
  have KS := Lib.hid (fun (W : World) (hb : Below w.heap.size w W) (b e : Nat) (hbe : b < e) (hen : e ≤ n) => single_any A c n b e zs W hn hq hbe hen hnc hcm (hr.kept hb))
  obtain ⟨R, hR⟩ : ∃ R : Ending → World → Prop, SsR zs n w = R := ⟨_, rfl⟩
  have HRR := Lib.hid hR
  rw [hR]
  clear hr hq hR hnc hcm
  go_enter Try.func18, Try.ntmps18
  go_wp2_with fail
  go_loopg [3, 9] n (fun gh av i wr => ∃ (k : Nat) (G : Nat → Nat) (Af : Nat → Nat → Nat → Int), k ≤ n ∧ gh = n - k ∧ i = .int .i64 k ∧ Hid (RwS wr w.heap.size n av k G Af) ∧ Hid (∀ b, b < k → SgR zs b (n + 1) (Af b)) ∧ Hid (Below w.heap.size w wr))
  case atStart => exact ⟨0, fun _ => 0, fun _ _ _ => 0, Nat.zero_le _, rfl, rfl, Lib.hid (RwS.nil ..), Lib.hid (fun b hb => absurd hb (Nat.not_lt_zero _)), Lib.hid (Below.refl _ _)⟩
  case round =>
    obtain ⟨k, G, Af, hk, rfl, rfl, HW, HS, EE⟩ := hrel
    rename World => w1
    by_cases hkn : k < n
    · have hki : (k : Int) < (n : Int) := by omega
      have hsz := EE.out.size
      go_wp2_with (at_make; refine wpList_make_full _ rfl _ _ 41 rfl w.heap.size 43 i0 (.agg #[.int .i64 0, .int .i64 0, .int .i64 0]) 3 Try.underlying41 hi hz0 hz1 _ _ _ _ (n + 1) rfl rfl (by omega) (by omega) (by rw [hz2]; omega) (by unfold maxLen; omega) hsz ?_; intro w2 hown0 hgrow0)
      have b12 : Below w1.heap.size w1 w2 := (Below.refl _ _).grown hgrow0 (Nat.le_refl _) (fun k h => by cases h)
      have HB := Lib.hid (made_q hown0)
      have HL := Lib.hid (fun i (hi : i < k) => HW.out.less hi)
      replace HW := Lib.hid (HW.out.next b12)
      replace EE := Lib.hid (EE.out.trans (b12.mono EE.out.size))
      obtain ⟨g, hg⟩ : ∃ g, w1.heap.size = g := ⟨_, rfl⟩
      rw [hg] at HB hsz ⊢
      have HG : Hid (∀ i, i < k → G i ≠ g) := Lib.hid (fun i hi => by have := HL.out i hi; omega)
      clear hown0 hgrow0 b12 hg HL
      go_wp2_with fail
      go_loopg [6] (n - k) (fun gh fv wr => ∃ (q : Nat) (z : Nat → Nat → Int), k + 1 ≤ q ∧ q ≤ n + 1 ∧ gh = n + 1 - q ∧ fv = .int .i64 q ∧ Hid (Blk wr g 43 (rowQ z (n + 1))) ∧ Hid (SgR zs k q z) ∧ Hid (RwS wr w.heap.size n u3 k G Af) ∧ Hid (Below w.heap.size w wr))
      case atStart => exact ⟨k + 1, _, by omega, by omega, by omega, rfl, HB, Lib.hid ⟨fun _ _ => rfl, fun e a b => by omega⟩, HW, EE⟩
      case round =>
        clear HB HW EE
        obtain ⟨q, z, hq1, hq2, rfl, rfl, HB, HZ, HW, EE⟩ := hrel
        rename World => w3
        by_cases hqn : q ≤ n
        · have hqi : (q : Int) ≤ (n : Int) := by omega
          have hqi2 : (q : Int) < (n : Int) + 1 := by omega
          have KS1 := Lib.hid (KS.out w3 EE.out k q (by omega) hqn)
          go_wp2_with fail
          refine KS1.out.mono ?_
          rintro e w4 ⟨m, hm, rfl, hb⟩
          have HB4 := Lib.hid (HB.out.next hb)
          have HW4 := Lib.hid (HW.out.next hb)
          have E4 := Lib.hid (EE.out.trans (hb.mono EE.out.size))
          have HZ4 := Lib.hid (HZ.out.put (by omega) hm)
          have c0 : w4.cell? ⟨g, q * 3, none⟩ = some (.int .i64 (z q 0)) := blk_q HB4.out (j := 0) (by omega) (by omega)
          have c1 := blk_q HB4.out (j := 1) (show q < n + 1 by omega) (by omega)
          have c2 := blk_q HB4.out (j := 2) (show q < n + 1 by omega) (by omega)
          have f0 := HB4.out.frozen (q * 3)
          have f1 := HB4.out.frozen (q * 3 + 1)
          have f2 := HB4.out.frozen (q * 3 + 2)
          obtain ⟨s, hs⟩ : ∃ s, sgl (zat zs) m k (q - k) = s := ⟨_, rfl⟩
          rw [hs] at HZ4 ⊢
          have HB5 := Lib.hid (blk_put3 HB4.out q k m s)
          have E5 : Hid (Below w.heap.size w (((w4.setCell ⟨g, q * 3, none⟩ (.int .i64 k)).setCell ⟨g, q * 3 + 1, none⟩ (.int .i64 m)).setCell ⟨g, q * 3 + 2, none⟩ (.int .i64 s))) := Lib.hid (((E4.out.setCell (p := ⟨g, q * 3, none⟩) hsz _).setCell (p := ⟨g, q * 3 + 1, none⟩) hsz _).setCell (p := ⟨g, q * 3 + 2, none⟩) hsz _)
          have HW5 : Hid (RwS (((w4.setCell ⟨g, q * 3, none⟩ (.int .i64 k)).setCell ⟨g, q * 3 + 1, none⟩ (.int .i64 m)).setCell ⟨g, q * 3 + 2, none⟩ (.int .i64 s)) w.heap.size n u3 k G Af) := Lib.hid (((HW4.out.far (p := ⟨g, q * 3, none⟩) (fun r hr => Ne.symm (own_ne HW4.out.row HB4.out (by decide) r hr)) HG.out _).far (p := ⟨g, q * 3 + 1, none⟩) (fun r hr => Ne.symm (own_ne HW4.out.row HB4.out (by decide) r hr)) HG.out _).far (p := ⟨g, q * 3 + 2, none⟩) (fun r hr => Ne.symm (own_ne HW4.out.row HB4.out (by decide) r hr)) HG.out _)
          clear hb hm hs HB4 HW4 E4 HB HW EE HZ KS1
          go_wp2_with fail
          go_roundg (n + 1 - (q + 1))
          case measure => omega
          case rel => exact ⟨q + 1, _, by omega, by omega, rfl, by go_num, HB5, HZ4, HW5, E5⟩
        · obtain rfl : q = n + 1 := by omega
          have hown := HW.out.row.alloc (.cells #[.slice (some ⟨g, 0, none⟩) (n + 1) (n + 1)] 41)
          have hsz3 := EE.out.size
          go_wp2_with (at_builtin; refine wpList_append_own _ rfl _ _ 39 rfl w.heap.size 41 i1 (.slice none 0 0) 1 24 Try.underlying39 gi gz0 gz1 gz2 rfl (by decide) _ _ _ rfl hown ⟨_, 0, none⟩ 1 1 [.slice (some ⟨g, 0, none⟩) (n + 1) (n + 1)] rfl rfl one_newR (by intro u hu; simp at hu; subst hu; rfl) (by unfold maxLen; omega) (by omega) (by simp; omega) ?_; intro v' w4 hown' hgrow _)
          have HB2 := Lib.hid (HB.out.alloc (.cells #[.slice (some ⟨g, 0, none⟩) (n + 1) (n + 1)] 41))
          have HW2 := Lib.hid (HW.out.alloc (.cells #[.slice (some ⟨g, 0, none⟩) (n + 1) (n + 1)] 41))
          have E2 := Lib.hid (EE.out.alloc EE.out.size (.cells #[.slice (some ⟨g, 0, none⟩) (n + 1) (n + 1)] 41))
          have HW3 := Lib.hid (HW2.out.push HB2.out hown' hgrow)
          have E3 := Lib.hid (E2.out.grown hgrow (by simp; omega) (fun r hr => (HW.out.row.lt r hr).1))
          have HS3 : Hid (∀ b, b < k + 1 → SgR zs b (n + 1) ((fun i => if i = k then z else Af i) b)) := Lib.hid (fun b hb => by
            show SgR zs b (n + 1) (if b = k then z else Af b)
            by_cases e : b = k
            · subst e; rw [if_pos rfl]; exact HZ.out
            · rw [if_neg e]; exact HS.out b (by omega))
          clear hown hown' hgrow HB2 HW2 E2 HB HW EE HZ
          go_wp2_with fail
          go_roundg (n - (k + 1))
          case measure => omega
          case rel => exact ⟨k + 1, _, _, by omega, rfl, by go_num, HW3, HS3, E3⟩
    · obtain rfl : k = n := by omega
      go_wp2_with fail
      rw [← HRR.out]
      exact ⟨_, G, Af, rfl, HW.out, ⟨(HS.out 0 h1).1, fun b e hb he => (HS.out b (by omega)).2 e hb (by omega)⟩, EE.out⟩
end Go.Proofs.Ytloplambpfjioaa
