/- slices.DeleteFunc at any row of spans; the sort of spans. -/
import Derived.Test.YtiinlidilkdfbaaSpanQ
import Derived.WalkKit
import Derived.IntWalk
import Derived.Lib.Hide
import Derived.WalkSpells
import Derived.WalkLawsBesides
import Derived.Laws.CopyOwn
import Derived.Laws.MakeOwn
import Derived.Laws.OwnMore
import Derived.Laws.AppendOwnNone
import Derived.OwnWalk
import Derived.BigRegion
import Derived.Deep.LoopGhost
import Derived.Deep.RegionHeld3
import Derived.Deep.QuietTactic
import Derived.BigQuiet
namespace Go.Proofs.Ytiinlidilkdfbaa
open Go.RowKit
set_option linter.unusedVariables false
set_option linter.unusedSimpArgs false
theorem m1_any (x y : Int × Int) (W : World) : Calls Try.prog 28 #[.agg #[.int .i64 x.1, .int .i64 x.2], .agg #[.int .i64 y.1, .int .i64 y.2]] W fun e w' => e = .returned (.int .i64 (Lib.compareInt x.1 y.1)) ∧ ∃ q os', w' = Sort.grow (W.drewN q) os' := by
  have hcon := fun W' => Try.cmp_Compare_int x.1 y.1 W'
  generalize Lib.compareInt x.1 y.1 = r at hcon ⊢
  go_enter Try.func28, Try.ntmps28
  go_wp2_with fail
  refine (hcon _).mono ?_
  rintro e w1 ⟨rfl, rfl⟩
  go_wp2_with fail
  go_ret
  exact ⟨rfl, 0, _, by rw [Sort.alloc_eq_grow, Sort.alloc_eq_grow, Sort.grow_grow]; rfl⟩
theorem below_setCells {B g : Nat} {w0 : World} (hg : B ≤ g) : ∀ (vs : List Value) (o : Nat) (w : World), Below B w0 w → Below B w0 (w.setCells g o vs)
  | [], _, _, h => h
  | v :: r, o, w, h => below_setCells hg r (o + 1) _ (h.setCell (p := ⟨g, o, none⟩) hg v)
def nemS (p : Int × Int) : Bool := !emS p
theorem nfilter {L : List (Int × Int)} {k : Nat} (hk : k < L.length) : (L.take (k + 1)).filter nemS = if emS (zS L k 0, zS L k 1) then (L.take k).filter nemS else (L.take k).filter nemS ++ [(zS L k 0, zS L k 1)] := by
  have e : L[k] = (zS L k 0, zS L k 1) := by
    unfold zS
    rw [List.getD_eq_getElem?_getD, List.getElem?_eq_getElem hk]; rfl
  rw [List.take_succ_eq_append_getElem hk, List.filter_append, e]
  cases h : emS (zS L k 0, zS L k 1) <;> simp [nemS, h]
/-- r spans are kept, k are looked at -/
def DelI (L M : List (Int × Int)) (g r k : Nat) (w wr : World) : Prop := M.length = L.length ∧ M.take r = (L.take k).filter nemS ∧ M.drop k = L.drop k ∧ OwS wr g M ∧ Below g w wr
theorem del_at {L M : List (Int × Int)} {k j : Nat} (h : M.drop k = L.drop k) : zS M k j = zS L k j := by
  have e : M[k]? = L[k]? := by
    have := congrArg (fun l => l[0]?) h
    simpa [List.getElem?_drop] using this
  unfold zS
  rw [List.getD_eq_getElem?_getD, List.getD_eq_getElem?_getD, e]
theorem del_keep {L M : List (Int × Int)} {g r k : Nat} {w wr w' : World} (h : DelI L M g r k w wr) (hr : r < k) (hk : k < L.length) (he : emS (zS L k 0, zS L k 1) = false) (p q : Int) (hp : zS L k 0 = p) (hq : zS L k 1 = q) (hO : OwS w' g (M.set r (p, q))) (hb : Below g w w') : DelI L (M.set r (p, q)) g (r + 1) (k + 1) w w' := by
  obtain ⟨h1, h2, h3, h4, h5⟩ := h
  refine ⟨by rw [List.length_set]; exact h1, ?_, ?_, hO, hb⟩
  · rw [nfilter hk, he, ← h2, hp, hq]
    have hlt : r < (M.set r (p, q)).length := by rw [List.length_set]; omega
    rw [List.take_succ_eq_append_getElem hlt, List.getElem_set_self, List.take_set_of_le (by omega)]
    rfl
  · rw [List.drop_set_of_lt (by omega)]
    have := congrArg (List.drop 1) h3
    simpa [List.drop_drop, Nat.add_comm] using this
theorem del_skip {L M : List (Int × Int)} {g r k : Nat} {w wr w' : World} (h : DelI L M g r k w wr) (hk : k < L.length) (he : emS (zS L k 0, zS L k 1) = true) (hO : OwS w' g M) (hb : Below g w w') : DelI L M g r (k + 1) w w' := by
  obtain ⟨h1, h2, h3, h4, h5⟩ := h
  refine ⟨h1, by rw [nfilter hk, he]; exact h2, ?_, hO, hb⟩
  have := congrArg (List.drop 1) h3
  simpa [List.drop_drop, Nat.add_comm] using this
def DelR (L : List (Int × Int)) (g c : Nat) (w : World) (e : Ending) (w' : World) : Prop := e = .returned (.slice (some ⟨g, 0, none⟩) (L.filter nemS).length c) ∧ OwS w' g (L.filter nemS) ∧ Below g w w'
set_option maxRecDepth 100000 in
set_option maxHeartbeats 8000000 in
theorem del_any (g c : Nat) (L : List (Int × Int)) (w : World) (h : OwS w g L) (hl : L.length ≤ 1000) (hc : L.length ≤ c) (hcm : c ≤ maxLen) :
    Calls Try.prog 24 #[.slice (some ⟨g, 0, none⟩) L.length c, .func (.func 26) #[] #[]] w (DelR L g c w) := by
  have KI := Lib.hid (idx_any g c L w h hl)
  obtain ⟨n, hL⟩ : ∃ n, L.length = n := ⟨_, rfl⟩
  have HL := Lib.hid hL
  rw [hL] at hl hc KI ⊢
  obtain ⟨R, hR⟩ : ∃ R : Ending → World → Prop, DelR L g c w = R := ⟨_, rfl⟩
  have HR := Lib.hid hR
  rw [hR]
  have HO := Lib.hid h
  have hM : maxLen ≤ 9223372036854775807 := by decide
  clear h hL hR
  go_enter Try.func24, Try.ntmps24
  go_wp2_with fail
  refine KI.out.mono ?_
  rintro e w1 ⟨⟨x, rfl, ⟨rfl, hx⟩ | ⟨r0, rfl, hr0, he0, ha0⟩⟩, hb⟩
  · have hf : L.filter nemS = L := by
      rw [List.filter_eq_self]
      intro p hp
      simp [nemS, hx p hp]
    have HF := Lib.hid hf
    have HO1 := Lib.hid (HO.out.on hb)
    have HB1 : Hid (Below g w w1) := Lib.hid (hb.mono (by have := HO.out.1; omega))
    clear hf hb hx
    go_wp2_with fail
    rw [← HR.out]
    exact ⟨by rw [HF.out, HL.out]; rfl, by rw [HF.out]; exact HO1.out, HB1.out⟩
  · rw [HL.out] at hr0
    have HI : Hid (DelI L L g r0 (r0 + 1) w w1) := Lib.hid ⟨rfl, by
      rw [nfilter (by rw [HL.out]; exact hr0), he0, if_pos rfl]
      symm
      rw [List.filter_eq_self]
      intro p hp
      simp [nemS, ha0 p hp], rfl, HO.out.on hb, hb.mono (by have := HO.out.1; omega)⟩
    have hne : ((r0 : Int) == -1) = false := by simp
    have hw1 : IntKind.i64.wrap ((r0 : Int) + 1) = (r0 : Int) + 1 := IntWalk.i64_in _ (by omega)
    clear hb he0 ha0
    go_wp2_with fail
    go_loopw [5, 6] (fun i j wr => ∃ r k : Nat, i = .int .i64 r ∧ j = .int .i64 k ∧ r < k ∧ k ≤ n ∧ ∃ M, Hid (DelI L M g r k w wr)) (fun _ j _ => n - (intOf j).toNat)
    case atStart => exact ⟨r0, r0 + 1, rfl, by go_num, by omega, by omega, L, HI⟩
    case round =>
      obtain ⟨r, k, rfl, rfl, hrk, hk, M, HD⟩ := hrel
      have hMl : M.length = n := by rw [HD.out.1]; exact HL.out
      by_cases hkn : k < n
      · have k0 := (HD.out.2.2.2.1.2 k 0 (by rw [hMl]; exact hkn) (by omega)).1
        have k0 : wr.cell? ⟨g, k * 2, none⟩ = _ := k0
        have k1 := (HD.out.2.2.2.1.2 k 1 (by rw [hMl]; exact hkn) (by omega)).1
        rw [del_at HD.out.2.2.1] at k0 k1
        obtain ⟨p, hp⟩ : ∃ p, zS L k 0 = p := ⟨_, rfl⟩
        obtain ⟨q, hq⟩ : ∃ q, zS L k 1 = q := ⟨_, rfl⟩
        have HP := Lib.hid hp; have HQ := Lib.hid hq
        rw [hp] at k0
        rw [hq] at k1
        have hgw : g ≤ wr.heap.size := Nat.le_of_lt HD.out.2.2.2.1.1
        clear hp hq
        go_wp2_with fail
        refine (fempty_any p q _).mono ?_
        rintro e w2 ⟨rfl, hb⟩
        have hbw : Below wr.heap.size wr w2 := ((Below.refl wr.heap.size wr).alloc (Nat.le_refl _) _).trans (hb.mono (by simp))
        have HO2 : Hid (OwS w2 g M) := Lib.hid (HD.out.2.2.2.1.on hbw)
        have HB2 : Hid (Below g w w2) := Lib.hid (HD.out.2.2.2.2.trans (hbw.mono hgw))
        have b0 : w2.cell? ⟨wr.heap.size, 0, none⟩ = some (.int .i64 p) := cell_on hb ((Blk.new wr #[.int .i64 p, .int .i64 q] 26).cell 0)
        have b1 : w2.cell? ⟨wr.heap.size, 1, none⟩ = some (.int .i64 q) := cell_on hb ((Blk.new wr #[.int .i64 p, .int .i64 q] 26).cell 1)
        have s0 : w2.cell? ⟨g, r * 2, none⟩ = _ := (HO2.out.2 r 0 (by omega) (by omega)).1
        have s1 := (HO2.out.2 r 1 (by omega) (by omega)).1
        have f0 : w2.frozen? ⟨g, r * 2, none⟩ = _ := (HO2.out.2 r 0 (by omega) (by omega)).2
        have f1 := (HO2.out.2 r 1 (by omega) (by omega)).2
        have hw1 : IntKind.i64.wrap ((r : Int) + 1) = (r : Int) + 1 := IntWalk.i64_in _ (by omega)
        have hw2 : IntKind.i64.wrap ((k : Int) + 1) = (k : Int) + 1 := IntWalk.i64_in _ (by omega)
        clear k0 k1 hb hbw
        by_cases he : q ≤ p
        · have hd : decide (q ≤ p) = true := by simpa using he
          rw [hd]
          clear b0 b1 s0 s1 f0 f1
          go_wp2_with fail
          go_roundw
          case rel => exact ⟨r, k + 1, rfl, by go_num, by omega, by omega, M, Lib.hid (del_skip HD.out (by rw [HL.out]; exact hkn) (by rw [HP.out, HQ.out]; exact hd) HO2.out HB2.out)⟩
          case measure => simp [intOf]; omega
        · have hd : decide (q ≤ p) = false := by simpa using he
          rw [hd]
          go_wp2_with fail
          go_roundw
          case rel => exact ⟨r + 1, k + 1, by go_num, by go_num, by omega, by omega, M.set r (p, q), Lib.hid (del_keep HD.out hrk (by rw [HL.out]; exact hkn) (by rw [HP.out, HQ.out]; exact hd) p q HP.out HQ.out (HO2.out.set r (by omega) p q) ((HB2.out.setCell (p := ⟨g, r * 2, none⟩) (Nat.le_refl _) _).setCell (p := ⟨g, r * 2 + 1, none⟩) (Nat.le_refl _) _))⟩
          case measure => simp [intOf]; omega
      · obtain rfl : k = n := by omega
        have hcl := fun ty => clear_any wr g r (k - r) (c - r) ty (fun j hj => by
          have := (HD.out.2.2.2.1.2 (r + j / 2) (j % 2) (by omega) (by omega)).1
          rw [show (r + j / 2) * 2 + j % 2 = r * 2 + j by omega] at this
          rw [this]; rfl) (fun j hj => by
          have := (HD.out.2.2.2.1.2 (r + j / 2) (j % 2) (by omega) (by omega)).2
          rwa [show (r + j / 2) * 2 + j % 2 = r * 2 + j by omega] at this)
        have hrc : (r : Int) < (c : Int) := by omega
        have hrc' : r < c := by omega
        have hrk' : (r : Int) ≤ (k : Int) := by omega
        have HMl := Lib.hid hMl
        clear hMl
        go_wp2_with fail
        rw [← HR.out]
        have hfr : M.take r = L.filter nemS := by rw [HD.out.2.1, List.take_of_length_le (by rw [HL.out]; exact Nat.le_refl _)]
        have hlen : (L.filter nemS).length = r := by rw [← hfr, List.length_take, HMl.out]; omega
        exact ⟨by rw [hlen]; rfl, by rw [← hfr]; exact HD.out.2.2.2.1.cut r _, below_setCells (Nat.le_refl _) _ _ _ HD.out.2.2.2.2⟩
end Go.Proofs.Ytiinlidilkdfbaa
