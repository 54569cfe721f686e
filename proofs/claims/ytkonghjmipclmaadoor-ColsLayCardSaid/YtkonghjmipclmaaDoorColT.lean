/- Columns: cols.Text. -/
import Derived.Test.YtkonghjmipclmaaDoorRows
import Derived.Test.YtkonghjmipclmaaDoorRowKit
import Derived.Test.YtkonghjmipclmaaDoorShelf
import Derived.Test.YtkonghjmipclmaaDoorBlocks
import Derived.Test.YtkonghjmipclmaaDoorSlicesEq
import Derived.Test.YtkonghjmipclmaaDoorRowT
import Derived.Test.YtkonghjmipclmaaDoorDigE
import Derived.Test.YtkonghjmipclmaaDoorBuA
import Derived.Test.YtkonghjmipclmaaDoorColM
import Derived.Test.YtkonghjmipclmaaDoorColW
import Derived.WalkArith
import Derived.WalkKit
import Derived.IntWalk
import Derived.Lib.Hide
import Derived.WalkSpells
import Derived.WalkLawsBesides
import Derived.Laws.IdiomStrings
import Derived.Laws.OwnMore
import Derived.OwnWalk
import Derived.Deep.QuietTactic
import Derived.BigQuiet
import Derived.BigRegion
import Derived.Deep.LoopGhost
namespace Go.Proofs.YtkonghjmipclmaaDoor
open Go.RowKit Go.Sort
set_option linter.unusedSimpArgs false
set_option linter.unusedVariables false
theorem wfi {x : Int} (h0 : 0 ≤ x) (h1 : x ≤ 1000) : (Lit.int .i64 x).wf = true := Go.WalkArith.wf_i64 (by omega)
/-- the lines, each with a byte 10 -/
def txC (wd : Nat → Int) (nw : Nat) (n : Nat → Nat) (tb : Nat → Nat → ByteArray) : Nat → List UInt8
  | 0 => []
  | i + 1 => txC wd nw n tb i ++ lnC wd nw (byC (tb i)) (n i) ++ [10]
theorem lnC_len {wd : Nat → Int} {nw : Nat} {t : Nat → List UInt8} {n : Nat} (hn : n ≤ 30) (h : ∀ i, i < n → (t i).length ≤ 60) (hw : ∀ j, j < nw → wd j ≤ 1000) : (lnC wd nw t n).length ≤ 33000 := by
  have h1 := fuC_len (wd := wd) (nw := nw) (t := t) n (fun i hi => ⟨h i hi, by
    unfold lkC
    split
    · rename_i q; have := hw i q; omega
    · omega⟩)
  have h2 := tr_len (fuC wd nw t n) 32
  unfold lnC
  omega
theorem txC_len {wd : Nat → Int} {nw : Nat} {n : Nat → Nat} {tb : Nat → Nat → ByteArray} (hw : ∀ j, j < nw → wd j ≤ 1000) : ∀ k, (∀ i, i < k → n i ≤ 20 ∧ ∀ j, j < n i → (tb i j).size ≤ 60) → (txC wd nw n tb k).length ≤ k * 33001
  | 0, _ => by simp [txC]
  | k + 1, h => by
    have ih := txC_len (n := n) (tb := tb) hw k (fun i hi => h i (by omega))
    have h1 := lnC_len (wd := wd) (nw := nw) (t := byC (tb k)) (n := n k) (by have := (h k (by omega)).1; omega) (fun i hi => by rw [byC_len]; exact (h k (by omega)).2 i hi) hw
    show (txC wd nw n tb k ++ lnC wd nw (byC (tb k)) (n k) ++ [10]).length ≤ _
    simp only [List.length_append, List.length_singleton]
    omega
def nlB : ByteArray := ByteArray.mk #[10]
set_option maxRecDepth 100000 in
set_option maxHeartbeats 20000000 in
theorem ctext_any (Ro : Option Addr) (cr N : Nat) (A : Nat → Option Addr) (n c : Nat → Nat) (tb : Nat → Nat → ByteArray) (w : World) (hr : RdTT w Ro N A n c tb) (hN : N ≤ 30) (hf : FineT n tb N) :
    Calls Tryd.prog 10 #[.slice Ro N cr] w fun e w' => e = .returned (.string (bL (txC (zat (rowL (wdCols n tb N).2 (wdCols n tb N).1)) (wdCols n tb N).1 n tb N))) ∧ Below w.heap.size w w' := by
  have HR := Lib.hid hr; have HF := Lib.hid hf
  have hwb := wdCols_b (n := n) (tb := tb) (M := 60) N (fun i hi j hj => by have := (hf i hi).2 j hj; omega)
  have hwl := wdCols_len (n := n) (tb := tb) (m := 20) N (fun i hi => (hf i hi).1)
  have KW := Lib.hid (widths_any Ro cr N A n c tb w hr (by omega) (fun i hi => by have := (hf i hi).1; omega) (fun i hi j hj => by have := (hf i hi).2 j hj; omega))
  obtain ⟨p, hp⟩ : ∃ p, wdCols n tb N = p := ⟨_, rfl⟩
  rw [hp] at hwb hwl KW ⊢
  obtain ⟨nw, z⟩ := p
  have hwb' : ∀ i, i < nw → 0 ≤ z i ∧ z i ≤ 60 := hwb
  have hwl' : nw ≤ 20 := hwl
  obtain ⟨ws, hws⟩ : ∃ ws, rowL z nw = ws := ⟨_, rfl⟩
  have hwn : ws.length = nw := by rw [← hws]; exact rowL_len _ _
  have hz : ∀ j, j < nw → 0 ≤ zat ws j ∧ zat ws j ≤ 60 := fun j hj => by rw [← hws, rowL_at z hj]; exact hwb' j hj
  show Calls Tryd.prog 10 #[.slice Ro N cr] w fun e w' => e = .returned (.string (bL (txC (zat (rowL z nw)) nw n tb N))) ∧ Below w.heap.size w w'
  rw [hws]
  have HTL : Hid (∀ k, k ≤ N → (txC (zat ws) nw n tb k).length ≤ 1000000) := Lib.hid (fun k hk => by
    have := txC_len (wd := zat ws) (nw := nw) (n := n) (tb := tb) (fun j hj => by have := hz j hj; omega) k (fun i hi => hf i (by omega))
    omega)
  have HLL : Hid (∀ k, k < N → (lnC (zat ws) nw (byC (tb k)) (n k)).length ≤ 33000) := Lib.hid (fun k hk => lnC_len (by have := (hf k hk).1; omega) (fun i hi => by rw [byC_len]; exact (hf k hk).2 i hi) (fun j hj => by have := hz j hj; omega))
  obtain ⟨R, hR⟩ : ∃ R : Ending → World → Prop, (fun (e : Ending) (w' : World) => e = .returned (.string (bL (txC (zat ws) nw n tb N))) ∧ Below w.heap.size w w') = R := ⟨_, rfl⟩
  have HRR := Lib.hid hR
  rw [hR]
  have HZ := Lib.hid hz; have HWS := Lib.hid hws; have HWN := Lib.hid hwn
  clear hr hf hwb hwl hwb' hp hR hz hws hwn
  go_enter Tryd.func10, Tryd.ntmps10
  go_wp2_with fail
  refine KW.out.mono ?_
  rintro e V1 ⟨v, rfl, hwid, hb1⟩
  obtain ⟨WA, cw, rfl, hWR⟩ : ∃ WA cw, v = .slice WA nw cw ∧ RdI V1 .i64 WA ws := by
    have h : V1.ownsRow w.heap.size 3 1 v nw ((rowL z nw).map (Value.int .i64)) := hwid
    rw [HWS.out] at h
    have h2 := ownR_rd (ownR_len h HWN.out) (fun i hi => by have := HZ.out i (by rw [← HWN.out]; exact hi); exact wfi this.1 (by omega))
    rw [HWN.out] at h2
    exact h2
  have H1 := Lib.hid hb1
  have hle := hb1.size
  have KL := Lib.hid (fun (V : World) (hb : Below V1.heap.size V1 V) (i : Nat) (hi : i < N) (ci : Nat) (ht : RdT w (A i) (n i) (tb i)) => line_any (A i) WA ci cw (n i) nw (tb i) ws V HWN.out (by have := (HF.out i hi).1; omega) (by omega) (ht.kept (hb1.trans (hb.mono hle))) (hWR.kept hb) ((HF.out i hi).2) (fun j hj => by have := HZ.out j hj; omega))
  have HU := Lib.hid (Bu.new V1 (B := V1.heap.size) (Nat.le_refl _))
  have EE := Lib.hid ((Below.refl V1.heap.size V1).alloc (Nat.le_refl _) (.cells #[.pointer none, .slice none 0 0] 44))
  clear hwid hb1 hWR hle
  go_wp2_with fail
  go_loopg [11] N (fun gh iv wr => ∃ k : Nat, k ≤ N ∧ gh = N - k ∧ iv = .int .i64 k ∧ Hid (Bu wr V1.heap.size V1.heap.size (txC (zat ws) nw n tb k)) ∧ Hid (Below V1.heap.size V1 wr))
  case atStart => exact ⟨0, Nat.zero_le _, rfl, rfl, HU, EE⟩
  case round =>
    clear HU EE
    obtain ⟨k, hk, rfl, rfl, HU, EE⟩ := hrel
    rename World => V
    by_cases hkn : k < N
    · have hki : (k : Int) < (N : Int) := by omega
      obtain ⟨b, o, rfl, hb, c00, hl, ht⟩ := HR.out k hkn
      have c0 := ((H1.out.trans (EE.out.mono H1.out.size)).cell (p := ⟨b, o + k, none⟩) hb).trans c00
      have KK := Lib.hid (KL.out V EE.out k hkn (c k) ht)
      have HL1 := Lib.hid (HTL.out k hk); have HL2 := Lib.hid (HLL.out k hkn)
      have HNX : Hid (txC (zat ws) nw n tb (k + 1) = txC (zat ws) nw n tb k ++ lnC (zat ws) nw (byC (tb k)) (n k) ++ [10]) := Lib.hid rfl
      obtain ⟨T, hT⟩ : ∃ T, txC (zat ws) nw n tb k = T := ⟨_, rfl⟩
      obtain ⟨S, hS⟩ : ∃ S, lnC (zat ws) nw (byC (tb k)) (n k) = S := ⟨_, rfl⟩
      rw [hT] at HU HL1 HNX
      rw [hS] at KK HL2 HNX
      obtain ⟨m, hm⟩ : ∃ m, n k = m := ⟨_, rfl⟩
      obtain ⟨ck, hck⟩ : ∃ ck, c k = ck := ⟨_, rfl⟩
      obtain ⟨Ak, hA⟩ : ∃ Ak, A k = Ak := ⟨_, rfl⟩
      rw [hm, hck, hA] at c0 KK
      rw [hm] at hl
      obtain ⟨bS, hbS⟩ : ∃ bS, bL S = bS := ⟨_, rfl⟩
      have HBD : Hid (bS.data.toList = S) := Lib.hid (by rw [← hbS]; unfold bL; simp)
      have HBS : Hid (bS.size = S.length) := Lib.hid (by rw [← hbS]; exact bL_size S)
      rw [hbS] at KK
      clear hT hS hm hck hA hbS ht hb c00
      go_wp2_with fail
      refine KK.out.mono ?_
      rintro e V2 ⟨rfl, hb2⟩
      have HU2 := Lib.hid (HU.out.next hb2)
      have E2 := Lib.hid (EE.out.trans (hb2.mono EE.out.size))
      have K1 := Lib.hid (ws_any V1.heap.size V1.heap.size T bS V2 HU2.out (by have := HL1.out; have := HL2.out; have := HBS.out; omega) E2.out.size)
      clear hb2
      go_wp2_with fail
      refine K1.out.mono ?_
      rintro e V3 ⟨rfl, hu, hb3⟩
      rw [HBD.out] at hu
      have HU3 := Lib.hid hu
      have E3 := Lib.hid (E2.out.trans hb3)
      have K2 := Lib.hid (ws_any V1.heap.size V1.heap.size (T ++ S) (ByteArray.mk #[10]) V3 HU3.out (by rw [List.length_append]; have e : (ByteArray.mk #[10]).size = 1 := rfl; rw [e]; have := HL1.out; have := HL2.out; omega) E3.out.size)
      clear hu hb3 HU2 K1
      go_wp2_with fail
      refine K2.out.mono ?_
      rintro e V4 ⟨rfl, hu, hb4⟩
      have HU4 : Hid (Bu V4 V1.heap.size V1.heap.size (txC (zat ws) nw n tb (k + 1))) := Lib.hid (by rw [HNX.out]; exact hu)
      have E4 := Lib.hid (E3.out.trans hb4)
      clear hu hb4 HU3 K2
      go_wp2_with fail
      go_roundg (N - (k + 1))
      case measure => omega
      case rel => exact ⟨k + 1, by omega, rfl, by go_num, HU4, E4⟩
    · obtain rfl : k = N := by omega
      have KS := Lib.hid (str_any V1.heap.size V1.heap.size (txC (zat ws) nw n tb k) V HU.out EE.out.size)
      clear HU
      go_wp2_with fail
      refine KS.out.mono ?_
      rintro e V2 ⟨rfl, hb⟩
      have E2 := Lib.hid (H1.out.trans ((EE.out.trans hb).mono H1.out.size))
      clear hb
      go_wp2_with fail
      rw [← HRR.out]
      exact ⟨rfl, E2.out⟩
end Go.Proofs.YtkonghjmipclmaaDoor
