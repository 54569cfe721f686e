/- Columns: the document's Text. -/
import Derived.Test.YtkonghjmipclmaaDoorRows
import Derived.Test.YtkonghjmipclmaaDoorRowKit
import Derived.Test.YtkonghjmipclmaaDoorShelf
import Derived.Test.YtkonghjmipclmaaDoorBlocks
import Derived.Test.YtkonghjmipclmaaDoorSlicesEq
import Derived.Test.YtkonghjmipclmaaDoorRowT
import Derived.Test.YtkonghjmipclmaaDoorDigE
import Derived.Test.YtkonghjmipclmaaDoorBuA
import Derived.Test.YtkonghjmipclmaaDoorColM
import Derived.Test.YtkonghjmipclmaaDoorColW
import Derived.Test.YtkonghjmipclmaaDoorColT
import Derived.Test.YtkonghjmipclmaaDoorColE
import Derived.Test.YtkonghjmipclmaaDoorColK
import Derived.WalkArith
import Derived.WalkKit
import Derived.IntWalk
import Derived.Lib.Hide
import Derived.WalkSpells
import Derived.WalkLawsBesides
import Derived.Laws.IdiomStrings
import Derived.Laws.OwnMore
import Derived.OwnWalk
import Derived.Deep.QuietTactic
import Derived.BigQuiet
import Derived.BigRegion
import Derived.Deep.LoopGhost
namespace Go.Proofs.YtkonghjmipclmaaDoor
open Go.RowKit Go.Sort
set_option linter.unusedSimpArgs false
set_option linter.unusedVariables false
set_option maxRecDepth 100000 in
set_option maxHeartbeats 20000000 in
theorem dctext_any (Ro : Option Addr) (cr N : Nat) (A : Nat → Option Addr) (n c : Nat → Nat) (tb : Nat → Nat → ByteArray) (w : World) (hr : RdTT w Ro N A n c tb) (hN : N ≤ 30) (hf : FineT n tb N) :
    Calls Tryd.prog 11 #[.slice Ro N cr] w fun e w' => e = .returned (.string (bL (txC (zat (rowL (wdCols n tb N).2 (wdCols n tb N).1)) (wdCols n tb N).1 n tb N))) ∧ Below w.heap.size w w' := by
  have HR := Lib.hid hr; have HF := Lib.hid hf
  have hwb := wdCols_b (n := n) (tb := tb) (M := 60) N (fun i hi j hj => by have := (hf i hi).2 j hj; omega)
  have hwl := wdCols_len (n := n) (tb := tb) (m := 20) N (fun i hi => (hf i hi).1)
  have KW := Lib.hid (dwidths_any Ro cr N A n c tb w hr (by omega) (fun i hi => by have := (hf i hi).1; omega) (fun i hi j hj => by have := (hf i hi).2 j hj; omega))
  obtain ⟨p, hp⟩ : ∃ p, wdCols n tb N = p := ⟨_, rfl⟩
  rw [hp] at hwb hwl KW ⊢
  obtain ⟨nw, z⟩ := p
  have hwb' : ∀ i, i < nw → 0 ≤ z i ∧ z i ≤ 60 := hwb
  have hwl' : nw ≤ 20 := hwl
  obtain ⟨ws, hws⟩ : ∃ ws, rowL z nw = ws := ⟨_, rfl⟩
  have hwn : ws.length = nw := by rw [← hws]; exact rowL_len _ _
  have hz : ∀ j, j < nw → 0 ≤ zat ws j ∧ zat ws j ≤ 60 := fun j hj => by rw [← hws, rowL_at z hj]; exact hwb' j hj
  show Calls Tryd.prog 11 #[.slice Ro N cr] w fun e w' => e = .returned (.string (bL (txC (zat (rowL z nw)) nw n tb N))) ∧ Below w.heap.size w w'
  rw [hws]
  have HTL : Hid (∀ k, k ≤ N → (txC (zat ws) nw n tb k).length ≤ 1000000) := Lib.hid (fun k hk => by
    have := txC_len (wd := zat ws) (nw := nw) (n := n) (tb := tb) (fun j hj => by have := hz j hj; omega) k (fun i hi => hf i (by omega))
    omega)
  have HLL : Hid (∀ k, k < N → (lnC (zat ws) nw (byC (tb k)) (n k)).length ≤ 33000) := Lib.hid (fun k hk => lnC_len (by have := (hf k hk).1; omega) (fun i hi => by rw [byC_len]; exact (hf k hk).2 i hi) (fun j hj => by have := hz j hj; omega))
  obtain ⟨R, hR⟩ : ∃ R : Ending → World → Prop, (fun (e : Ending) (w' : World) => e = .returned (.string (bL (txC (zat ws) nw n tb N))) ∧ Below w.heap.size w w') = R := ⟨_, rfl⟩
  have HRR := Lib.hid hR
  rw [hR]
  have HZ := Lib.hid hz; have HWS := Lib.hid hws; have HWN := Lib.hid hwn
  clear hr hf hwb hwl hwb' hp hR hz hws hwn
  go_enter Tryd.func11, Tryd.ntmps11
  go_wp2_with fail
  refine KW.out.mono ?_
  rintro e V1 ⟨v, rfl, hwid, hb1⟩
  obtain ⟨WA, cw, rfl, hWR⟩ : ∃ WA cw, v = .slice WA nw cw ∧ RdI V1 .i64 WA ws := by
    have h : V1.ownsRow w.heap.size 3 1 v nw ((rowL z nw).map (Value.int .i64)) := hwid
    rw [HWS.out] at h
    have h2 := ownR_rd (ownR_len h HWN.out) (fun i hi => by have := HZ.out i (by rw [← HWN.out]; exact hi); exact wfi this.1 (by omega))
    rw [HWN.out] at h2
    exact h2
  have H1 := Lib.hid hb1
  have hle := hb1.size
  have KL := Lib.hid (fun (V : World) (hb : Below V1.heap.size V1 V) (i : Nat) (hi : i < N) (ci : Nat) (ht : RdT w (A i) (n i) (tb i)) => dline_any (A i) WA ci cw (n i) nw (tb i) ws V HWN.out (by have := (HF.out i hi).1; omega) (by omega) (ht.kept (hb1.trans (hb.mono hle))) (hWR.kept hb) ((HF.out i hi).2) (fun j hj => by have := HZ.out j hj; omega))
  have EE := Lib.hid (Below.refl V1.heap.size V1)
  clear hwid hb1 hWR hle
  go_wp2_with fail
  go_loopg [4, 5] N (fun gh tv iv wr => ∃ (k : Nat) (t : ByteArray), k ≤ N ∧ gh = N - k ∧ tv = .string t ∧ iv = .int .i64 k ∧ Hid (t = bL (txC (zat ws) nw n tb k)) ∧ Hid (Below V1.heap.size V1 wr))
  case atStart => exact ⟨0, ByteArray.mk #[], Nat.zero_le _, rfl, rfl, rfl, Lib.hid rfl, EE⟩
  case round =>
    clear EE
    obtain ⟨k, t, hk, rfl, rfl, rfl, HT, EE⟩ := hrel
    rename World => V
    by_cases hkn : k < N
    · have hki : (k : Int) < (N : Int) := by omega
      obtain ⟨b, o, rfl, hb, c00, hl, ht⟩ := HR.out k hkn
      have c0 := ((H1.out.trans (EE.out.mono H1.out.size)).cell (p := ⟨b, o + k, none⟩) hb).trans c00
      have KK := Lib.hid (KL.out V EE.out k hkn (c k) ht)
      have HL1 := HTL.out k hk
      have HL2 := HLL.out k hkn
      have HNX : Hid (txC (zat ws) nw n tb (k + 1) = txC (zat ws) nw n tb k ++ lnC (zat ws) nw (byC (tb k)) (n k) ++ [10]) := Lib.hid rfl
      obtain ⟨T, hT⟩ : ∃ T, txC (zat ws) nw n tb k = T := ⟨_, rfl⟩
      obtain ⟨S, hS⟩ : ∃ S, lnC (zat ws) nw (byC (tb k)) (n k) = S := ⟨_, rfl⟩
      rw [hT] at HL1 HNX HT
      rw [hS] at KK HL2 HNX
      obtain ⟨m, hm⟩ : ∃ m, n k = m := ⟨_, rfl⟩
      obtain ⟨ck, hck⟩ : ∃ ck, c k = ck := ⟨_, rfl⟩
      obtain ⟨Ak, hA⟩ : ∃ Ak, A k = Ak := ⟨_, rfl⟩
      rw [hm, hck, hA] at c0 KK
      rw [hm] at hl
      obtain ⟨bS, hbS⟩ : ∃ bS, bL S = bS := ⟨_, rfl⟩
      have hts : t.size ≤ 1000000 := by rw [HT.out, bL_size]; exact HL1
      have hss : bS.size ≤ 33000 := by rw [← hbS, bL_size]; exact HL2
      have HN : Hid (t ++ (bS ++ ByteArray.mk #[10]) = bL (txC (zat ws) nw n tb (k + 1))) := Lib.hid (by
        rw [HNX.out, HT.out, ← hbS]
        unfold bL
        apply ByteArray.ext; apply Array.ext'; simp)
      have e1 : (ByteArray.mk #[10]).size = 1 := rfl
      have y1 : ¬ 9223372036854775807 < bS.size + 1 := by omega
      have y2 : ¬ 9223372036854775807 < t.size + (bS.size + 1) := by omega
      rw [hbS] at KK
      clear hT hS hm hck hA hbS ht hb c00 HL1 HL2
      go_wp2_with fail
      refine KK.out.mono ?_
      rintro e V2 ⟨rfl, hb2⟩
      have E2 := Lib.hid (EE.out.trans (hb2.mono EE.out.size))
      clear hb2
      go_wp2_with fail
      go_roundg (N - (k + 1))
      case measure => omega
      case rel => exact ⟨k + 1, _, by omega, rfl, rfl, by go_num, HN, E2⟩
    · obtain rfl : k = N := by omega
      have HF2 := Lib.hid (congrArg (fun z => Ending.returned (Value.string z)) HT.out)
      have E2 := Lib.hid (H1.out.trans (EE.out.mono H1.out.size))
      go_wp2_with fail
      rw [← HRR.out]
      exact ⟨HF2.out, E2.out⟩
end Go.Proofs.YtkonghjmipclmaaDoor
