/- Contracts of windows.count and of its window. -/
import Derived.Test.YtffcmfpadaebdabRows
import Derived.Test.YtffcmfpadaebdabRowKit
import Derived.Test.YtffcmfpadaebdabRowS
import Derived.Test.YtffcmfpadaebdabRowZ
import Derived.Test.YtffcmfpadaebdabSlicesEq
import Derived.Test.YtffcmfpadaebdabRowL
import Derived.Test.YtffcmfpadaebdabRowM
import Derived.Test.YtffcmfpadaebdabBlocks
import Derived.Test.YtffcmfpadaebdabWinMath
import Derived.WalkKit
import Derived.IntWalk
import Derived.Lib.Hide
import Derived.Lib.SmallJoins
import Derived.WalkSpells
import Derived.WalkLawsBesides
import Derived.Laws.CopyOwn
import Derived.Laws.MakeOwn
import Derived.Laws.OwnMore
import Derived.OwnWalk
import Derived.Deep.QuietTactic
import Derived.Deep.RegionHeld3
import Derived.Deep.LoopGhost
import Derived.BigQuiet
import Derived.BigRegion
namespace Go.Proofs.Ytffcmfpadaebdab
open Go.RowKit
set_option linter.unusedSimpArgs false
set_option linter.unusedVariables false
set_option maxHeartbeats 1000000 in
theorem window1 (t W H : Int) (N bH bN bW : Nat) (w : World) (hW : 1 ≤ W) (ht : t ≤ 9223372036854775807) (h1 : w.cell? ⟨bH, 0, none⟩ = some (.int .i64 H)) (h2 : w.cell? ⟨bN, 0, none⟩ = some (.int .i64 N)) (h3 : w.cell? ⟨bW, 0, none⟩ = some (.int .i64 W)) :
    Calls Try.prog 17 #[.int .i64 t, .pointer (some ⟨bH, 0, none⟩), .pointer (some ⟨bN, 0, none⟩), .pointer (some ⟨bW, 0, none⟩)] w fun e w' => e = .returned (.int .i64 (winV W H N t : Nat)) ∧ w = w' := by
  have hz : (W == 0) = false := by rw [beq_eq_false_iff_ne]; omega
  by_cases c1 : t < 0
  · have E := Lib.hid (win_out (W := W) (H := H) (N := N) (t := t) (by omega))
    go_enter Try.func17, Try.ntmps17
    go_wp2_with fail
    go_ret
    exact ⟨by rw [E.out]; rfl, rfl⟩
  · by_cases c2 : H ≤ t
    · have E := Lib.hid (win_out (W := W) (H := H) (N := N) (t := t) (by omega))
      go_enter Try.func17, Try.ntmps17
      go_wp2_with fail
      go_ret
      exact ⟨by rw [E.out]; rfl, rfl⟩
    · have E : Hid (((winV W H N t : Nat) : Int) = t / W) := Lib.hid (by
        unfold winV
        rw [if_pos (by omega)]
        have : 0 ≤ t / W := Int.ediv_nonneg (by omega) (by omega)
        omega)
      have c3 : 0 ≤ t := by omega
      have D : Hid (wrap64 (t.tdiv W) = t / W) := Lib.hid (by
        rw [Int.tdiv_eq_ediv_of_nonneg c3]
        have d0 : 0 ≤ t / W := Int.ediv_nonneg c3 (by omega)
        have d1 : t / W ≤ t := Int.ediv_le_self _ c3
        generalize t / W = x at *
        unfold wrap64
        omega)
      go_enter Try.func17, Try.ntmps17
      go_wp2_with fail
      go_ret
      exact ⟨by rw [E.out, ← D.out]; rfl, rfl⟩
/-- the row's numbers are small -/
def SmallM (M : Int) (f : Nat → Nat → Int) : Prop := ∀ i j, -M ≤ f i j ∧ f i j ≤ M
theorem putV_sm {M : Int} {f : Nat → Nat → Int} {p j : Nat} {u : Int} (h : SmallM M f) (h1 : -M ≤ u) (h2 : u ≤ M) : SmallM M (putV f p j u) := fun a b => by
  unfold putV
  split
  · exact ⟨h1, h2⟩
  · exact h a b
theorem sm_more {M K : Int} {f : Nat → Nat → Int} (h : SmallM M f) (hK : M ≤ K) : SmallM K f := fun i j => by have := h i j; omega
theorem stpV_sm {W H : Int} {N : Nat} {M a b c : Int} {f : Nat → Nat → Int} (h : SmallM M f) (h0 : 0 ≤ M) (hd : -2147483648 ≤ b - a ∧ b - a ≤ 2147483648) : SmallM (M + 4294967296) (stpV W H N a b c f) := by
  have s0 := sm_more h (show M ≤ M + 1 by omega)
  unfold stpV
  simp only
  have t1 := h (winV W H N a) 2
  have s1 := putV_sm (p := winV W H N a) (j := 2) s0 (show -(M + 1) ≤ f (winV W H N a) 2 + 1 by omega) (by omega)
  generalize putV f (winV W H N a) 2 (f (winV W H N a) 2 + 1) = f1 at *
  have t2 := s1 (winV W H N b) 3
  have s2 := putV_sm (p := winV W H N b) (j := 3) (sm_more s1 (show M + 1 ≤ M + 2 by omega)) (show -(M + 2) ≤ f1 (winV W H N b) 3 + 1 by omega) (by omega)
  generalize putV f1 (winV W H N b) 3 (f1 (winV W H N b) 3 + 1) = f2 at *
  have t3 := s2 (winV W H N b) 5
  have s3 := putV_sm (p := winV W H N b) (j := 5) (sm_more s2 (show M + 2 ≤ M + 2147483652 by omega)) (show -(M + 2147483652) ≤ f2 (winV W H N b) 5 + (b - a) by omega) (by omega)
  generalize putV f2 (winV W H N b) 5 (f2 (winV W H N b) 5 + (b - a)) = f3 at *
  have t4 := s3 (winV W H N c) 4
  have s4 := putV_sm (p := winV W H N c) (j := 4) (sm_more s3 (show M + 2147483652 ≤ M + 2147483653 by omega)) (show -(M + 2147483653) ≤ f3 (winV W H N c) 4 + 1 by omega) (by omega)
  generalize putV f3 (winV W H N c) 4 (f3 (winV W H N c) 4 + 1) = f4 at *
  split
  · have t5 := s4 (winV W H N (max 0 a)) 6
    have s5 := putV_sm (p := winV W H N (max 0 a)) (j := 6) (sm_more s4 (show M + 2147483653 ≤ M + 2147483654 by omega)) (show -(M + 2147483654) ≤ f4 (winV W H N (max 0 a)) 6 + 1 by omega) (by omega)
    generalize putV f4 (winV W H N (max 0 a)) 6 (f4 (winV W H N (max 0 a)) 6 + 1) = f5 at *
    have t6 := s5 (winV W H N b) 6
    exact putV_sm (sm_more s5 (by omega)) (by omega) (by omega)
  · exact sm_more s4 (by omega)
theorem own_drM {w : World} {base : Nat} {e : TypeId} {m : Nat} {v : Value} {n : Nat} {xs : List Value} (h : w.ownsRow base e m v n xs) : w.drew.ownsRow base e m v n xs := h
/-- one number more in a row that the call made -/
theorem own_putV {w : World} {B : Nat} {e : TypeId} {g n p j : Nat} {f : Nat → Nat → Int} {u : Int} (h : w.ownsRow B e 7 (.slice (some ⟨g, 0, none⟩) n n) n (rowM 7 f n)) (hj : j < 7) : (w.setCell ⟨g, p * 7 + j, none⟩ (.int .i64 u)).ownsRow B e 7 (.slice (some ⟨g, 0, none⟩) n n) n (rowM 7 (putV f p j u) n) := ownM_put h hj u
/-- the trip in memory, and the bounds -/
structure CT (B : Nat) (w0 X : World) (b0 N : Nat) (zs : Array Value) (W H : Int) : Prop where
  t : Blk X b0 38 zs
  cw : Blk X (b0 + 1) 3 #[.int .i64 W]
  ch : Blk X (b0 + 1 + 1) 3 #[.int .i64 H]
  cn : Blk X (b0 + 1 + 1 + 1) 3 #[.int .i64 N]
  e : Below B w0 X
theorem CT.far {B : Nat} {w0 X : World} {b0 N g o : Nat} {zs : Array Value} {W H : Int} (h : CT B w0 X b0 N zs W H) (hg : g < b0) (hB : B ≤ g) (u : Value) : CT B w0 (X.setCell ⟨g, o, none⟩ u) b0 N zs W H :=
  ⟨h.t.far (by simp; omega) u, h.cw.far (by simp; omega) u, h.ch.far (by simp; omega) u, h.cn.far (by simp; omega) u, h.e.setCell hB u⟩
theorem CT.dr {B : Nat} {w0 X : World} {b0 N : Nat} {zs : Array Value} {W H : Int} (h : CT B w0 X b0 N zs W H) : CT B w0 X.drew b0 N zs W H := ⟨h.t, h.cw, h.ch, h.cn, h.e.drew⟩
theorem stp_pos {W H : Int} {N : Nat} {a b c : Int} {f f1 f2 f3 f4 f5 f6 : Nat → Nat → Int} {pa pb pc pf : Nat} (ha : winV W H N a = pa) (hb : winV W H N b = pb) (hc : winV W H N c = pc) (hf : winV W H N (max 0 a) = pf) (hlt : pf < pb) (e1 : putV f pa 2 (f pa 2 + 1) = f1) (e2 : putV f1 pb 3 (f1 pb 3 + 1) = f2) (e3 : putV f2 pb 5 (f2 pb 5 + (b - a)) = f3) (e4 : putV f3 pc 4 (f3 pc 4 + 1) = f4) (e5 : putV f4 pf 6 (f4 pf 6 + 1) = f5) (e6 : putV f5 pb 6 (f5 pb 6 - 1) = f6) : stpV W H N a b c f = f6 := by
  subst e1 e2 e3 e4 e5 e6
  subst ha hb hc hf
  unfold stpV
  simp only
  rw [if_pos hlt]
theorem stp_neg {W H : Int} {N : Nat} {a b c : Int} {f f1 f2 f3 f4 : Nat → Nat → Int} {pa pb pc pf : Nat} (ha : winV W H N a = pa) (hb : winV W H N b = pb) (hc : winV W H N c = pc) (hf : winV W H N (max 0 a) = pf) (hlt : ¬ pf < pb) (e1 : putV f pa 2 (f pa 2 + 1) = f1) (e2 : putV f1 pb 3 (f1 pb 3 + 1) = f2) (e3 : putV f2 pb 5 (f2 pb 5 + (b - a)) = f3) (e4 : putV f3 pc 4 (f3 pc 4 + 1) = f4) : stpV W H N a b c f = f4 := by
  subst e1 e2 e3 e4
  subst ha hb hc hf
  unfold stpV
  simp only
  rw [if_neg hlt]
theorem run_max2W {P : Program} (ts : Array TypeId) (t : TypeId) (a b : Int) (W : World) :
    (Builtin.max_ ts t #[.int .i64 a, .int .i64 b]).run P W = .ok (.int .i64 (max a b)) W := by
  have e : ∀ x y : Int, (if x < y then y else x) = max x y := by intro x y; omega
  simp [Builtin.max_, Builtin.max2, e]
theorem run_min2W {P : Program} (ts : Array TypeId) (t : TypeId) (a b : Int) (W : World) :
    (Builtin.min_ ts t #[.int .i64 a, .int .i64 b]).run P W = .ok (.int .i64 (min a b)) W := by
  have e : ∀ x y : Int, (if y < x then y else x) = min x y := by intro x y; omega
  simp [Builtin.min_, Builtin.min2, e]
set_option maxRecDepth 100000 in
set_option maxHeartbeats 8000000 in
theorem count_any (B g N M : Nat) (f : Nat → Nat → Int) (z0 z1 z2 z3 z4 z5 z6 W H : Int) (w0 w : World) (hM : (M : Int) - 1 = N) (hown : w.ownsRow B 28 7 (.slice (some ⟨g, 0, none⟩) M M) M (rowM 7 (f) M)) (hb : Below B w0 w) (hW : 1 ≤ W) (hNW : H ≤ N * W) (hN : N ≤ 65536) (hf : SmallM 1099511627776 f)
    (b1 : -1 ≤ z1 ∧ z1 ≤ 1073741824) (b5 : -1 ≤ z5 ∧ z5 ≤ 1073741824) (b6 : -1 ≤ z6 ∧ z6 ≤ 1073741824) :
    Calls Try.prog 14 #[.slice (some ⟨g, 0, none⟩) M M, .agg #[.int .i64 z0, .int .i64 z1, .int .i64 z2, .int .i64 z3, .int .i64 z4, .int .i64 z5, .int .i64 z6], .int .i64 W, .int .i64 H] w fun e w' => e = .returned (.tuple #[]) ∧ w'.ownsRow B 28 7 (.slice (some ⟨g, 0, none⟩) M M) M (rowM 7 (stpV W H N z1 z5 z6 f) M) ∧ Below B w0 w' := by
  have hgl := (hown.lt g rfl).2
  have hBg := (hown.lt g rfl).1
  have la := win_le (W := W) (H := H) (N := N) (t := z1) hW hNW
  have lb := win_le (W := W) (H := H) (N := N) (t := z5) hW hNW
  have lc := win_le (W := W) (H := H) (N := N) (t := z6) hW hNW
  have lf := win_le (W := W) (H := H) (N := N) (t := max 0 z1) hW hNW
  have K := fun t (ht : t ≤ 9223372036854775807) X (h : CT B w0 X w.heap.size N #[.int .i64 z0, .int .i64 z1, .int .i64 z2, .int .i64 z3, .int .i64 z4, .int .i64 z5, .int .i64 z6] W H) => window1 t W H N (w.heap.size + 1 + 1) (w.heap.size + 1 + 1 + 1) (w.heap.size + 1) X hW ht (h.ch.cell 0) (h.cn.cell 0) (h.cw.cell 0)
  have KA := fun X h => K z1 (by omega) X h
  have KB := fun X h => K z5 (by omega) X h
  have KC := fun X h => K z6 (by omega) X h
  have KF := fun X h => K (max 0 z1) (by omega) X h
  have MX := fun ts t X => run_max2W (P := Try.prog) ts t 0 z1 X
  obtain ⟨pa, ha⟩ : ∃ p, winV W H N z1 = p := ⟨_, rfl⟩
  obtain ⟨pb, hb'⟩ : ∃ p, winV W H N z5 = p := ⟨_, rfl⟩
  obtain ⟨pc, hc⟩ : ∃ p, winV W H N z6 = p := ⟨_, rfl⟩
  obtain ⟨pf, hpf⟩ : ∃ p, winV W H N (max 0 z1) = p := ⟨_, rfl⟩
  rw [ha] at la KA
  rw [hb'] at lb KB
  rw [hc] at lc KC
  rw [hpf] at lf KF
  have STP := Lib.hid (fun f1 f2 f3 f4 f5 f6 hlt e1 e2 e3 e4 e5 e6 => stp_pos (f := f) (f1 := f1) (f2 := f2) (f3 := f3) (f4 := f4) (f5 := f5) (f6 := f6) ha hb' hc hpf hlt e1 e2 e3 e4 e5 e6)
  have STN := Lib.hid (fun f1 f2 f3 f4 hlt e1 e2 e3 e4 => stp_neg (f := f) (f1 := f1) (f2 := f2) (f3 := f3) (f4 := f4) ha hb' hc hpf hlt e1 e2 e3 e4)
  obtain ⟨mf, hmf⟩ : ∃ m, max 0 z1 = m := ⟨_, rfl⟩
  rw [hmf] at KF MX
  have KA := Lib.hid KA
  have KB := Lib.hid KB
  have KC := Lib.hid KC
  have KF := Lib.hid KF
  have ha1 : pa < M := by omega
  have hb1 : pb < M := by omega
  have hc1 : pc < M := by omega
  have hpf1 : pf < M := by omega
  have ha2 : (pa : Int) < M := by omega
  have hb2 : (pb : Int) < M := by omega
  have hc2 : (pc : Int) < M := by omega
  have hpf2 : (pf : Int) < M := by omega
  have hM1 : (M : Int) ≤ 65537 := by omega
  have hM0 : (1 : Int) ≤ M := by omega
  have OW := Lib.hid hown
  have HBB := Lib.hid hb
  clear K ha hb' hc hpf hmf hown hb la lb lc lf
  go_enter Try.func14, Try.ntmps14
  go_wp2_with fail
  have C0 : CT B w0 ((((w.alloc (.cells #[.int .i64 z0, .int .i64 z1, .int .i64 z2, .int .i64 z3, .int .i64 z4, .int .i64 z5, .int .i64 z6] 38)).alloc (.cells #[.int .i64 W] 3)).alloc (.cells #[.int .i64 H] 3)).alloc (.cells #[.int .i64 N] 3)) w.heap.size N #[.int .i64 z0, .int .i64 z1, .int .i64 z2, .int .i64 z3, .int .i64 z4, .int .i64 z5, .int .i64 z6] W H := by
    refine ⟨(((Blk.new w _ _).alloc _).alloc _).alloc _, ?_, ?_, ?_, (((HBB.out.alloc (by omega) _).alloc (by simp; omega) _).alloc (by simp; omega) _).alloc (by simp; omega) _⟩
    · have h := ((Blk.new (w.alloc (.cells #[.int .i64 z0, .int .i64 z1, .int .i64 z2, .int .i64 z3, .int .i64 z4, .int .i64 z5, .int .i64 z6] 38)) #[(.int .i64 W : Value)] 3).alloc (.cells #[.int .i64 H] 3)).alloc (.cells #[.int .i64 N] 3)
      rw [World.size_alloc] at h
      exact h
    · have h := (Blk.new ((w.alloc (.cells #[.int .i64 z0, .int .i64 z1, .int .i64 z2, .int .i64 z3, .int .i64 z4, .int .i64 z5, .int .i64 z6] 38)).alloc (.cells #[.int .i64 W] 3)) #[(.int .i64 H : Value)] 3).alloc (.cells #[.int .i64 N] 3)
      rw [World.size_alloc, World.size_alloc] at h
      exact h
    · have h := Blk.new (((w.alloc (.cells #[.int .i64 z0, .int .i64 z1, .int .i64 z2, .int .i64 z3, .int .i64 z4, .int .i64 z5, .int .i64 z6] 38)).alloc (.cells #[.int .i64 W] 3)).alloc (.cells #[.int .i64 H] 3)) #[(.int .i64 N : Value)] 3
      rw [World.size_alloc, World.size_alloc, World.size_alloc] at h
      exact h
  have O0 := (((OW.out.alloc (.cells #[.int .i64 z0, .int .i64 z1, .int .i64 z2, .int .i64 z3, .int .i64 z4, .int .i64 z5, .int .i64 z6] 38)).alloc (.cells #[.int .i64 W] 3)).alloc (.cells #[.int .i64 H] 3)).alloc (.cells #[.int .i64 N] 3)
  obtain ⟨X0, hX⟩ : ∃ X, ((((w.alloc (.cells #[.int .i64 z0, .int .i64 z1, .int .i64 z2, .int .i64 z3, .int .i64 z4, .int .i64 z5, .int .i64 z6] 38)).alloc (.cells #[.int .i64 W] 3)).alloc (.cells #[.int .i64 H] 3)).alloc (.cells #[.int .i64 N] 3)) = X := ⟨_, rfl⟩
  rw [hX] at C0 O0 ⊢
  clear hX
  have hgb : g < w.heap.size := hgl
  -- the rows, store by store
  obtain ⟨xa, hxa⟩ : ∃ x, f pa 2 = x := ⟨_, rfl⟩
  obtain ⟨f1, hf1⟩ : ∃ x, putV f pa 2 (f pa 2 + 1) = x := ⟨_, rfl⟩
  have t1 := hf pa 2
  have s1 : SmallM 1099511627777 f1 := by rw [← hf1]; exact putV_sm (sm_more hf (by omega)) (by omega) (by omega)
  have c0 := ownM_at O0 ha1 (show 2 < 7 by omega)
  have fr0 := O0.frozenAt (pa * 7 + 2)
  rw [hxa] at c0 t1
  have O1 : (X0.setCell ⟨g, pa * 7 + 2, none⟩ (.int .i64 (xa + 1))).ownsRow B 28 7 (.slice (some ⟨g, 0, none⟩) M M) M (rowM 7 (f1) M) := by rw [← hf1, hxa]; exact own_putV O0 (by omega)
  obtain ⟨xb, hxb⟩ : ∃ x, f1 pb 3 = x := ⟨_, rfl⟩
  obtain ⟨f2, hf2⟩ : ∃ x, putV f1 pb 3 (f1 pb 3 + 1) = x := ⟨_, rfl⟩
  have t2 := s1 pb 3
  have s2 : SmallM 1099511627778 f2 := by rw [← hf2]; exact putV_sm (sm_more s1 (by omega)) (by omega) (by omega)
  have c1 := ownM_at O1 hb1 (show 3 < 7 by omega)
  have fr1 := O1.frozenAt (pb * 7 + 3)
  rw [hxb] at c1 t2
  have O2 : ((X0.setCell ⟨g, pa * 7 + 2, none⟩ (.int .i64 (xa + 1))).setCell ⟨g, pb * 7 + 3, none⟩ (.int .i64 (xb + 1))).ownsRow B 28 7 (.slice (some ⟨g, 0, none⟩) M M) M (rowM 7 (f2) M) := by rw [← hf2, hxb]; exact own_putV O1 (by omega)
  have C2 := (C0.far (o := pa * 7 + 2) hgb hBg (.int .i64 (xa + 1))).far (o := pb * 7 + 3) hgb hBg (.int .i64 (xb + 1))
  have C0 := Lib.hid C0
  have O2 := Lib.hid O2
  have C2 := Lib.hid C2
  have E1 := Lib.hid hf1
  have E2 := Lib.hid hf2
  have S2 := Lib.hid s2
  have tc1 := C0.out.t.cell 1
  have tc5 := C0.out.t.cell 5
  clear O0 O1 hf1 hf2 hxa hxb s1 s2
  refine (KB.out X0 C0.out).mono ?_
  rintro e w' ⟨rfl, rfl⟩
  go_wp2_with fail
  refine (KA.out X0 C0.out).mono ?_
  rintro e w' ⟨rfl, rfl⟩
  go_wp2_with fail
  obtain ⟨X2, hX2⟩ : ∃ X, ((X0.setCell ⟨g, pa * 7 + 2, none⟩ (.int .i64 (xa + 1))).setCell ⟨g, pb * 7 + 3, none⟩ (.int .i64 (xb + 1))) = X := ⟨_, rfl⟩
  rw [hX2] at O2 C2 ⊢
  clear hX2 tc1 tc5 c0 c1 fr0 fr1 C0
  have tc1 := C2.out.t.cell 1
  have tc5 := C2.out.t.cell 5
  obtain ⟨xc, hxc⟩ : ∃ x, f2 pb 5 = x := ⟨_, rfl⟩
  obtain ⟨f3, hf3⟩ : ∃ x, putV f2 pb 5 (f2 pb 5 + (z5 - z1)) = x := ⟨_, rfl⟩
  have t3 := S2.out pb 5
  have s3 : SmallM 1101659111430 f3 := by rw [← hf3]; exact putV_sm (sm_more S2.out (by omega)) (by omega) (by omega)
  have c2 := ownM_at O2.out hb1 (show 5 < 7 by omega)
  have fr2 := O2.out.frozenAt (pb * 7 + 5)
  rw [hxc] at c2 t3
  have O3 : (X2.setCell ⟨g, pb * 7 + 5, none⟩ (.int .i64 (xc + (z5 - z1)))).drew.ownsRow B 28 7 (.slice (some ⟨g, 0, none⟩) M M) M (rowM 7 (f3) M) := by rw [← hf3, hxc]; exact own_drM (own_putV O2.out (by omega))
  have C3 := (C2.out.far (o := pb * 7 + 5) hgb hBg (.int .i64 (xc + (z5 - z1)))).dr
  have w1 : IntKind.i64.wrap (z5 - z1) = z5 - z1 := IntWalk.i64_in _ (by omega)
  have w2 : IntKind.i64.wrap (xc + (z5 - z1)) = xc + (z5 - z1) := IntWalk.i64_in _ (by omega)
  have E3 := Lib.hid hf3
  have S3 := Lib.hid s3
  have O3 := Lib.hid O3
  have C3 := Lib.hid C3
  clear hxc hf3 s3 C2 O2
  go_region
  obtain ⟨X3, hX3⟩ : ∃ X, (X2.setCell ⟨g, pb * 7 + 5, none⟩ (.int .i64 (xc + (z5 - z1)))).drew = X := ⟨_, rfl⟩
  rw [hX3] at O3 C3 ⊢
  clear hX3 tc1 tc5 c2 fr2 w1 w2
  have tc6 := C3.out.t.cell 6
  obtain ⟨xd, hxd⟩ : ∃ x, f3 pc 4 = x := ⟨_, rfl⟩
  obtain ⟨f4, hf4⟩ : ∃ x, putV f3 pc 4 (f3 pc 4 + 1) = x := ⟨_, rfl⟩
  have t4 := S3.out pc 4
  have s4 : SmallM 1101659111431 f4 := by rw [← hf4]; exact putV_sm (sm_more S3.out (by omega)) (by omega) (by omega)
  have c3 := ownM_at O3.out hc1 (show 4 < 7 by omega)
  have fr3 := O3.out.frozenAt (pc * 7 + 4)
  rw [hxd] at c3 t4
  have O4 : (X3.setCell ⟨g, pc * 7 + 4, none⟩ (.int .i64 (xd + 1))).ownsRow B 28 7 (.slice (some ⟨g, 0, none⟩) M M) M (rowM 7 (f4) M) := by rw [← hf4, hxd]; exact own_putV O3.out (by omega)
  have C4 := C3.out.far (o := pc * 7 + 4) hgb hBg (.int .i64 (xd + 1))
  have E4 := Lib.hid hf4
  have S4 := Lib.hid s4
  have tc1 := C4.t.cell 1
  have O4 := Lib.hid O4
  have C4 := Lib.hid C4
  clear hxd hf4 s4
  go_wp2_with fail
  refine (KC.out X3 C3.out).mono ?_
  rintro e w' ⟨rfl, rfl⟩
  go_wp2_with fail
  refine (KF.out _ C4.out).mono ?_
  rintro e w' ⟨rfl, rfl⟩
  obtain ⟨X4, hX4⟩ : ∃ X, X3.setCell ⟨g, pc * 7 + 4, none⟩ (.int .i64 (xd + 1)) = X := ⟨_, rfl⟩
  rw [hX4] at O4 C4 ⊢
  clear hX4 tc1 tc6 c3 fr3 O3 C3
  by_cases hlt : pf < pb
  · skip
    obtain ⟨xe, hxe⟩ : ∃ x, f4 pf 6 = x := ⟨_, rfl⟩
    obtain ⟨f5, hf5⟩ : ∃ x, putV f4 pf 6 (f4 pf 6 + 1) = x := ⟨_, rfl⟩
    have t5 := S4.out pf 6
    have s5 : SmallM 1101659111432 f5 := by rw [← hf5]; exact putV_sm (sm_more S4.out (by omega)) (by omega) (by omega)
    have c4 := ownM_at O4.out hpf1 (show 6 < 7 by omega)
    have fr4 := O4.out.frozenAt (pf * 7 + 6)
    rw [hxe] at c4 t5
    have O5 : (X4.setCell ⟨g, pf * 7 + 6, none⟩ (.int .i64 (xe + 1))).ownsRow B 28 7 (.slice (some ⟨g, 0, none⟩) M M) M (rowM 7 (f5) M) := by rw [← hf5, hxe]; exact own_putV O4.out (by omega)
    obtain ⟨xf, hxf⟩ : ∃ x, f5 pb 6 = x := ⟨_, rfl⟩
    obtain ⟨f6, hf6⟩ : ∃ x, putV f5 pb 6 (f5 pb 6 - 1) = x := ⟨_, rfl⟩
    have t6 := s5 pb 6
    have c5 := ownM_at O5 hb1 (show 6 < 7 by omega)
    have fr5 := O5.frozenAt (pb * 7 + 6)
    rw [hxf] at c5 t6
    have O6 : ((X4.setCell ⟨g, pf * 7 + 6, none⟩ (.int .i64 (xe + 1))).setCell ⟨g, pb * 7 + 6, none⟩ (.int .i64 (xf - 1))).ownsRow B 28 7 (.slice (some ⟨g, 0, none⟩) M M) M (rowM 7 (f6) M) := by rw [← hf6, hxf]; exact own_putV O5 (by omega)
    have C6 := (C4.out.far (o := pf * 7 + 6) hgb hBg (.int .i64 (xe + 1))).far (o := pb * 7 + 6) hgb hBg (.int .i64 (xf - 1))
    have R := Lib.hid (STP.out _ _ _ _ _ _ hlt E1.out E2.out E3.out E4.out hf5 hf6)
    have O6 := Lib.hid O6
    have C6 := Lib.hid C6
    clear hf5 hf6 hxe hxf s5 O5 O4 C4
    go_wp2_with fail
    go_end0
    exact ⟨rfl, by rw [R.out]; exact O6.out, C6.out.e⟩
  · have R := Lib.hid (STN.out _ _ _ _ hlt E1.out E2.out E3.out E4.out)
    go_wp2_with fail
    go_end0
    exact ⟨rfl, by rw [R.out]; exact O4.out, C4.out.e⟩
end Go.Proofs.Ytffcmfpadaebdab
